/- Versions: plain mathematics. No function of the program is named here. -/
import Derived.Test.YtncedcliklpapaaGreatVerMem
import Derived.Test.YtncedcliklpapaaGreatEff
namespace Go.Proofs.YtncedcliklpapaaGreat
set_option linter.unusedVariables false
/-- A version that may be. -/
def verB (x : Ver) : Bool := inB x.key 0 31 && inB x.by_ 0 9 && inB x.val 0 1000000
theorem verB_iff (x : Ver) : verB x = true ↔ (0 ≤ x.key ∧ x.key ≤ 31) ∧ (0 ≤ x.by_ ∧ x.by_ ≤ 9) ∧ (0 ≤ x.val ∧ x.val ≤ 1000000) := by
  simp only [verB, inB, Bool.and_eq_true, decide_eq_true_eq, and_assoc]
/-- x stands ahead of y. -/
def vLt (x y : Ver) : Prop := x.key < y.key ∨ (x.key = y.key ∧ x.by_ < y.by_)
instance (x y : Ver) : Decidable (vLt x y) := by unfold vLt; infer_instance
theorem vLt_trans {x y z : Ver} (h : vLt x y) (h2 : vLt y z) : vLt x z := by unfold vLt at *; omega
theorem vLt_irrefl {x : Ver} (h : vLt x x) : False := by unfold vLt at h; omega
theorem vLt_total {x y : Ver} (h : ¬ vLt x y) (h2 : ¬ (x.key = y.key ∧ x.by_ = y.by_)) : vLt y x := by unfold vLt at *; omega
/-- The k-th may be, and stands behind the one before. -/
def verAt (L : List Ver) (k : Nat) : Bool := verB (L.getD k noV) && (k == 0 || decide (vLt (L.getD (k - 1) noV) (L.getD k noV)))
theorem verAt_iff (L : List Ver) (k : Nat) : verAt L k = true ↔ verB (L.getD k noV) = true ∧ (k = 0 ∨ vLt (L.getD (k - 1) noV) (L.getD k noV)) := by
  simp only [verAt, Bool.and_eq_true, Bool.or_eq_true, beq_iff_eq, decide_eq_true_eq]
def versB (L : List Ver) : Bool := (List.range L.length).all (verAt L)
theorem versB_iff (L : List Ver) : versB L = true ↔ ∀ k, k < L.length → verAt L k = true := by simp [versB, List.all_eq_true]
theorem versB_bad (L : List Ver) (k : Nat) (hk : k < L.length) (h : verAt L k = false) : versB L = false := by
  rw [Bool.eq_false_iff]; intro hh; rw [(versB_iff L).1 hh k hk] at h; cases h
def VersTo (L : List Ver) (k : Nat) : Prop := ∀ j, j < k → verAt L j = true
theorem VersTo.zero (L : List Ver) : VersTo L 0 := fun j hj => absurd hj (Nat.not_lt_zero j)
theorem VersTo.next {L : List Ver} {k : Nat} (h : VersTo L k) (hk : verAt L k = true) : VersTo L (k + 1) := by
  intro j hj
  by_cases e : j = k
  · rw [e]; exact hk
  · exact h j (by omega)
/-- Versions in order. -/
def VOk (L : List Ver) : Prop := (∀ x ∈ L, verB x = true) ∧ L.Pairwise vLt
theorem versB_ok (L : List Ver) : versB L = true ↔ VOk L := by
  rw [versB_iff]
  constructor
  · intro h
    have h1 := fun k hk => (verAt_iff L k).1 (h k hk)
    refine ⟨fun x hx => ?_, ?_⟩
    · obtain ⟨i, hi, rfl⟩ := List.getElem_of_mem hx
      have := (h1 i hi).1
      rw [List.getD_eq_getElem?_getD, List.getElem?_eq_getElem hi] at this; exact this
    · rw [List.pairwise_iff_getElem]
      intro i j hi hj hij
      have key : ∀ d, i + 1 + d < L.length → vLt (L.getD i noV) (L.getD (i + 1 + d) noV) := by
        intro d
        induction d with
        | zero =>
          intro hd
          rcases (h1 (i + 1) (by omega)).2 with h2 | h2
          · omega
          · simpa using h2
        | succ d ih =>
          intro hd
          rcases (h1 (i + 1 + (d + 1)) hd).2 with h2 | h2
          · omega
          · rw [show i + 1 + (d + 1) - 1 = i + 1 + d by omega] at h2
            exact vLt_trans (ih (by omega)) h2
      have := key (j - (i + 1)) (by omega)
      rw [show i + 1 + (j - (i + 1)) = j by omega, List.getD_eq_getElem?_getD, List.getD_eq_getElem?_getD, List.getElem?_eq_getElem hi, List.getElem?_eq_getElem hj] at this
      exact this
  · rintro ⟨h1, h2⟩ k hk
    rw [verAt_iff]
    refine ⟨h1 _ (getD_memV L k hk), ?_⟩
    by_cases h0 : k = 0
    · exact .inl h0
    · right
      have := List.pairwise_iff_getElem.1 h2 (k - 1) k (by omega) hk (by omega)
      rw [List.getD_eq_getElem?_getD, List.getD_eq_getElem?_getD, List.getElem?_eq_getElem (by omega : k - 1 < L.length), List.getElem?_eq_getElem hk]
      exact this
theorem VOk.sub {L M : List Ver} (h : VOk L) (hs : M.Sublist L) : VOk M := ⟨fun x hx => h.1 x (hs.subset hx), h.2.sublist hs⟩
theorem VOk.get {L : List Ver} (h : VOk L) {i j : Nat} (hij : i < j) (hj : j < L.length) : vLt (L.getD i noV) (L.getD j noV) := by
  have := List.pairwise_iff_getElem.1 h.2 i j (by omega) hj hij
  rw [List.getD_eq_getElem?_getD, List.getD_eq_getElem?_getD, List.getElem?_eq_getElem (by omega : i < L.length), List.getElem?_eq_getElem hj]
  exact this
theorem VOk.at {L : List Ver} (h : VOk L) {i : Nat} (hi : i < L.length) : verB (L.getD i noV) = true := h.1 _ (getD_memV L i hi)
theorem mem_getV {L : List Ver} {x : Ver} (h : x ∈ L) : ∃ i, i < L.length ∧ L.getD i noV = x := by
  obtain ⟨i, hi, rfl⟩ := List.getElem_of_mem h
  exact ⟨i, hi, by rw [List.getD_eq_getElem?_getD, List.getElem?_eq_getElem hi]; rfl⟩
/-- Key and action tell the version. -/
theorem VOk.uniq {L : List Ver} (h : VOk L) {x y : Ver} (hx : x ∈ L) (hy : y ∈ L) (h1 : x.key = y.key) (h2 : x.by_ = y.by_) : x = y := by
  obtain ⟨i, hi, rfl⟩ := mem_getV hx
  obtain ⟨j, hj, rfl⟩ := mem_getV hy
  rcases (by omega : i < j ∨ i = j ∨ j < i) with h3 | rfl | h3
  · have := h.get h3 hj; unfold vLt at this; omega
  · rfl
  · have := h.get h3 hi; unfold vLt at this; omega
theorem VOk.ext {L M : List Ver} (h : VOk L) (h2 : VOk M) (hm : ∀ x, x ∈ L ↔ x ∈ M) : L = M := by
  have nd : ∀ {K : List Ver}, VOk K → K.Nodup := fun hK => hK.2.imp fun {a b} hl e => by subst e; exact vLt_irrefl hl
  exact List.Perm.eq_of_pairwise (le := vLt) (fun a b _ _ h3 h4 => (vLt_irrefl (vLt_trans h3 h4)).elim) h.2 h2.2 ((List.perm_ext_iff_of_nodup (nd h) (nd h2)).2 hm)
theorem vers_len {L : List Ver} (h : VOk L) : L.length ≤ 320 := by
  have key : ∀ k, k < L.length → (k : Int) ≤ (L.getD k noV).key * 10 + (L.getD k noV).by_ := by
    intro k
    induction k with
    | zero => intro hk; have := (verB_iff _).1 (h.at hk); omega
    | succ k ih =>
      intro hk
      have h1 := ih (by omega)
      have h2 := h.get (show k < k + 1 by omega) hk
      have h3 := (verB_iff _).1 (h.at hk)
      have h4 := (verB_iff _).1 (h.at (show k < L.length by omega))
      unfold vLt at h2
      omega
  rcases Nat.eq_zero_or_pos L.length with h0 | h0
  · omega
  · have h1 := key (L.length - 1) (by omega)
    have h2 := (verB_iff _).1 (h.at (show L.length - 1 < L.length by omega))
    omega
/-! Reading. -/
/-- The version may be read for the key by the action. -/
def canR (key by_ : Int) (x : Ver) : Bool := decide (x.key = key ∧ x.by_ < by_)
theorem canR_iff {key by_ : Int} {x : Ver} : canR key by_ x = true ↔ x.key = key ∧ x.by_ < by_ := by simp [canR]
/-- What is read of the first k. -/
def rdN (L : List Ver) (key by_ : Int) (a : Int × Int) : Nat → Int × Int
  | 0 => a
  | k + 1 => if canR key by_ (L.getD k noV) then ((L.getD k noV).val, (L.getD k noV).by_) else rdN L key by_ a k
def readL (S : List Ent) (L : List Ver) (key by_ : Int) : Int × Int := rdN L key by_ (atM S key, -1) L.length
def readVM (S : List Ent) (L : List Ver) (key by_ : Int) : Int × Int := if storeB S && versB L && inB key 0 31 && inB by_ 0 10 then readL S L key by_ else (-1, -1)
theorem readVM_yes {S : List Ent} {L : List Ver} {key by_ : Int} (h : storeB S = true) (h2 : versB L = true) (h3 : inB key 0 31 = true) (h4 : inB by_ 0 10 = true) : readVM S L key by_ = readL S L key by_ := by simp [readVM, h, h2, h3, h4]
theorem readVM_no {S : List Ent} {L : List Ver} {key by_ : Int} (h : (storeB S && versB L && inB key 0 31 && inB by_ 0 10) = false) : readVM S L key by_ = (-1, -1) := by simp [readVM, h]
theorem rdN_spec (L : List Ver) (key by_ : Int) (a : Int × Int) : ∀ k, (∃ i, i < k ∧ canR key by_ (L.getD i noV) = true ∧ (∀ j, i < j → j < k → canR key by_ (L.getD j noV) = false) ∧ rdN L key by_ a k = ((L.getD i noV).val, (L.getD i noV).by_)) ∨
    ((∀ j, j < k → canR key by_ (L.getD j noV) = false) ∧ rdN L key by_ a k = a) := by
  intro k
  induction k with
  | zero => exact .inr ⟨fun j hj => absurd hj (Nat.not_lt_zero j), rfl⟩
  | succ k ih =>
    cases hc : canR key by_ (L.getD k noV) with
    | true => exact .inl ⟨k, Nat.lt_succ_self k, hc, fun j h1 h2 => by omega, by simp only [rdN, hc, if_true]⟩
    | false =>
      have hr : rdN L key by_ a (k + 1) = rdN L key by_ a k := by simp only [rdN, hc, Bool.false_eq_true, if_false]
      rw [hr]
      rcases ih with ⟨i, h1, h2, h3, h4⟩ | ⟨h1, h2⟩
      · refine .inl ⟨i, by omega, h2, fun j hj hk => ?_, h4⟩
        rcases (by omega : j < k ∨ j = k) with h5 | rfl
        · exact h3 j hj h5
        · exact hc
      · refine .inr ⟨fun j hj => ?_, h2⟩
        rcases (by omega : j < k ∨ j = k) with h5 | rfl
        · exact h1 j h5
        · exact hc
/-- What is read: the greatest earlier version, or the store's value. -/
theorem readL_spec {S : List Ent} {L : List Ver} (hL : VOk L) (key by_ : Int) :
    (∃ x, x ∈ L ∧ x.key = key ∧ x.by_ < by_ ∧ (∀ y ∈ L, y.key = key → y.by_ < by_ → y.by_ ≤ x.by_) ∧ readL S L key by_ = (x.val, x.by_)) ∨
    ((∀ y ∈ L, ¬ (y.key = key ∧ y.by_ < by_)) ∧ readL S L key by_ = (atM S key, -1)) := by
  rcases rdN_spec L key by_ (atM S key, -1) L.length with ⟨i, h1, h2, h3, h4⟩ | ⟨h1, h2⟩
  · obtain ⟨g1, g2⟩ := canR_iff.1 h2
    refine .inl ⟨L.getD i noV, getD_memV L i h1, g1, g2, fun y hy hk hb => ?_, h4⟩
    obtain ⟨j, hj, rfl⟩ := mem_getV hy
    rcases (by omega : i < j ∨ i = j ∨ j < i) with h5 | rfl | h5
    · have := h3 j h5 hj
      rw [canR_iff.2 ⟨hk, hb⟩] at this; cases this
    · exact Int.le_refl _
    · have := hL.get h5 h1; unfold vLt at this; omega
  · refine .inr ⟨fun y hy hc => ?_, h2⟩
    obtain ⟨j, hj, rfl⟩ := mem_getV hy
    have := h1 j hj
    rw [canR_iff.2 hc] at this; cases this
theorem readL_hit {S : List Ent} {L : List Ver} (hL : VOk L) {key by_ : Int} {x : Ver} (hx : x ∈ L) (h1 : x.key = key) (h2 : x.by_ < by_) (h3 : ∀ y ∈ L, y.key = key → y.by_ < by_ → y.by_ ≤ x.by_) : readL S L key by_ = (x.val, x.by_) := by
  rcases readL_spec (S := S) hL key by_ with ⟨z, g1, g2, g3, g4, g5⟩ | ⟨g1, -⟩
  · have := g4 x hx h1 h2
    have := h3 z g1 g2 g3
    obtain rfl := hL.uniq hx g1 (by omega) (by omega)
    exact g5
  · exact absurd ⟨h1, h2⟩ (g1 x hx)
theorem readL_miss {S : List Ent} {L : List Ver} (hL : VOk L) {key by_ : Int} (h : ∀ y ∈ L, ¬ (y.key = key ∧ y.by_ < by_)) : readL S L key by_ = (atM S key, -1) := by
  rcases readL_spec (S := S) hL key by_ with ⟨z, g1, g2, g3, -⟩ | ⟨-, g2⟩
  · exact absurd ⟨g2, g3⟩ (h z g1)
  · exact g2
theorem readL_congr {S T : List Ent} {L M : List Ver} (hL : VOk L) (hM : VOk M) {key by_ : Int} (hS : atM S key = atM T key) (h : ∀ x, x.key = key → x.by_ < by_ → (x ∈ L ↔ x ∈ M)) : readL S L key by_ = readL T M key by_ := by
  rcases readL_spec (S := S) hL key by_ with ⟨z, g1, g2, g3, g4, g5⟩ | ⟨g1, g2⟩
  · rw [g5]
    exact (readL_hit hM ((h z g2 g3).1 g1) g2 g3 fun y hy h1 h2 => g4 y ((h y h1 h2).2 hy) h1 h2).symm
  · rw [g2, hS]
    exact (readL_miss hM fun y hy hc => g1 y ((h y hc.1 hc.2).2 hy) hc).symm
theorem readL_bd {S : List Ent} {L : List Ver} (hS : storeB S = true) (hL : VOk L) (key by_ : Int) : (0 ≤ (readL S L key by_).1 ∧ (readL S L key by_).1 ≤ 1000000) ∧ -1 ≤ (readL S L key by_).2 ∧ (readL S L key by_).2 ≤ 9 ∧ (0 ≤ by_ → (readL S L key by_).2 < by_) ∧ ((readL S L key by_).2 < 0 → (readL S L key by_).1 = atM S key) := by
  rcases readL_spec (S := S) hL key by_ with ⟨z, g1, g2, g3, g4, g5⟩ | ⟨g1, g2⟩
  · rw [g5]
    have := (verB_iff _).1 (hL.1 z g1)
    refine ⟨by simp only; omega, by simp only; omega, by simp only; omega, fun _ => g3, fun h => ?_⟩
    simp only at h; omega
  · rw [g2]
    have := atM_bd ((storeB_ok _).1 hS).2 key
    exact ⟨this, by simp, by simp, fun h => by simp only; omega, fun _ => rfl⟩
/-! Dropping and putting. -/
def dropL (L : List Ver) (by_ : Int) : List Ver := L.filter (fun x => decide (x.by_ ≠ by_))
def dropVM (L : List Ver) (by_ : Int) : List Ver := if versB L then dropL L by_ else []
theorem mem_dropL {L : List Ver} {by_ : Int} {x : Ver} : x ∈ dropL L by_ ↔ x ∈ L ∧ x.by_ ≠ by_ := by simp [dropL]
theorem ok_dropL {L : List Ver} (h : VOk L) (by_ : Int) : VOk (dropL L by_) := h.sub List.filter_sublist
theorem dropL_again (L : List Ver) (by_ : Int) : dropL (dropL L by_) by_ = dropL L by_ := by simp [dropL, List.filter_filter]
theorem dropL_next (L : List Ver) (by_ : Int) (k : Nat) (h : k < L.length) : dropL (L.take (k + 1)) by_ = if (L.getD k noV).by_ ≠ by_ then dropL (L.take k) by_ ++ [L.getD k noV] else dropL (L.take k) by_ := by
  have e : L.take (k + 1) = L.take k ++ [L.getD k noV] := by
    rw [List.take_succ_eq_append_getElem h, List.getD_eq_getElem?_getD, List.getElem?_eq_getElem h]; rfl
  unfold dropL
  rw [e, List.filter_append]
  by_cases hc : (L.getD k noV).by_ = by_
  · rw [if_neg (fun h => h hc)]
    simp only [List.filter_cons, List.filter_nil]
    rw [if_neg (by rw [decide_eq_true_eq]; exact fun h => h hc), List.append_nil]
  · rw [if_pos hc]
    simp only [List.filter_cons, List.filter_nil]
    rw [if_pos (by rw [decide_eq_true_eq]; exact hc)]
/-- A version is put in its place. -/
def insV (v : Ver) : List Ver → List Ver
  | [] => [v]
  | x :: r => if vLt x v then x :: insV v r else v :: x :: r
theorem mem_insV {v x : Ver} {L : List Ver} : x ∈ insV v L ↔ x = v ∨ x ∈ L := by
  induction L with
  | nil => simp [insV]
  | cons y r ih =>
    unfold insV
    split
    · simp only [List.mem_cons, ih]
      constructor
      · rintro (h | h | h)
        · exact .inr (.inl h)
        · exact .inl h
        · exact .inr (.inr h)
      · rintro (h | h | h)
        · exact .inr (.inl h)
        · exact .inl h
        · exact .inr (.inr h)
    · simp only [List.mem_cons]
theorem insV_len (v : Ver) (L : List Ver) : (insV v L).length = L.length + 1 := by
  induction L with
  | nil => rfl
  | cons y r ih => unfold insV; split <;> simp [ih]
theorem ok_insV {v : Ver} {L : List Ver} (hv : verB v = true) (hL : VOk L) (h : ∀ x ∈ L, ¬ (x.key = v.key ∧ x.by_ = v.by_)) : VOk (insV v L) := by
  refine ⟨fun x hx => ?_, ?_⟩
  · rcases mem_insV.1 hx with rfl | hx
    · exact hv
    · exact hL.1 x hx
  · obtain ⟨-, hp⟩ := hL
    induction L with
    | nil => simp [insV]
    | cons y r ih =>
      rw [List.pairwise_cons] at hp
      unfold insV
      by_cases hy : vLt y v
      · rw [if_pos hy, List.pairwise_cons]
        refine ⟨fun x hx => ?_, ih (fun x hx => h x (List.mem_cons_of_mem _ hx)) hp.2⟩
        rcases mem_insV.1 hx with rfl | hx
        · exact hy
        · exact hp.1 x hx
      · rw [if_neg hy, List.pairwise_cons]
        have hvy := vLt_total hy (h y List.mem_cons_self)
        refine ⟨fun x hx => ?_, List.pairwise_cons.2 hp⟩
        rcases List.mem_cons.1 hx with rfl | hx
        · exact hvy
        · exact vLt_trans hvy (hp.1 x hx)
/-- Its place. -/
theorem insV_at (v : Ver) : ∀ (L : List Ver) (k : Nat), k ≤ L.length → (∀ i, i < k → vLt (L.getD i noV) v) → (k < L.length → ¬ vLt (L.getD k noV) v) → insV v L = L.take k ++ v :: L.drop k := by
  intro L
  induction L with
  | nil => intro k hk _ _; obtain rfl : k = 0 := by simpa using hk
           rfl
  | cons y r ih =>
    intro k hk h1 h2
    cases k with
    | zero =>
      have := h2 (by simp)
      unfold insV
      rw [if_neg (by simpa using this)]; simp
    | succ k =>
      have h0 := h1 0 (by omega)
      unfold insV
      rw [if_pos (by simpa using h0), ih k (by simpa using hk) (fun i hi => by simpa using h1 (i + 1) (by omega)) (fun hk2 => by simpa using h2 (by simpa using hk2))]
      simp
/-- The first k of the writes are put. -/
def putN (L : List Ver) (by_ : Int) (W : List Ent) : Nat → List Ver
  | 0 => dropL L by_
  | k + 1 => insV ⟨(W.getD k (0, 0)).1, by_, (W.getD k (0, 0)).2⟩ (putN L by_ W k)
def putL (L : List Ver) (by_ : Int) (W : List Ent) : List Ver := putN L by_ W W.length
def putVM (L : List Ver) (by_ : Int) (W : List Ent) : List Ver × Bool := if versB L && inB by_ 0 9 && writesB W then (putL L by_ W, true) else ([], false)
theorem putVM_yes {L : List Ver} {by_ : Int} {W : List Ent} (h : versB L = true) (h2 : inB by_ 0 9 = true) (h3 : writesB W = true) : putVM L by_ W = (putL L by_ W, true) := by simp [putVM, h, h2, h3]
theorem putVM_no {L : List Ver} {by_ : Int} {W : List Ent} (h : (versB L && inB by_ 0 9 && writesB W) = false) : putVM L by_ W = ([], false) := by simp [putVM, h]
theorem mem_putN {L : List Ver} {by_ : Int} {W : List Ent} {x : Ver} : ∀ k, x ∈ putN L by_ W k ↔ (x ∈ L ∧ x.by_ ≠ by_) ∨ ∃ i, i < k ∧ x = ⟨(W.getD i (0, 0)).1, by_, (W.getD i (0, 0)).2⟩ := by
  intro k
  induction k with
  | zero => simp only [putN, mem_dropL]
            exact ⟨.inl, fun h => h.elim id fun ⟨i, hi, _⟩ => absurd hi (Nat.not_lt_zero i)⟩
  | succ k ih =>
    rw [putN, mem_insV, ih]
    constructor
    · rintro (h | h | ⟨i, hi, h⟩)
      · exact .inr ⟨k, Nat.lt_succ_self k, h⟩
      · exact .inl h
      · exact .inr ⟨i, by omega, h⟩
    · rintro (h | ⟨i, hi, h⟩)
      · exact .inr (.inl h)
      · rcases (by omega : i < k ∨ i = k) with h1 | rfl
        · exact .inr (.inr ⟨i, h1, h⟩)
        · exact .inl h
theorem putN_len (L : List Ver) (by_ : Int) (W : List Ent) : ∀ k, (putN L by_ W k).length ≤ L.length + k := by
  intro k
  induction k with
  | zero => simp only [putN, dropL]; exact List.length_filter_le _ _
  | succ k ih => rw [putN, insV_len]; omega
theorem ok_putN {L : List Ver} {by_ : Int} {W : List Ent} (hL : VOk L) (hb : inB by_ 0 9 = true) (hW : writesB W = true) : ∀ k, k ≤ W.length → VOk (putN L by_ W k) := by
  intro k
  induction k with
  | zero => intro _; exact ok_dropL hL by_
  | succ k ih =>
    intro hk
    have hw := wrE_mem hW k (by omega)
    have hb2 := inB_true hb
    refine ok_insV ((verB_iff _).2 ⟨hw.1, hb2, hw.2⟩) (ih (by omega)) fun x hx hc => ?_
    rcases (mem_putN k).1 hx with ⟨-, h1⟩ | ⟨i, hi, rfl⟩
    · exact h1 hc.2
    · have ha := ((writesB_ok _).1 hW).1
      have := List.pairwise_iff_getElem.1 ha i k (by omega) (by omega) hi
      have e1 : W.getD i (0, 0) = W[i]'(by omega) := by rw [List.getD_eq_getElem?_getD, List.getElem?_eq_getElem (by omega : i < W.length)]; rfl
      have e2 : W.getD k (0, 0) = W[k]'(by omega) := by rw [List.getD_eq_getElem?_getD, List.getElem?_eq_getElem (by omega : k < W.length)]; rfl
      have hk2 := hc.1
      simp only [e1, e2] at hk2
      omega
theorem ok_putL {L : List Ver} {by_ : Int} {W : List Ent} (hL : VOk L) (hb : inB by_ 0 9 = true) (hW : writesB W = true) : VOk (putL L by_ W) := ok_putN hL hb hW _ (Nat.le_refl _)
theorem mem_putL {L : List Ver} {by_ : Int} {W : List Ent} {x : Ver} : x ∈ putL L by_ W ↔ (x ∈ L ∧ x.by_ ≠ by_) ∨ (x.by_ = by_ ∧ (x.key, x.val) ∈ W) := by
  unfold putL
  rw [mem_putN]
  constructor
  · rintro (h | ⟨i, hi, rfl⟩)
    · exact .inl h
    · refine .inr ⟨rfl, ?_⟩
      have e1 : W.getD i (0, 0) = W[i] := by rw [List.getD_eq_getElem?_getD, List.getElem?_eq_getElem hi]; rfl
      simp only [e1]; exact List.getElem_mem hi
  · rintro (h | ⟨h1, h2⟩)
    · exact .inl h
    · obtain ⟨i, hi, e⟩ := List.getElem_of_mem h2
      refine .inr ⟨i, hi, ?_⟩
      have e1 : W.getD i (0, 0) = W[i] := by rw [List.getD_eq_getElem?_getD, List.getElem?_eq_getElem hi]; rfl
      rw [e1, e]
      obtain ⟨a, b, c⟩ := x
      simp only at h1
      subst h1; rfl
/-- Put versions are read by the next action. -/
theorem put_read {L : List Ver} {by_ : Int} {W : List Ent} (hL : VOk L) (hb : inB by_ 0 9 = true) (hW : writesB W = true) (S : List Ent) {e : Ent} (he : e ∈ W) : readL S (putL L by_ W) e.1 (by_ + 1) = (e.2, by_) := by
  refine readL_hit (x := ⟨e.1, by_, e.2⟩) (ok_putL hL hb hW) (mem_putL.2 (.inr ⟨rfl, he⟩)) rfl (by simp only; omega) fun y _ _ hy => ?_
  simp only; omega
theorem put_drop {L : List Ver} {by_ : Int} {W : List Ent} (hL : VOk L) (hb : inB by_ 0 9 = true) (hW : writesB W = true) : dropL (putL L by_ W) by_ = dropL L by_ := by
  refine (ok_dropL (ok_putL hL hb hW) by_).ext (ok_dropL hL by_) fun x => ?_
  rw [mem_dropL, mem_dropL, mem_putL]
  constructor
  · rintro ⟨h | h, h2⟩
    · exact h
    · exact absurd h.1 h2
  · exact fun h => ⟨.inl h, h.2⟩
/-! The last versions. -/
/-- Of the first j keys. -/
def lastN (S : List Ent) (L : List Ver) : Nat → List Ent
  | 0 => []
  | j + 1 => lastN S L j ++ (if 0 < (readL S L j 10).1 then [((j : Int), (readL S L j 10).1)] else [])
def lastVM (S : List Ent) (L : List Ver) : List Ent := if storeB S && versB L then lastN S L 32 else []
theorem lastVM_yes {S : List Ent} {L : List Ver} (h : storeB S = true) (h2 : versB L = true) : lastVM S L = lastN S L 32 := by simp [lastVM, h, h2]
theorem lastVM_no {S : List Ent} {L : List Ver} (h : (storeB S && versB L) = false) : lastVM S L = [] := by simp [lastVM, h]
theorem mem_lastN {S : List Ent} {L : List Ver} {e : Ent} : ∀ j, e ∈ lastN S L j ↔ ∃ k : Nat, k < j ∧ e = ((k : Int), (readL S L k 10).1) ∧ 0 < (readL S L k 10).1 := by
  intro j
  induction j with
  | zero => simp only [lastN, List.not_mem_nil, false_iff]; rintro ⟨k, hk, -⟩; omega
  | succ j ih =>
    rw [lastN, List.mem_append, ih]
    constructor
    · rintro (⟨k, hk, h1, h2⟩ | h)
      · exact ⟨k, by omega, h1, h2⟩
      · split at h
        · rename_i h0
          simp only [List.mem_singleton] at h
          exact ⟨j, Nat.lt_succ_self j, h, h0⟩
        · cases h
    · rintro ⟨k, hk, h1, h2⟩
      rcases (by omega : k < j ∨ k = j) with h3 | rfl
      · exact .inl ⟨k, h3, h1, h2⟩
      · right; rw [if_pos h2, h1]; exact List.mem_singleton.2 rfl
theorem asc_lastN (S : List Ent) (L : List Ver) : ∀ j, Asc (lastN S L j) := by
  intro j
  induction j with
  | zero => exact List.Pairwise.nil
  | succ j ih =>
    unfold Asc
    rw [lastN, List.pairwise_append]
    refine ⟨ih, by split <;> simp, fun a ha b hb => ?_⟩
    obtain ⟨k, hk, rfl, -⟩ := (mem_lastN j).1 ha
    split at hb
    · simp only [List.mem_singleton] at hb
      subst hb; simp only; omega
    · cases hb
theorem ok_lastJ {S : List Ent} {L : List Ver} (hS : storeB S = true) (hL : VOk L) (j : Nat) (hj : j ≤ 32) : Ok (lastN S L j) := by
  refine ⟨asc_lastN S L j, fun e he => ?_⟩
  obtain ⟨k, hk, rfl, h0⟩ := (mem_lastN j).1 he
  have := readL_bd hS hL k 10
  simp only; omega
theorem atM_lastJ {S : List Ent} {L : List Ver} (hS : storeB S = true) (hL : VOk L) (j n : Nat) (hn : n < j) : atM (lastN S L j) n = (readL S L n 10).1 := by
  by_cases hp : 0 < (readL S L n 10).1
  · exact atM_mem (asc_lastN S L j) _ ((mem_lastN j).2 ⟨n, hn, rfl, hp⟩)
  · have := readL_bd hS hL n 10
    rw [atM_none fun e he => ?_]
    · omega
    · obtain ⟨i, hi, rfl, hq⟩ := (mem_lastN j).1 he
      intro e
      have : i = n := by simp only at e; omega
      subst this; exact hp hq
theorem ok_lastN {S : List Ent} {L : List Ver} (hS : storeB S = true) (hL : VOk L) : Ok (lastN S L 32) := ok_lastJ hS hL 32 (Nat.le_refl _)
theorem atM_lastN {S : List Ent} {L : List Ver} (hS : storeB S = true) (hL : VOk L) {k : Int} (h0 : 0 ≤ k) (h1 : k ≤ 31) : atM (lastN S L 32) k = (readL S L k 10).1 := by
  obtain ⟨n, rfl⟩ : ∃ n : Nat, k = n := ⟨k.toNat, by omega⟩
  exact atM_lastJ hS hL 32 n (by omega)
/-- Without versions the store stays. -/
theorem last_nil {S : List Ent} (hS : storeB S = true) : lastN S [] 32 = S := by
  have hL : VOk [] := ⟨fun x hx => (by cases hx), List.Pairwise.nil⟩
  refine ok_ext _ _ (ok_lastN hS hL) ((storeB_ok _).1 hS) fun k h0 h1 => ?_
  rw [atM_lastN hS hL h0 h1]; rfl
theorem last_len (S : List Ent) (L : List Ver) : ∀ j, (lastN S L j).length ≤ j := by
  intro j
  induction j with
  | zero => simp [lastN]
  | succ j ih => rw [lastN, List.length_append]; split <;> simp <;> omega
end Go.Proofs.YtncedcliklpapaaGreat
