/- Versions in a list of their own for every key: plain mathematics. No function of the program is named here. -/
import Derived.Test.YtncedcliklpapaaGreatVerMath
namespace Go.Proofs.YtncedcliklpapaaGreat
set_option linter.unusedVariables false
/-- Lists of the keys 0 to 31: each of its key alone, by ascending actions. -/
def KOk (F : Nat → List Ver) : Prop := ∀ k, k < 32 → (∀ x ∈ F k, verB x = true ∧ x.key = (k : Int)) ∧ (F k).Pairwise (fun x y => x.by_ < y.by_)
/-- The lists of the first n keys, one after the other. -/
def catK (F : Nat → List Ver) : Nat → List Ver
  | 0 => []
  | n + 1 => catK F n ++ F n
theorem mem_catK {F : Nat → List Ver} {x : Ver} : ∀ n, x ∈ catK F n ↔ ∃ k, k < n ∧ x ∈ F k := by
  intro n
  induction n with
  | zero => simp only [catK, List.not_mem_nil, false_iff]; rintro ⟨k, hk, -⟩; omega
  | succ n ih =>
    rw [catK, List.mem_append, ih]
    constructor
    · rintro (⟨k, hk, h⟩ | h)
      · exact ⟨k, by omega, h⟩
      · exact ⟨n, by omega, h⟩
    · rintro ⟨k, hk, h⟩
      by_cases e : k = n
      · subst e; exact .inr h
      · exact .inl ⟨k, by omega, h⟩
theorem catK_ok {F : Nat → List Ver} (h : KOk F) : ∀ n, n ≤ 32 → VOk (catK F n) := by
  intro n
  induction n with
  | zero => intro _; exact ⟨fun x hx => (by cases hx), List.Pairwise.nil⟩
  | succ n ih =>
    intro hn
    obtain ⟨h1, h2⟩ := ih (by omega)
    obtain ⟨g1, g2⟩ := h n (by omega)
    refine ⟨fun x hx => ?_, ?_⟩
    · rcases List.mem_append.1 hx with hx | hx
      · exact h1 x hx
      · exact (g1 x hx).1
    · rw [catK, List.pairwise_append]
      refine ⟨h2, List.Pairwise.imp_of_mem (fun {a b} ha hb hl => ?_) g2, fun a ha b hb => ?_⟩
      · exact .inr ⟨by rw [(g1 a ha).2, (g1 b hb).2], hl⟩
      · obtain ⟨k, hk, ha⟩ := (mem_catK n).1 ha
        have := ((h k (by omega)).1 a ha).2
        have := (g1 b hb).2
        exact .inl (by omega)
theorem catK_len {F : Nat → List Ver} (h : KOk F) {k : Nat} (hk : k < 32) : (F k).length ≤ 320 := by
  have h1 := vers_len (catK_ok h (k + 1) (by omega))
  rw [catK, List.length_append] at h1
  omega
theorem catK_len' {F : Nat → List Ver} (h : KOk F) {n : Nat} (hn : n ≤ 32) : (catK F n).length ≤ 320 := vers_len (catK_ok h n hn)
theorem catK_congr {F G : Nat → List Ver} : ∀ n, (∀ k, k < n → F k = G k) → catK F n = catK G n := by
  intro n
  induction n with
  | zero => intro _; rfl
  | succ n ih => intro h; rw [catK, catK, ih fun k hk => h k (by omega), h n (by omega)]
/-- Those of a key. -/
def ofK (L : List Ver) (k : Nat) : List Ver := L.filter (fun x => decide (x.key = (k : Int)))
theorem mem_ofK {L : List Ver} {k : Nat} {x : Ver} : x ∈ ofK L k ↔ x ∈ L ∧ x.key = (k : Int) := by simp [ofK]
theorem kok_ofK {L : List Ver} (h : VOk L) : KOk (ofK L) := by
  intro k hk
  refine ⟨fun x hx => ⟨h.1 x (mem_ofK.1 hx).1, (mem_ofK.1 hx).2⟩, ?_⟩
  have h2 := (h.sub (List.filter_sublist (p := fun x : Ver => decide (x.key = (k : Int))))).2
  refine List.Pairwise.imp_of_mem (fun {a b} ha hb hl => ?_) h2
  have h3 := (mem_ofK.1 ha).2
  have h4 := (mem_ofK.1 hb).2
  rcases hl with hl | hl
  · omega
  · exact hl.2
theorem key_nat {x : Ver} (h : verB x = true) : ∃ k : Nat, k < 32 ∧ x.key = (k : Int) := by
  have := (verB_iff x).1 h
  exact ⟨x.key.toNat, by omega, by omega⟩
theorem catK_ofK {L : List Ver} (h : VOk L) : catK (ofK L) 32 = L := by
  refine (catK_ok (kok_ofK h) 32 (Nat.le_refl _)).ext h fun x => ?_
  rw [mem_catK]
  constructor
  · rintro ⟨k, hk, hx⟩; exact (mem_ofK.1 hx).1
  · intro hx
    obtain ⟨k, hk, e⟩ := key_nat (h.1 x hx)
    exact ⟨k, hk, mem_ofK.2 ⟨hx, e⟩⟩
theorem ofK_nil (k : Nat) : ofK [] k = [] := rfl
theorem ofK_next (L : List Ver) (i : Nat) (h : i < L.length) (k : Nat) : ofK (L.take (i + 1)) k = if (L.getD i noV).key = (k : Int) then ofK (L.take i) k ++ [L.getD i noV] else ofK (L.take i) k := by
  have e : L.take (i + 1) = L.take i ++ [L.getD i noV] := by
    rw [List.take_succ_eq_append_getElem h, List.getD_eq_getElem?_getD, List.getElem?_eq_getElem h]; rfl
  unfold ofK
  rw [e, List.filter_append]
  by_cases hc : (L.getD i noV).key = (k : Int)
  · rw [if_pos hc]
    simp only [List.filter_cons, List.filter_nil]
    rw [if_pos (by rw [decide_eq_true_eq]; exact hc)]
  · rw [if_neg hc]
    simp only [List.filter_cons, List.filter_nil]
    rw [if_neg (by rw [decide_eq_true_eq]; exact hc), List.append_nil]
/-! Dropping. -/
theorem kok_drop {F : Nat → List Ver} (h : KOk F) (by_ : Int) : KOk (fun k => dropL (F k) by_) := fun k hk =>
  ⟨fun x hx => (h k hk).1 x (mem_dropL.1 hx).1, (h k hk).2.sublist List.filter_sublist⟩
theorem catK_drop {F : Nat → List Ver} (h : KOk F) (by_ : Int) : catK (fun k => dropL (F k) by_) 32 = dropL (catK F 32) by_ := by
  refine (catK_ok (kok_drop h by_) 32 (Nat.le_refl _)).ext (ok_dropL (catK_ok h 32 (Nat.le_refl _)) by_) fun x => ?_
  rw [mem_catK, mem_dropL, mem_catK]
  constructor
  · rintro ⟨k, hk, hx⟩; exact ⟨⟨k, hk, (mem_dropL.1 hx).1⟩, (mem_dropL.1 hx).2⟩
  · rintro ⟨⟨k, hk, hx⟩, h2⟩; exact ⟨k, hk, mem_dropL.2 ⟨hx, h2⟩⟩
/-! Where an action stands among those of a key. -/
/-- The first c are of lesser actions, the others are not. -/
def CutB (l : List Ver) (by_ : Int) (c : Nat) : Prop := c ≤ l.length ∧ (∀ i, i < c → (l.getD i noV).by_ < by_) ∧ ∀ i, c ≤ i → i < l.length → by_ ≤ (l.getD i noV).by_
theorem asc_get {l : List Ver} (h : l.Pairwise (fun x y => x.by_ < y.by_)) {i j : Nat} (hij : i < j) (hj : j < l.length) : (l.getD i noV).by_ < (l.getD j noV).by_ := by
  have := List.pairwise_iff_getElem.1 h i j (by omega) hj hij
  rw [List.getD_eq_getElem?_getD, List.getD_eq_getElem?_getD, List.getElem?_eq_getElem (by omega : i < l.length), List.getElem?_eq_getElem hj]
  exact this
/-! Putting. -/
def insK (F : Nat → List Ver) (k : Nat) (v : Ver) : Nat → List Ver := fun j => if j = k then insV v (F j) else F j
theorem insK_at (F : Nat → List Ver) (k : Nat) (v : Ver) : insK F k v k = insV v (F k) := by simp [insK]
theorem insK_ne (F : Nat → List Ver) {k j : Nat} (v : Ver) (h : j ≠ k) : insK F k v j = F j := by simp [insK, h]
theorem insV_cut {F : Nat → List Ver} (h : KOk F) {k : Nat} (hk : k < 32) {v : Ver} (hv : v.key = (k : Int)) {c : Nat} (hc : CutB (F k) v.by_ c) : insV v (F k) = (F k).take c ++ v :: (F k).drop c := by
  obtain ⟨c1, c2, c3⟩ := hc
  have g := (h k hk).1
  refine insV_at v _ c c1 (fun i hi => ?_) (fun hi hl => ?_)
  · exact .inr ⟨by rw [(g _ (getD_memV _ i (by omega))).2, hv], c2 i hi⟩
  · have h1 := c3 c (Nat.le_refl _) hi
    have h2 := (g _ (getD_memV _ c hi)).2
    rcases hl with hl | hl
    · omega
    · omega
theorem kok_insK {F : Nat → List Ver} (h : KOk F) {k : Nat} (hk : k < 32) {v : Ver} (hb : verB v = true) (hv : v.key = (k : Int)) (hn : ∀ x ∈ F k, x.by_ ≠ v.by_) : KOk (insK F k v) := by
  intro j hj
  by_cases e : j = k
  · subst e
    rw [insK_at]
    obtain ⟨g1, g2⟩ := h j hj
    have hF : VOk (F j) := ⟨fun x hx => (g1 x hx).1, List.Pairwise.imp_of_mem (fun {a b} ha hb hl => .inr ⟨by rw [(g1 a ha).2, (g1 b hb).2], hl⟩) g2⟩
    have hI := ok_insV hb hF fun x hx hc => hn x hx hc.2
    have hm : ∀ x ∈ insV v (F j), verB x = true ∧ x.key = (j : Int) := fun x hx => by
      rcases mem_insV.1 hx with rfl | hx
      · exact ⟨hb, hv⟩
      · exact g1 x hx
    refine ⟨hm, List.Pairwise.imp_of_mem (fun {a b} ha hb hl => ?_) hI.2⟩
    have h1 := (hm a ha).2
    have h2 := (hm b hb).2
    rcases hl with hl | hl
    · omega
    · exact hl.2
  · rw [insK_ne F v e]; exact h j hj
theorem catK_insK {F : Nat → List Ver} (h : KOk F) {k : Nat} (hk : k < 32) {v : Ver} (hb : verB v = true) (hv : v.key = (k : Int)) (hn : ∀ x ∈ F k, x.by_ ≠ v.by_) : catK (insK F k v) 32 = insV v (catK F 32) := by
  refine (catK_ok (kok_insK h hk hb hv hn) 32 (Nat.le_refl _)).ext (ok_insV hb (catK_ok h 32 (Nat.le_refl _)) fun x hx hc => ?_) fun x => ?_
  · obtain ⟨j, hj, hx⟩ := (mem_catK 32).1 hx
    have := ((h j hj).1 x hx).2
    obtain rfl : j = k := by omega
    exact hn x hx hc.2
  · rw [mem_insV, mem_catK, mem_catK]
    constructor
    · rintro ⟨j, hj, hx⟩
      by_cases e : j = k
      · subst e
        rw [insK_at, mem_insV] at hx
        rcases hx with hx | hx
        · exact .inl hx
        · exact .inr ⟨j, hj, hx⟩
      · rw [insK_ne F v e] at hx; exact .inr ⟨j, hj, hx⟩
    · rintro (rfl | ⟨j, hj, hx⟩)
      · exact ⟨k, hk, by rw [insK_at, mem_insV]; exact .inl rfl⟩
      · by_cases e : j = k
        · subst e; exact ⟨j, hj, by rw [insK_at, mem_insV]; exact .inr hx⟩
        · exact ⟨j, hj, by rw [insK_ne F v e]; exact hx⟩
/-! Reading. -/
theorem readK {S : List Ent} {L : List Ver} (hL : VOk L) {k : Nat} (hk : k < 32) {by_ : Int} {c : Nat} (hc : CutB (ofK L k) by_ c) :
    readL S L (k : Int) by_ = if c = 0 then (atM S (k : Int), -1) else (((ofK L k).getD (c - 1) noV).val, ((ofK L k).getD (c - 1) noV).by_) := by
  obtain ⟨c1, c2, c3⟩ := hc
  have hK := kok_ofK hL k hk
  by_cases h0 : c = 0
  · rw [if_pos h0]
    subst h0
    refine readL_miss hL fun y hy hc => ?_
    obtain ⟨i, hi, e⟩ := mem_getV (mem_ofK.2 ⟨hy, hc.1⟩)
    have := c3 i (Nat.zero_le _) hi
    rw [e] at this
    omega
  · rw [if_neg h0]
    have hm := getD_memV (ofK L k) (c - 1) (by omega)
    refine readL_hit hL (mem_ofK.1 hm).1 (mem_ofK.1 hm).2 (c2 (c - 1) (by omega)) fun y hy hyk hyb => ?_
    obtain ⟨i, hi, e⟩ := mem_getV (mem_ofK.2 ⟨hy, hyk⟩)
    rcases (by omega : i < c - 1 ∨ i = c - 1 ∨ c ≤ i) with h1 | h1 | h1
    · have := asc_get hK.2 h1 (by omega)
      rw [e] at this; omega
    · rw [← e, h1]; exact Int.le_refl _
    · have := c3 i h1 hi
      rw [e] at this; omega
end Go.Proofs.YtncedcliklpapaaGreat
