/- The contracts of the model's l9Read, ReadVersion, l9Drop, DropVersions. -/
import Derived.Test.YtncedcliklpapaaSpecVer
namespace Go.Proofs.Ytncedcliklpapaa
open Go.RowKit
set_option linter.unusedVariables false
set_option linter.unusedSimpArgs false
/-- Two numbers; only new blocks have turned. -/
def IntsB2 (p : Int × Int) (w : World) (e : Ending) (w' : World) : Prop := e = .returned (.tuple #[.int .i64 p.1, .int .i64 p.2]) ∧ Below w.heap.size w w'
def IntsS2 (p : Int × Int) (w : World) (e : Ending) (w' : World) : Prop := e = .returned (.tuple #[.int .i64 p.1, .int .i64 p.2]) ∧ w = w'
set_option maxHeartbeats 1000000 in
theorem l9Read_spec (a : Option Addr) (n cap : Nat) (S : List Ent) (a2 : Option Addr) (m cap2 : Nat) (L : List Ver) (key by_ : Int) (w : World) (h : RowE w a n S) (h2 : RowV w a2 m L) :
    Calls Try.prog 58 #[.slice a n cap, .slice a2 m cap2, .int .i64 key, .int .i64 by_] w (IntsS2 (readL S L key by_) w) := by
  obtain ⟨hl, hm, hc, -⟩ := h2
  unfold maxLen at hm
  have HL := Lib.hid hl; clear hl
  obtain ⟨A0, hA0⟩ : ∃ A0, A0 = atM S key := ⟨_, rfl⟩
  have HR : Hid (readL S L key by_ = rdN L key by_ (A0, -1) m) := Lib.hid (by rw [hA0, ← HL.out]; rfl)
  have HA := Lib.hid hA0.symm
  clear hA0
  go_enter Try.func58, Try.ntmps58
  go_wp2_with fail
  refine (l2At_spec a n cap S key _ h).mono ?_; rintro e w1 ⟨rfl, rfl⟩
  rw [HA.out]
  clear h
  go_wp2_with fail
  go_loopw [10, 11, 12] (fun x y i wr => ∃ k : Nat, k ≤ m ∧ i = .int .i64 k ∧ x = .int .i64 (rdN L key by_ (A0, -1) k).1 ∧ y = .int .i64 (rdN L key by_ (A0, -1) k).2 ∧ wr = w) (fun _ _ i _ => m - (intOf i).toNat)
  case atStart => exact ⟨0, Nat.zero_le _, rfl, rfl, rfl, rfl⟩
  case round =>
    obtain ⟨k, hk, rfl, rfl, rfl, rfl⟩ := hrel
    by_cases hlt : k < m
    · obtain ⟨b, o, rfl, hcc⟩ := hc (by omega)
      obtain ⟨c0, c1, c2⟩ := hcc k hlt
      have HN : Hid (rdN L key by_ (A0, -1) (k + 1) = if canR key by_ (L.getD k noV) then ((L.getD k noV).val, (L.getD k noV).by_) else rdN L key by_ (A0, -1) k) := Lib.hid rfl
      clear hc hcc
      obtain ⟨x, hx⟩ : ∃ x, x = L.getD k noV := ⟨_, rfl⟩
      rw [← hx] at c0 c1 c2 HN
      clear hx
      obtain ⟨p, q, r⟩ := x
      simp only at c0 c1 c2 HN
      obtain ⟨z, hz⟩ : ∃ z, z = rdN L key by_ (A0, -1) k := ⟨_, rfl⟩
      rw [← hz] at HN ⊢
      clear hz
      obtain ⟨z1, z2⟩ := z
      cases e1 : (p == key) with
      | false =>
        have HF : Hid (rdN L key by_ (A0, -1) (k + 1) = (z1, z2)) := Lib.hid (by rw [HN.out, if_neg]; rw [canR_iff]; simp at e1; exact fun h => e1 h.1)
        clear HN
        go_wp2
        go_roundw
        case rel => exact ⟨k + 1, by omega, by go_num, by rw [HF.out], by rw [HF.out], by first | rfl | trivial⟩
        case measure => simp [intOf]; omega
      | true =>
        cases e2 : decide (q < by_) with
        | false =>
          have HF : Hid (rdN L key by_ (A0, -1) (k + 1) = (z1, z2)) := Lib.hid (by rw [HN.out, if_neg]; rw [canR_iff]; simp at e2; exact fun h => by have h2 := h.2; simp only at h2; omega)
          clear HN
          go_wp2
          go_roundw
          case rel => exact ⟨k + 1, by omega, by go_num, by rw [HF.out], by rw [HF.out], by first | rfl | trivial⟩
          case measure => simp [intOf]; omega
        | true =>
          have HF : Hid (rdN L key by_ (A0, -1) (k + 1) = (r, q)) := Lib.hid (by rw [HN.out, if_pos]; rw [canR_iff]; simp at e1 e2; exact ⟨e1, e2⟩)
          clear HN
          go_wp2
          go_roundw
          case rel => exact ⟨k + 1, by omega, by go_num, by rw [HF.out], by rw [HF.out], by first | rfl | trivial⟩
          case measure => simp [intOf]; omega
    · obtain rfl : k = m := by omega
      clear hc
      go_wp2
      go_ret2
      exact ⟨by rw [HR.out]; rfl, rfl⟩
set_option maxHeartbeats 1000000 in
theorem readVersion_spec (a : Option Addr) (n cap : Nat) (S : List Ent) (a2 : Option Addr) (m cap2 : Nat) (L : List Ver) (key by_ : Int) (w : World) (h : RowE w a n S) (h2 : RowV w a2 m L) :
    Calls Try.prog 19 #[.slice a n cap, .slice a2 m cap2, .int .i64 key, .int .i64 by_] w (IntsB2 (readVM S L key by_) w) := by
  have HY : Hid (∀ (h1 : storeB S = true) (h2 : versB L = true) (h3 : inB key 0 31 = true) (h4 : inB by_ 0 10 = true), readVM S L key by_ = readL S L key by_) := Lib.hid readVM_yes
  have HN : Hid ((storeB S && versB L && inB key 0 31 && inB by_ 0 10) = false → readVM S L key by_ = (-1, -1)) := Lib.hid readVM_no
  go_enter Try.func19, Try.ntmps19
  go_wp2_with fail
  refine (storeValid_spec a n cap S _ h).mono ?_; rintro e w1 ⟨rfl, hd1⟩
  have hb1 := hd1.below w.heap.size
  have h2b := h2.below (hd1.below w.heap.size)
  have h1b := h.below (hd1.below w.heap.size)
  clear h h2 hd1
  cases e1 : storeB S with
  | false =>
    have HF := Lib.hid (HN.out (by rw [e1]; rfl))
    clear HN HY e1
    go_wp2
    go_ret2
    exact ⟨by rw [HF.out]; rfl, hb1⟩
  | true =>
    go_wp2_with fail
    refine (versionsValid_spec a2 m cap2 L _ h2b).mono ?_; rintro e w2 ⟨rfl, hb2⟩
    have hb3 := hb1.trans (hb2.mono hb1.size)
    have h2c := h2b.below hb2
    have h1c := h1b.below hb2
    clear h1b h2b hb1 hb2
    cases e2 : versB L with
    | false =>
      have HF := Lib.hid (HN.out (by rw [e1, e2]; rfl))
      clear HN HY e1 e2
      go_wp2
      go_ret2
      exact ⟨by rw [HF.out]; rfl, hb3⟩
    | true =>
      go_wp2_with fail
      refine (l1In_spec_hid _ _ _ _).mono ?_; rintro e w' ⟨rfl, rfl⟩
      cases e3 : inB key 0 31 with
      | false =>
        have HF := Lib.hid (HN.out (by rw [e1, e2, e3]; rfl))
        clear HN HY e1 e2 e3
        go_wp2
        go_ret2
        exact ⟨by rw [HF.out]; rfl, hb3⟩
      | true =>
        go_wp2_with fail
        refine (l1In_spec_hid _ _ _ _).mono ?_; rintro e w' ⟨rfl, rfl⟩
        cases e4 : inB by_ 0 10 with
        | false =>
          have HF := Lib.hid (HN.out (by rw [e1, e2, e3, e4]; rfl))
          clear HN HY e1 e2 e3 e4
          go_wp2
          go_ret2
          exact ⟨by rw [HF.out]; rfl, hb3⟩
        | true =>
          have HF := Lib.hid (HY.out e1 e2 e3 e4)
          clear HN HY e1 e2 e3 e4
          go_wp2_with fail
          refine (l9Read_spec a n cap S a2 m cap2 L key by_ _ h1c h2c).mono ?_; rintro e w' ⟨rfl, rfl⟩
          go_wp2
          go_ret2
          exact ⟨by rw [HF.out]; rfl, hb3⟩
set_option maxHeartbeats 2000000 in
theorem l9Drop_spec (a : Option Addr) (n cap : Nat) (L : List Ver) (by_ : Int) (w : World) (h : RowV w a n L) (hn : n ≤ 2000000) :
    Calls Try.prog 61 #[.slice a n cap, .int .i64 by_] w (NewV w 28 (dropL L by_)) := by
  have HWF := Lib.hid h.2.2.2
  have hb0 : Below w.heap.size w (w.alloc (.cells #[] 28)) := (Below.refl _ w).alloc (Nat.le_refl _) _
  have HO0 : Hid (Own (w.alloc (.cells #[] 28)) w.heap.size 28 3 (.slice (some ⟨w.heap.size, 0, none⟩) 0 0) (dropL (L.take 0) by_).length (flatV (dropL (L.take 0) by_))) := Lib.hid (own_lit 28 3 #[] 0 (Nat.le_refl _) (by simp) rfl)
  obtain ⟨hl, hm, hc, -⟩ := h
  have HL := Lib.hid hl; clear hl
  have HWD : Hid (WfVs (dropL L by_)) := Lib.hid (fun x hx => HWF.out x (mem_dropL.1 hx).1)
  go_enter Try.func61, Try.ntmps61
  go_wp2
  go_loopw [5, 6] (fun v i wr => ∃ k : Nat, k ≤ n ∧ i = .int .i64 k ∧ Own wr w.heap.size 28 3 v (dropL (L.take k) by_).length (flatV (dropL (L.take k) by_)) ∧ Below w.heap.size w wr) (fun _ i _ => n - (intOf i).toNat)
  case atStart => exact ⟨0, Nat.zero_le _, rfl, HO0.out, hb0⟩
  case round =>
    obtain ⟨k, hk, rfl, ho, hb⟩ := hrel
    clear HO0 hb0
    by_cases hlt : k < n
    · obtain ⟨b, o, rfl, hcc⟩ := hc (by omega)
      have hbB : b < w.heap.size := World.block_lt_of_cell? w ⟨b, o + k * 3, none⟩ (hcc k hlt).1
      obtain ⟨c0, c1, c2⟩ := hcc k hlt
      have d0 := (hb.cell (p := ⟨b, o + k * 3, none⟩) hbB).trans c0
      have d1 := (hb.cell (p := ⟨b, o + k * 3 + 1, none⟩) hbB).trans c1
      have d2 := (hb.cell (p := ⟨b, o + k * 3 + 2, none⟩) hbB).trans c2
      have HN := Lib.hid (dropL_next L by_ k (by rw [HL.out]; exact hlt))
      have hdl : (dropL (L.take k) by_).length ≤ 2000000 := by
        refine Nat.le_trans (List.length_filter_le _ _) ?_
        rw [List.length_take]; omega
      clear hc hcc c0 c1 c2
      obtain ⟨D, hD⟩ : ∃ D, D = dropL (L.take k) by_ := ⟨_, rfl⟩
      obtain ⟨x, hx⟩ : ∃ x, x = L.getD k noV := ⟨_, rfl⟩
      rw [← hD] at ho hdl
      rw [← hx] at d0 d1 d2
      rw [← hx, ← hD] at HN
      clear hx hD
      obtain ⟨p, q, r⟩ := x
      simp only at d0 d1 d2 HN
      cases e1 : (q == by_) with
      | true =>
        have e2 : (q != by_) = false := by simp [bne, e1]
        have HF : Hid (dropL (L.take (k + 1)) by_ = D) := Lib.hid (by rw [HN.out, if_neg]; simpa using e1)
        have HO := Lib.hid ho
        clear HN ho
        go_wp2
        go_roundw
        case rel => exact ⟨k + 1, by omega, by go_num, by rw [HF.out]; exact HO.out, hb⟩
        case measure => simp [intOf]; omega
      | false =>
        have e2 : (q != by_) = true := by simp [bne, e1]
        have HF : Hid (dropL (L.take (k + 1)) by_ = D ++ [⟨p, q, r⟩]) := Lib.hid (by rw [HN.out, if_pos]; simpa using e1)
        clear HN
        go_wp2_with (at_builtin; refine wpList_append_one rfl _ _ 23 rfl w.heap.size 28 _ (.agg #[.int .i64 0, .int .i64 0, .int .i64 0]) 3 24 Try.underlying23 infoVer rfl (by decide) _ _ _ [.int .i64 p, .int .i64 q, .int .i64 r] (by rfl) ho (by rfl) rfl ?c1 ?c2 (by decide) ?c3 ?_)
        case c1 => exact celV_one ⟨p, q, r⟩
        case c2 => omega
        case c3 => exact hb.size
        intro v3 w3 ho3 hg3
        have hb3 : Below w.heap.size w w3 := (hb.alloc hb.size _).grown hg3 (by have := hb.size; simp; omega) (fun k hk => (ho.1.lt k hk).1)
        have HO : Hid (Own w3 w.heap.size 28 3 v3 (D ++ [(⟨p, q, r⟩ : Ver)]).length (flatV (D ++ [⟨p, q, r⟩]))) := Lib.hid (by rw [List.length_append, flatV_append]; exact ho3)
        clear ho ho3 hg3 hb d0 d1 d2
        go_wp2
        go_roundw
        case rel => exact ⟨k + 1, by omega, by go_num, by rw [HF.out]; exact HO.out, hb3⟩
        case measure => simp [intOf]; omega
    · obtain rfl : k = n := by omega
      have e : L.take k = L := List.take_of_length_le (by rw [HL.out]; omega)
      rw [e] at ho
      have HO := Lib.hid ho
      clear hc ho e
      go_wp2
      go_ret
      exact ⟨_, rfl, HO.out, HWD.out, hb⟩
theorem dropVersions_spec (a : Option Addr) (n cap : Nat) (L : List Ver) (by_ : Int) (w : World) (h : RowV w a n L) :
    Calls Try.prog 24 #[.slice a n cap, .int .i64 by_] w (NewV w 28 (dropVM L by_)) := by
  go_enter Try.func24, Try.ntmps24
  go_wp2_with fail
  refine (versionsValid_spec a n cap L _ h).mono ?_; rintro e w1 ⟨rfl, hb1⟩
  cases e1 : versB L with
  | false =>
    have HF : Hid (dropVM L by_ = []) := Lib.hid (by unfold dropVM; rw [e1]; rfl)
    have HO : Hid (Own (w1.alloc (.cells #[] 28)) w.heap.size 28 3 (.slice (some ⟨w1.heap.size, 0, none⟩) 0 0) 0 (flatV [])) := Lib.hid (own_lit 28 3 #[] 0 hb1.size (by simp) rfl)
    have hb2 : Below w.heap.size w (w1.alloc (.cells #[] 28)) := hb1.alloc hb1.size _
    clear e1 hb1
    go_wp2
    go_ret
    exact ⟨_, rfl, by rw [HF.out]; exact HO.out, by rw [HF.out]; exact fun x hx => (by cases hx), hb2⟩
  | true =>
    have hv := vers_len ((versB_ok L).1 e1)
    have HF : Hid (dropVM L by_ = dropL L by_) := Lib.hid (by unfold dropVM; rw [e1]; rfl)
    have hn : n ≤ 2000000 := by have := h.1; omega
    have h2 := h.below hb1
    clear e1 h hv
    go_wp2_with fail
    refine (l9Drop_spec a n cap L by_ _ h2 hn).mono ?_; rintro e w2 ⟨v, rfl, ho, hw, hb2⟩
    have HO := Lib.hid (ho.mono hb1.size)
    have hb3 := hb1.trans (hb2.mono hb1.size)
    clear ho h2 hb1 hb2
    go_wp2
    go_ret
    exact ⟨_, rfl, by rw [HF.out]; exact HO.out, by rw [HF.out]; exact hw, hb3⟩
end Go.Proofs.Ytncedcliklpapaa
