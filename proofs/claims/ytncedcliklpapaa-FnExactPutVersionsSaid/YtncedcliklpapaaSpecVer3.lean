/- The contract of the model's LastVersions. -/
import Derived.Test.YtncedcliklpapaaSpecVer2
namespace Go.Proofs.Ytncedcliklpapaa
open Go.RowKit
set_option linter.unusedVariables false
set_option linter.unusedSimpArgs false
theorem lastN_len (S : List Ent) (L : List Ver) : ∀ j, (lastN S L j).length ≤ j := by
  intro j
  induction j with
  | zero => simp [lastN]
  | succ j ih =>
    unfold lastN
    rw [List.length_append]
    split
    · simp; omega
    · simp; omega
theorem readL_wf {S : List Ent} {L : List Ver} {key by_ : Int} (hS : storeB S = true) (hL : versB L = true) : (Lit.int .i64 (readL S L key by_).1).wf = true ∧ (Lit.int .i64 (readL S L key by_).2).wf = true := by
  have := readL_bd hS ((versB_ok L).1 hL) key by_
  exact ⟨WalkArith.wf_i64 (by omega), WalkArith.wf_i64 (by omega)⟩
theorem lastN_wf {S : List Ent} {L : List Ver} (hS : storeB S = true) (hL : versB L = true) (j : Nat) (hj : j ≤ 32) : WfE (lastN S L j) := by
  intro e he
  obtain ⟨k, hk, rfl, h0⟩ := (mem_lastN j).1 he
  refine ⟨?_, (readL_wf hS hL).1⟩
  exact WalkArith.wf_i64 (by omega)
theorem lastVersions_spec (a : Option Addr) (n cap : Nat) (S : List Ent) (a2 : Option Addr) (m cap2 : Nat) (L : List Ver) (w : World) (h : RowE w a n S) (h2 : RowV w a2 m L) :
    Calls Try.prog 31 #[.slice a n cap, .slice a2 m cap2] w (NewE w 45 (lastVM S L)) := by
  have hb0 : Below w.heap.size w (w.alloc (.cells #[] 45)) := (Below.refl _ w).alloc (Nat.le_refl _) _
  have HO0 : Hid (Own (w.alloc (.cells #[] 45)) w.heap.size 45 2 (.slice (some ⟨w.heap.size, 0, none⟩) 0 0) 0 (flatE [])) := Lib.hid (own_lit 45 2 #[] 0 (Nat.le_refl _) (by simp) rfl)
  have HR := Lib.hid h
  have HV := Lib.hid h2
  clear h h2
  cases e1 : storeB S with
  | false =>
    have HF : Hid (lastVM S L = []) := Lib.hid (lastVM_no (by rw [e1]; rfl))
    have HS := Lib.hid e1
    clear e1
    go_enter Try.func31, Try.ntmps31
    go_wp2_with fail
    go_loopw [5, 6] (fun v i wr => v = .slice (some ⟨w.heap.size, 0, none⟩) 0 0 ∧ i = .int .i64 0 ∧ wr = w.alloc (.cells #[] 45)) (fun _ _ _ => 0)
    case atStart => exact ⟨rfl, rfl, rfl⟩
    case round =>
      obtain ⟨rfl, rfl, rfl⟩ := hrel
      go_wp2_with fail
      refine (storeValid_spec a n cap S _ (HR.out.below hb0)).mono ?_; rintro e w1 ⟨rfl, hd1⟩
      rw [HS.out]
      have HO := Lib.hid (HO0.out.below (hd1.below _))
      have hb1 := hb0.trans ((hd1.below _).mono hb0.size)
      clear HO0 hb0 hd1
      go_wp2
      go_ret
      exact ⟨_, rfl, by rw [HF.out]; exact HO.out, by rw [HF.out]; exact fun x hx => (by cases hx), hb1⟩
  | true =>
    cases e2 : versB L with
    | false =>
      have HF : Hid (lastVM S L = []) := Lib.hid (lastVM_no (by rw [e1, e2]; rfl))
      have HS := Lib.hid e1
      have HS2 := Lib.hid e2
      clear e1 e2
      go_enter Try.func31, Try.ntmps31
      go_wp2_with fail
      go_loopw [5, 6] (fun v i wr => v = .slice (some ⟨w.heap.size, 0, none⟩) 0 0 ∧ i = .int .i64 0 ∧ wr = w.alloc (.cells #[] 45)) (fun _ _ _ => 0)
      case atStart => exact ⟨rfl, rfl, rfl⟩
      case round =>
        obtain ⟨rfl, rfl, rfl⟩ := hrel
        go_wp2_with fail
        refine (storeValid_spec a n cap S _ (HR.out.below hb0)).mono ?_; rintro e w1 ⟨rfl, hd1⟩
        rw [HS.out]
        have ho1 := HO0.out.below (hd1.below _)
        have hb1 := hb0.trans ((hd1.below _).mono hb0.size)
        clear HO0 hb0 hd1
        go_wp2_with fail
        refine (versionsValid_spec a2 m cap2 L _ (HV.out.below hb1)).mono ?_; rintro e w2 ⟨rfl, hb2⟩
        rw [HS2.out]
        have HO := Lib.hid (ho1.below hb2)
        have hb3 := hb1.trans (hb2.mono hb1.size)
        clear ho1 hb2 hb1
        go_wp2
        go_ret
        exact ⟨_, rfl, by rw [HF.out]; exact HO.out, by rw [HF.out]; exact fun x hx => (by cases hx), hb3⟩
    | true =>
      have HF : Hid (lastVM S L = lastN S L 32) := Lib.hid (lastVM_yes e1 e2)
      have HWF := Lib.hid (lastN_wf e1 e2)
      have HS := Lib.hid e1
      have HS2 := Lib.hid e2
      clear e1 e2
      go_enter Try.func31, Try.ntmps31
      go_wp2_with fail
      go_loopw [5, 6] (fun v i wr => ∃ j : Nat, j ≤ 32 ∧ i = .int .i64 j ∧ Own wr w.heap.size 45 2 v (lastN S L j).length (flatE (lastN S L j)) ∧ Below w.heap.size w wr) (fun _ i _ => 32 - (intOf i).toNat)
      case atStart => exact ⟨0, Nat.zero_le _, rfl, HO0.out, hb0⟩
      case round =>
        obtain ⟨j, hj, rfl, ho, hb⟩ := hrel
        clear HO0 hb0
        by_cases hlt : j < 32
        · have hd : decide ((j : Int) ≤ 31) = true := by simp; omega
          have hll := lastN_len S L j
          have HN : Hid (lastN S L (j + 1) = lastN S L j ++ (if 0 < (readL S L j 10).1 then [((j : Int), (readL S L j 10).1)] else [])) := Lib.hid rfl
          obtain ⟨D, hD⟩ : ∃ D, D = lastN S L j := ⟨_, rfl⟩
          obtain ⟨z, hz⟩ : ∃ z, z = readL S L j 10 := ⟨_, rfl⟩
          rw [← hD] at ho hll HN
          rw [← hz] at HN
          have HZ := Lib.hid hz.symm
          clear hD hz
          obtain ⟨z1, z2⟩ := z
          go_wp2_with fail
          refine (storeValid_spec a n cap S _ (HR.out.below hb)).mono ?_; rintro e w1 ⟨rfl, hd1⟩
          rw [HS.out]
          have ho1 := ho.below (hd1.below _)
          have hb1 := hb.trans ((hd1.below _).mono hb.size)
          clear ho hb hd1
          go_wp2_with fail
          refine (versionsValid_spec a2 m cap2 L _ (HV.out.below hb1)).mono ?_; rintro e w2 ⟨rfl, hb2⟩
          rw [HS2.out]
          have ho2 := ho1.below hb2
          have hb3 := hb1.trans (hb2.mono hb1.size)
          clear ho1 hb2 hb1
          go_wp2_with fail
          refine (l9Read_spec a n cap S a2 m cap2 L (j : Int) 10 _ (HR.out.below hb3) (HV.out.below hb3)).mono ?_; rintro e w' ⟨rfl, rfl⟩
          rw [HZ.out]
          cases e5 : decide (0 < z1) with
          | false =>
            have HG : Hid (lastN S L (j + 1) = D) := Lib.hid (by rw [HN.out, if_neg (by simpa using e5), List.append_nil])
            have HO := Lib.hid ho2
            clear HN ho2
            go_wp2
            go_roundw
            case rel => exact ⟨j + 1, by omega, by go_num, by rw [HG.out]; exact HO.out, hb3⟩
            case measure => simp [intOf]; omega
          | true =>
            have HG : Hid (lastN S L (j + 1) = D ++ [((j : Int), z1)]) := Lib.hid (by rw [HN.out, if_pos (by simpa using e5)])
            clear HN
            go_wp2_with (at_builtin; refine wpList_append_one rfl _ _ 30 rfl w.heap.size 45 _ (.agg #[.int .i64 0, .int .i64 0]) 2 16 Try.underlying30 infoEnt rfl (by decide) _ _ _ [.int .i64 (j : Int), .int .i64 z1] (by rfl) ho2 (by rfl) rfl ?c1 ?c2 (by decide) ?c3 ?_)
            case c1 => intro u hu; simp at hu; rcases hu with rfl | rfl <;> rfl
            case c2 => omega
            case c3 => exact hb3.size
            intro v3 w3 ho3 hg3
            have hb4 : Below w.heap.size w w3 := (hb3.alloc hb3.size _).grown hg3 (by have := hb3.size; simp; omega) (fun k hk => (ho2.1.lt k hk).1)
            have HO : Hid (Own w3 w.heap.size 45 2 v3 (D ++ [((j : Int), z1)]).length (flatE (D ++ [((j : Int), z1)]))) := Lib.hid (by rw [List.length_append, flatE_append]; exact ho3)
            clear ho2 ho3 hg3 hb3
            go_wp2
            go_roundw
            case rel => exact ⟨j + 1, by omega, by go_num, by rw [HG.out]; exact HO.out, hb4⟩
            case measure => simp [intOf]; omega
        · obtain rfl : j = 32 := by omega
          have hd : decide (((32 : Nat) : Int) ≤ 31) = false := by decide
          have HO := Lib.hid ho
          clear ho
          go_wp2
          go_ret
          exact ⟨_, rfl, by rw [HF.out]; exact HO.out, by rw [HF.out]; exact HWF.out 32 (Nat.le_refl _), hb⟩
end Go.Proofs.Ytncedcliklpapaa
