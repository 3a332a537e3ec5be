/- The contracts of the program's ValueAt and PutValue. -/
import Derived.Test.YtpaeioabmmkheaaImplVals
namespace Go.Proofs.Ytpaeioabmmkheaa
open Go.RowKit
theorem valuesOf_any (a : Option Addr) (n cap : Nat) (l : List Ent) (w : World) (h : RowE w a n l) :
    Calls Try.prog 56 #[.slice a n cap] w (ArrB (valsM l) (storeB l) w) := by
  cases hs : storeB l with
  | true => rw [show valsM l = arrOf l by simp [valsM, hs]]; exact valuesOf_yes a n cap l w h hs
  | false => rw [show valsM l = zeros by simp [valsM, hs]]; exact valuesOf_no a n cap l w h hs
theorem below_new {w w1 w2 : World} {T : TypeId} {cs : Array Value} (hb : Below w.heap.size w w1) (hg : (w1.alloc (.cells cs T)).grownBy w2 (some w1.heap.size)) : Below w.heap.size w w2 :=
  (hb.alloc hb.size _).grown hg (by have := hb.size; simp; omega) (fun k hk => by simp at hk; have := hb.size; omega)
set_option maxHeartbeats 1000000 in
theorem valueAt_impl (a : Option Addr) (n cap : Nat) (l : List Ent) (key : Int) (w : World) (h : RowE w a n l) :
    Calls Try.prog 24 #[.slice a n cap, .int .i64 key] w (IntB (valueM l key) w) := by
  go_enter Try.func24, Try.ntmps24
  go_wp2_with fail
  refine (valuesOf_any a n cap l _ h).mono ?_; rintro e w1 ⟨rfl, hb⟩
  have HG : Hid (∀ k : Nat, k < 32 → storeB l = true → (valsM l).getD k 0 = atM l k) := Lib.hid (fun k hk hs => by rw [show valsM l = arrOf l by simp [valsM, hs]]; exact arrOf_get l k hk)
  have hA0 := Arr.new w1 73 zeros
  have HL := Lib.hid (valsM_len l)
  obtain ⟨A, hA⟩ : ∃ A, A = valsM l := ⟨_, rfl⟩
  rw [← hA] at HG HL ⊢
  clear hA
  cases hs : storeB l with
  | false =>
    have HV : Hid (valueM l key = -1) := Lib.hid (by simp [valueM, hs])
    clear hs HG
    go_wp2_with (first | (refine wpList_store_arr' rfl _ _ _ rfl _ A (by rfl) (by rfl) 73 _ hA0 (by rw [HL.out]; exact infoArr) (by rw [HL.out]; rfl) ?_; intro w2 hA2 hg2 hz2; have hb2 := below_new hb hg2; clear hg2))
    go_ret
    exact ⟨ret_int HV.out.symm, hb2⟩
  | true =>
    cases hk : inB key 0 31 with
    | false =>
      have HV : Hid (valueM l key = -1) := Lib.hid (by simp [valueM, hk])
      clear hs HG
      go_wp2_with (first | (refine wpList_store_arr' rfl _ _ _ rfl _ A (by rfl) (by rfl) 73 _ hA0 (by rw [HL.out]; exact infoArr) (by rw [HL.out]; rfl) ?_; intro w2 hA2 hg2 hz2; have hb2 := below_new hb hg2; clear hg2) | (go_at_call 44; refine (isKey_impl _ _).mono ?_; rintro e w' ⟨rfl, rfl⟩))
      go_ret
      exact ⟨ret_int HV.out.symm, hb2⟩
    | true =>
      have hkb := inB_true hk
      obtain ⟨m, rfl⟩ : ∃ m : Nat, key = (m : Int) := ⟨key.toNat, by omega⟩
      have HV : Hid (valueM l m = A.getD m 0) := Lib.hid (by rw [HG.out m (by omega) hs]; simp [valueM, hs, hk])
      clear hs HG
      obtain ⟨k0, k1⟩ := hkb
      go_wp2_with (first | (refine wpList_store_arr' rfl _ _ _ rfl _ A (by rfl) (by rfl) 73 _ hA0 (by rw [HL.out]; exact infoArr) (by rw [HL.out]; rfl) ?_; intro w2 hA2 hg2 hz2; have hb2 := below_new hb hg2; have hc2 := hA2.cell m (by rw [HL.out]; omega); clear hg2) | (go_at_call 44; refine (isKey_impl _ _).mono ?_; rintro e w' ⟨rfl, rfl⟩))
      go_ret
      exact ⟨ret_int HV.out.symm, hb2⟩
theorem wf_of_ok {l : List Ent} (h : OkE l) : WfE l := fun e he => by have := h e he; exact ⟨WalkArith.wf_i64 (by omega), WalkArith.wf_i64 (by omega)⟩
theorem putM_wf' {l : List Ent} (key val : Int) (hw : WfE l) : WfE (putM l key val).1 := by
  unfold putM
  split
  · rename_i hs
    split
    · rename_i hi
      simp only [Bool.and_eq_true] at hi
      have h1 := inB_true hi.1; have h2 := inB_true hi.2
      exact wf_of_ok (ok_put ((storeB_ok l).1 hs) h1.1 h1.2 h2.1 h2.2).2
    · exact hw
  · intro e he; cases he
/-- A list of pairs, new or nil, and a bool. -/
def NewNB (w : World) (l : List Ent) (b : Bool) (e : Ending) (w' : World) : Prop :=
  ∃ v, e = .returned (.tuple #[v, .bool b]) ∧ w'.ownsRow w.heap.size 72 2 v l.length (flatE l) ∧ WfE l ∧ Below w.heap.size w w'
set_option maxHeartbeats 1000000 in
theorem putValue_impl (a : Option Addr) (n cap : Nat) (l : List Ent) (key val : Int) (w : World) (h : RowE w a n l) :
    Calls Try.prog 29 #[.slice a n cap, .int .i64 key, .int .i64 val] w (NewNB w (putM l key val).1 (putM l key val).2) := by
  have HW : Hid (WfE l) := Lib.hid h.2.2.2
  go_enter Try.func29, Try.ntmps29
  go_wp2_with fail
  refine (valuesOf_any a n cap l _ h).mono ?_; rintro e w1 ⟨rfl, hb⟩
  have HG : Hid (storeB l = true → valsM l = arrOf l) := Lib.hid (fun hs => by simp [valsM, hs])
  have hA0 := Arr.new w1 73 zeros
  have HL := Lib.hid (valsM_len l)
  obtain ⟨A, hA⟩ : ∃ A, A = valsM l := ⟨_, rfl⟩
  rw [← hA] at HG HL ⊢
  clear hA
  cases hs : storeB l with
  | false =>
    have HV : Hid (putM l key val = ([], false)) := Lib.hid (by simp [putM, hs])
    clear hs HG
    go_wp2_with (first | (refine wpList_store_arr' rfl _ _ _ rfl _ A (by rfl) (by rfl) 73 _ hA0 (by rw [HL.out]; exact infoArr) (by rw [HL.out]; rfl) ?_; intro w2 hA2 hg2 hz2; have hb2 := below_new hb hg2; clear hg2))
    go_ret2
    rw [HV.out]
    exact ⟨_, rfl, own_nil _ _ _ _, (fun e he => by cases he), hb2⟩
  | true =>
    have hok := (storeB_ok l).1 hs
    have hAA := HG.out hs
    cases hi : (inB key 0 31 && inB val 0 1000000) with
    | false =>
      have HV : Hid (putM l key val = (l, false)) := Lib.hid (by simp only [putM, hs, hi]; rfl)
      have HE : Hid (entTo A 32 = l) := Lib.hid (by rw [hAA]; exact ent_arr hok)
      clear hs HG hok hAA
      cases hi1 : inB key 0 31 with
      | false =>
        clear hi
        go_wp2_with (first | (refine wpList_store_arr' rfl _ _ _ rfl _ A (by rfl) (by rfl) 73 _ hA0 (by rw [HL.out]; exact infoArr) (by rw [HL.out]; rfl) ?_; intro w2 hA2 hg2 hz2; have hb2 := below_new hb hg2; clear hg2) | (go_at_call 44; refine (isKey_impl _ _).mono ?_; rintro e w' ⟨rfl, rfl⟩) | (refine wpList_load_arr rfl _ _ rfl _ (by rfl) 73 A hA2 _ _ Try.underlying73 (by rw [HL.out]; exact infoArr) ?_) | (go_at_call 58; refine (entries_impl A _ HL.out).mono ?_; rintro e w3 ⟨v, rfl, hown, hb3⟩))
        go_ret2
        rw [HV.out]
        rw [HE.out] at hown
        exact ⟨_, rfl, owns_mono hown hb2.size, HW.out, hb2.trans (hb3.mono hb2.size)⟩
      | true =>
        have hi2 : inB val 0 1000000 = false := by rw [hi1] at hi; simpa using hi
        clear hi
        go_wp2_with (first | (refine wpList_store_arr' rfl _ _ _ rfl _ A (by rfl) (by rfl) 73 _ hA0 (by rw [HL.out]; exact infoArr) (by rw [HL.out]; rfl) ?_; intro w2 hA2 hg2 hz2; have hb2 := below_new hb hg2; clear hg2) | (go_at_call 44; refine (isKey_impl _ _).mono ?_; rintro e w' ⟨rfl, rfl⟩) | (go_at_call 45; refine (isValue_impl _ _).mono ?_; rintro e w' ⟨rfl, rfl⟩) | (refine wpList_load_arr rfl _ _ rfl _ (by rfl) 73 A hA2 _ _ Try.underlying73 (by rw [HL.out]; exact infoArr) ?_) | (go_at_call 58; refine (entries_impl A _ HL.out).mono ?_; rintro e w3 ⟨v, rfl, hown, hb3⟩))
        go_ret2
        rw [HV.out]
        rw [HE.out] at hown
        exact ⟨_, rfl, owns_mono hown hb2.size, HW.out, hb2.trans (hb3.mono hb2.size)⟩
    | true =>
      simp only [Bool.and_eq_true] at hi
      obtain ⟨hi1, hi2⟩ := hi
      have hkb := inB_true hi1
      have hvb := inB_true hi2
      obtain ⟨m, rfl⟩ : ∃ m : Nat, key = (m : Int) := ⟨key.toNat, by omega⟩
      have HV : Hid (putM l m val = (putRaw m val l, true)) := Lib.hid (by simp only [putM, hs, hi1, hi2]; rfl)
      have HE : Hid (entTo (A.set m val) 32 = putRaw m val l) := Lib.hid (by rw [hAA]; have := ent_set hok hkb.1 hkb.2 hvb.1 hvb.2; rwa [Int.toNat_natCast] at this)
      have HL2 : Hid ((A.set m val).length = 32) := Lib.hid (by rw [List.length_set]; exact HL.out)
      clear hs HG hok hAA
      obtain ⟨k0, k1⟩ := hkb
      go_wp2_with (first | (refine wpList_store_arr' rfl _ _ _ rfl _ A (by rfl) (by rfl) 73 _ hA0 (by rw [HL.out]; exact infoArr) (by rw [HL.out]; rfl) ?_; intro w2 hA2 hg2 hz2; have hb2 := below_new hb hg2; have hc2 := hA2.cell m (by rw [HL.out]; omega); have hf2 := hA2.frozen m; have hA3 := hA2.set m val; have hb3 := hb2.setCell (p := ⟨w1.heap.size, m, none⟩) hb.size (.int .i64 val); clear hg2) | (go_at_call 44; refine (isKey_impl _ _).mono ?_; rintro e w' ⟨rfl, rfl⟩) | (go_at_call 45; refine (isValue_impl _ _).mono ?_; rintro e w' ⟨rfl, rfl⟩) | (refine wpList_load_arr rfl _ _ rfl _ (by rfl) 73 (A.set m val) hA3 _ _ Try.underlying73 (by rw [HL2.out]; exact infoArr) ?_) | (go_at_call 58; refine (entries_impl (A.set m val) _ HL2.out).mono ?_; rintro e w3 ⟨v, rfl, hown, hb4⟩))
      go_ret2
      rw [HV.out]
      rw [HE.out] at hown
      exact ⟨_, rfl, owns_mono hown hb3.size, by have := putM_wf' m val HW.out; rwa [HV.out] at this, hb3.trans (hb4.mono hb3.size)⟩
end Go.Proofs.Ytpaeioabmmkheaa
