/- The contracts of the program's StoreTotal and ChangedKeys. -/
import Derived.Test.YtmblmmbcdmmpcaaImplPut
import Derived.Test.YtmblmmbcdmmpcaaSpecChanged
namespace Go.Proofs.Ytmblmmbcdmmpcaa
open Go.RowKit
theorem valsM_get {l : List Ent} (hs : storeB l = true) (k : Nat) (hk : k < 32) : (valsM l).getD k 0 = atM l k := by
  rw [show valsM l = arrOf l by simp [valsM, hs]]; exact arrOf_get l k hk
theorem valsM_bd {l : List Ent} (hs : storeB l = true) : BdA (valsM l) := by
  rw [show valsM l = arrOf l by simp [valsM, hs]]; exact bdA_arrOf ((storeB_ok l).1 hs).2
theorem run_index_vals (A : List Int) (hl : A.length = 32) (k : Nat) (hk : k < 32) (W : World) :
    (Instr.index 62 (.agg (cellsI A)) (.int .i64 (k : Int))).run Try.prog W = .ok (.int .i64 (A.getD k 0)) W :=
  run_index_arr (P := Try.prog) W 62 32 3 _ Try.underlying62 Try.underlying3 rfl (by kernel_rfl) A hl k hk
set_option maxHeartbeats 1000000 in
theorem storeTotal_impl (a : Option Addr) (n cap : Nat) (l : List Ent) (w : World) (h : RowE w a n l) :
    Calls Try.prog 26 #[.slice a n cap] w (IntB (totalM l) w) := by
  go_enter Try.func26, Try.ntmps26
  go_wp2_with fail
  refine (valuesOf_any a n cap l _ h).mono ?_; rintro e w1 ⟨rfl, hb⟩
  have hA0 := Arr.new w1 62 zeros
  have HL := Lib.hid (valsM_len l)
  have HE : Hid (storeB l = true → sumV (entTo (valsM l) 32) = totalM l ∧ BdA (valsM l)) := Lib.hid (fun hs => ⟨by
    rw [show valsM l = arrOf l by simp [valsM, hs], ent_arr ((storeB_ok l).1 hs)]; simp [totalM, hs], valsM_bd hs⟩)
  obtain ⟨A, hA⟩ : ∃ A, A = valsM l := ⟨_, rfl⟩
  rw [← hA] at HL HE ⊢
  clear hA
  cases hs : storeB l with
  | false =>
    have HV : Hid (totalM l = -1) := Lib.hid (by simp [totalM, hs])
    clear hs HE
    go_wp2_with (first | (refine wpList_store_arr' rfl _ _ _ rfl _ A (by rfl) (by rfl) 62 _ hA0 (by rw [HL.out]; exact infoArr) (by rw [HL.out]; rfl) ?_; intro w2 hA2 hg2 hz2; have hb2 := below_new hb hg2; clear hg2))
    go_ret
    exact ⟨ret_int HV.out.symm, hb2⟩
  | true =>
    have HE2 := Lib.hid (HE.out hs)
    clear hs HE
    go_wp2_with (first | (refine wpList_store_arr' rfl _ _ _ rfl _ A (by rfl) (by rfl) 62 _ hA0 (by rw [HL.out]; exact infoArr) (by rw [HL.out]; rfl) ?_; intro w2 hA2 hg2 hz2; have hb2 := below_new hb hg2; clear hg2) | (refine wpList_load_arr rfl _ _ rfl _ (by rfl) 62 A hA2 _ _ Try.underlying62 (by rw [HL.out]; exact infoArr) ?_))
    go_loop [5, 7, 16] (fun t _ i => ∃ k : Nat, k ≤ 32 ∧ i = .int .i64 k ∧ t = .int .i64 (sumV (entTo A k))) (fun _ _ i => 32 - (intOf i).toNat)
    case atStart => exact ⟨0, by omega, rfl, rfl⟩
    case round =>
      obtain ⟨k, hk, rfl, rfl⟩ := hrel
      by_cases hlt : k < 32
      · have hix := run_index_vals A HL.out k hlt
        have hsb := sumV_entTo_bd HE2.out.2 k hk
        have hab := HE2.out.2 k hlt
        have HN := Lib.hid (sumV_entTo A k)
        obtain ⟨x, hx⟩ : ∃ x, x = A.getD k 0 := ⟨_, rfl⟩
        rw [← hx] at hix hab HN
        clear hx
        obtain ⟨s1, s2⟩ := hsb
        obtain ⟨a1, a2⟩ := hab
        obtain ⟨t, ht⟩ : ∃ t, t = sumV (entTo A k) := ⟨_, rfl⟩
        rw [← ht] at s1 s2 HN ⊢
        clear ht
        go_wp2
        go_round
        case rel => exact ⟨k + 1, by omega, by go_num, by rw [HN.out]⟩
        case measure => simp [intOf]; omega
      · obtain rfl : k = 32 := by omega
        have HT := Lib.hid HE2.out.1
        go_wp2
        go_ret
        exact ⟨ret_int HT.out, hb2⟩
/-- A list of ints, new or nil. -/
def NewLN (w : World) (l : List Int) (e : Ending) (w' : World) : Prop :=
  ∃ v, e = .returned v ∧ w'.ownsRow w.heap.size 3 1 v l.length (l.map (Value.int .i64)) ∧ (∀ x ∈ l, (Lit.int .i64 x).wf = true) ∧ Below w.heap.size w w'
set_option maxHeartbeats 4000000 in
theorem changedKeys_impl (a b : Option Addr) (n m cap cap' : Nat) (l l' : List Ent) (w : World) (h : RowE w a n l) (h' : RowE w b m l') :
    Calls Try.prog 29 #[.slice a n cap, .slice b m cap'] w (NewLN w (changedM l l')) := by
  go_enter Try.func29, Try.ntmps29
  go_wp2_with fail
  refine (valuesOf_any a n cap l _ h).mono ?_; rintro e w1 ⟨rfl, hb⟩
  have hA0 := Arr.new w1 62 zeros
  have HL := Lib.hid (valsM_len l)
  have HL' := Lib.hid (valsM_len l')
  have HG : Hid (storeB l = true → ∀ k, k < 32 → (valsM l).getD k 0 = atM l k) := Lib.hid (fun hs k hk => valsM_get hs k hk)
  have HG' : Hid (storeB l' = true → ∀ k, k < 32 → (valsM l').getD k 0 = atM l' k) := Lib.hid (fun hs k hk => valsM_get hs k hk)
  obtain ⟨A, hA⟩ : ∃ A, A = valsM l := ⟨_, rfl⟩
  rw [← hA] at HL HG ⊢
  clear hA
  go_wp2_with (first | (refine wpList_store_arr' rfl _ _ _ rfl _ A (by rfl) (by rfl) 62 _ hA0 (by rw [HL.out]; exact infoArr) (by rw [HL.out]; rfl) ?_; intro w2 hA2 hg2 hz2; have hb2 := below_new hb hg2; clear hg2))
  refine (valuesOf_any b m cap' l' _ (h'.below hb2)).mono ?_; rintro e w3 ⟨rfl, hb3'⟩
  have hA3 := (hA2.after hb3').alloc (.cells (cellsI zeros) 62)
  have hb3 := hb2.trans (hb3'.mono hb2.size)
  have hl3 : w1.heap.size < w3.heap.size := (hA2.after hb3').lt
  clear hb3' hA2 hA0 hb hz2
  have hA0 := Arr.new w3 62 zeros
  obtain ⟨A', hA'⟩ : ∃ A, A = valsM l' := ⟨_, rfl⟩
  rw [← hA'] at HL' HG' ⊢
  clear hA'
  cases hs : storeB l with
  | false =>
    have HV : Hid (changedM l l' = []) := Lib.hid (by simp [changedM, hs])
    clear hs HG HG'
    go_wp2_with (first | (refine wpList_store_arr' rfl _ _ _ rfl _ A' (by rfl) (by rfl) 62 _ hA0 (by rw [HL'.out]; exact infoArr) (by rw [HL'.out]; rfl) ?_; intro w4 hA4 hg4 hz4; have hb4 := below_new hb3 hg4; clear hg4))
    go_ret
    exact ⟨_, rfl, by rw [HV.out]; exact own_nil _ _ _ _, (by rw [HV.out]; intro x hx; cases hx), hb4⟩
  | true =>
    cases hs' : storeB l' with
    | false =>
      have HV : Hid (changedM l l' = []) := Lib.hid (by simp [changedM, hs'])
      clear hs hs' HG HG'
      go_wp2_with (first | (refine wpList_store_arr' rfl _ _ _ rfl _ A' (by rfl) (by rfl) 62 _ hA0 (by rw [HL'.out]; exact infoArr) (by rw [HL'.out]; rfl) ?_; intro w4 hA4 hg4 hz4; have hb4 := below_new hb3 hg4; clear hg4))
      go_ret
      exact ⟨_, rfl, by rw [HV.out]; exact own_nil _ _ _ _, (by rw [HV.out]; intro x hx; cases hx), hb4⟩
    | true =>
      have HV : Hid (changedM l l' = chTo l l' 32) := Lib.hid (by simp [changedM, hs, hs', chTo])
      have HGG := Lib.hid (HG.out hs)
      have HGG' := Lib.hid (HG'.out hs')
      clear hs hs' HG HG'
      go_wp2_with (first | (refine wpList_store_arr' rfl _ _ _ rfl _ A' (by rfl) (by rfl) 62 _ hA0 (by rw [HL'.out]; exact infoArr) (by rw [HL'.out]; rfl) ?_; intro w4 hA4 hg4 hz4; have hb4 := below_new hb3 hg4; have hA5 := hA3.grown hg4 (by simp; omega); clear hg4 hz4) | (refine wpList_load_arr rfl _ _ rfl _ (by rfl) 62 A hA5 _ _ Try.underlying62 (by rw [HL.out]; exact infoArr) ?_))
      have hlt4 := hA4.lt
      go_loopw [9, 10, 11, 29] (fun v _ _ i wr => ∃ k : Nat, k ≤ 32 ∧ i = .int .i64 k ∧ wr.ownsRow w4.heap.size 3 1 v (chTo l l' k).length ((chTo l l' k).map (Value.int .i64)) ∧ Below w4.heap.size w4 wr) (fun _ _ _ i _ => 32 - (intOf i).toNat)
      case atStart => exact ⟨0, by omega, rfl, own_nil _ _ _ _, Below.refl _ _⟩
      case round =>
        obtain ⟨k, hk, rfl, hown, hbr⟩ := hrel
        have HX := Lib.hid (chTo_next l l' k)
        have hlen := chTo_len l l' k
        by_cases hlt : k < 32
        · have hix := run_index_vals A HL.out k hlt
          have hc := (hA4.after hbr).cell k (by rw [HL'.out]; exact hlt)
          rw [HGG.out k hlt] at hix
          rw [HGG'.out k hlt] at hc
          obtain ⟨x, hx⟩ : ∃ x, x = atM l k := ⟨_, rfl⟩
          obtain ⟨y, hy⟩ : ∃ y, y = atM l' k := ⟨_, rfl⟩
          rw [← hx, ← hy] at HX
          rw [← hx] at hix
          rw [← hy] at hc
          clear hx hy hA4 hA5 hA3 hA0
          by_cases hxy : x = y
          · have HX2 : Hid (chTo l l' (k + 1) = chTo l l' k) := by rw [HX.out]; exact Lib.hid (by simp [hxy])
            have hne : (x != y) = false := by simpa using hxy
            clear hxy HX
            go_wp2
            go_roundw
            case rel => exact ⟨k + 1, by omega, by go_num, by rw [HX2.out]; exact hown, hbr⟩
            case measure => simp [intOf]; omega
          · have HX2 : Hid (chTo l l' (k + 1) = chTo l l' k ++ [(k : Int)]) := by rw [HX.out]; exact Lib.hid (by simp [hxy])
            have hne : (x != y) = true := by simpa using hxy
            clear hxy HX
            go_wp2_with (at_builtin; refine wpList_append_one' rfl _ _ 41 rfl w4.heap.size 3 _ (.int .i64 0) 1 8 Try.underlying41 infoIntC rfl (by decide) _ _ _ [.int .i64 (k : Int)] (by rfl) hown (by rfl) rfl ?c11 ?c21 (by decide) ?c31 ?_)
            case c11 => intro u hu; simp at hu; subst hu; rfl
            case c21 => omega
            case c31 => exact hbr.size
            intro v1 w5 ho1' hnn hg1
            have hb5 : Below w4.heap.size w4 w5 := (hbr.alloc hbr.size _).grown hg1 (by have := hbr.size; simp; omega) (fun k hk => (hown.lt k hk).1)
            clear hg1
            go_wp2
            go_roundw
            case rel => exact ⟨k + 1, by omega, by go_num, by rw [HX2.out, List.map_append, List.length_append]; exact ho1', hb5⟩
            case measure => simp [intOf]; omega
        · obtain rfl : k = 32 := by omega
          go_wp2
          go_ret
          exact ⟨_, rfl, by rw [HV.out]; exact owns_mono hown hb4.size, by rw [HV.out]; intro x hx; have := chTo_mem l l' 32 x hx; exact WalkArith.wf_i64 (by omega), hb4.trans (hbr.mono hb4.size)⟩
end Go.Proofs.Ytmblmmbcdmmpcaa
