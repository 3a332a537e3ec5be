/- The contracts of the program's RootOf and ProofOf. -/
import Derived.Test.YtpaeioabmmkheaaTreeLevels
import Derived.Test.YtpaeioabmmkheaaIntsWalks
import Derived.RegionTactic
namespace Go.Proofs.Ytpaeioabmmkheaa
open Go.RowKit
theorem rootOf_impl (a : Option Addr) (n cap : Nat) (l : List Ent) (w : World) (h : RowE w a n l) :
    Calls Try.prog 20 #[.slice a n cap] w (IntB (rootM l) w) := by
  go_enter Try.func20, Try.ntmps20
  go_wp2_with fail
  refine (levelsOf_any a n cap l _ h).mono ?_; rintro e w1 ⟨A, rfl, hAl, hLv, hb⟩
  have hA0 := Arr.new w1 68 zeros192
  have HAl := Lib.hid hAl
  have HLv := Lib.hid hLv
  clear hAl hLv
  cases hs : storeB l with
  | false =>
    have HF : Hid (rootM l = -1) := Lib.hid (by simp [rootM, hs])
    go_wp2_with (first | (refine wpList_store_arr' rfl _ _ _ rfl _ A (by rfl) (by rfl) 68 _ hA0 (by rw [HAl.out]; exact infoLv) (by rw [HAl.out]; rfl) ?_; intro w2 hA2 hg2 hz2; have hb2 := below_new hb hg2; clear hg2))
    go_ret
    exact ⟨ret_int HF.out.symm, hb2⟩
  | true =>
    have HF : Hid (rootM l = A.getD (5 * 32 + 0) 0) := Lib.hid (by rw [HLv.out hs 5 (by omega) 0 (by decide)]; simp [rootM, hs])
    clear hs
    go_wp2_with (first | (refine wpList_store_arr' rfl _ _ _ rfl _ A (by rfl) (by rfl) 68 _ hA0 (by rw [HAl.out]; exact infoLv) (by rw [HAl.out]; rfl) ?_; intro w2 hA2 hg2 hz2; have hb2 := below_new hb hg2; clear hg2; have hc := hA2.cell 160 (by rw [HAl.out]; omega)))
    go_ret
    exact ⟨ret_int HF.out.symm, hb2⟩
theorem xor_at (q k : Nat) (h : q ≤ 31) : bits .xor .i64 ((q : Int) / 2 ^ k) 1 = ((sibN (q / 2 ^ k) : Nat) : Int) := by
  have : q / 2 ^ k ≤ q := Nat.div_le_self _ _
  rw [div_pow_cast]
  generalize q / 2 ^ k = t at *
  have hx := xor_one_nat t
  have h1' : (BitVec.ofInt 64 (t : Int)).toNat = t := by
    rw [BitVec.ofInt_natCast, BitVec.toNat_ofNat]; exact Nat.mod_eq_of_lt (by omega)
  show IntKind.i64.wrap ((BitVec.ofInt 64 (t : Int) ^^^ BitVec.ofInt 64 1).toNat : Int) = _
  rw [BitVec.toNat_xor, h1', show (BitVec.ofInt 64 1).toNat = 1 from rfl, hx]
  exact IntWalk.i64_in _ (by split <;> omega)
theorem sib_lt (key k : Nat) (hk : k < 5) (h : key ≤ 31) : sibN (key / 2 ^ k) < 32 / 2 ^ k := by
  have h1 := halves k hk
  rw [h1.1]
  refine sibN_lt _ _ ?_
  rw [← h1.1]
  exact (Nat.div_lt_iff_lt_mul (Nat.two_pow_pos k)).2 (by
    have : 32 / 2 ^ k * 2 ^ k = 32 := by rcases (by omega : k = 0 ∨ k = 1 ∨ k = 2 ∨ k = 3 ∨ k = 4) with rfl | rfl | rfl | rfl | rfl <;> decide
    omega)
set_option maxHeartbeats 4000000 in
theorem proofOf_impl (a : Option Addr) (n cap : Nat) (l : List Ent) (key : Int) (w : World) (h : RowE w a n l) :
    Calls Try.prog 25 #[.slice a n cap, .int .i64 key] w (NewLN w (proofM l key)) := by
  go_enter Try.func25, Try.ntmps25
  go_wp2_with fail
  refine (levelsOf_any a n cap l _ h).mono ?_; rintro e w1 ⟨A, rfl, hAl, hLv, hb⟩
  have hA0 := Arr.new w1 68 zeros192
  have HAl := Lib.hid hAl
  have HLv := Lib.hid hLv
  clear hAl hLv
  cases hs : storeB l with
  | false =>
    have HF : Hid (proofM l key = []) := Lib.hid (by simp [proofM, hs])
    go_wp2_with (first | (refine wpList_store_arr' rfl _ _ _ rfl _ A (by rfl) (by rfl) 68 _ hA0 (by rw [HAl.out]; exact infoLv) (by rw [HAl.out]; rfl) ?_; intro w2 hA2 hg2 hz2; have hb2 := below_new hb hg2; clear hg2))
    go_ret
    exact ⟨_, rfl, by rw [HF.out]; exact own_nil _ _ _ _, (by rw [HF.out]; intro x hx; cases hx), hb2⟩
  | true =>
    cases e1 : inB key 0 31 with
    | false =>
      have HF : Hid (proofM l key = []) := Lib.hid (by simp [proofM, e1])
      go_wp2_with (first | (refine wpList_store_arr' rfl _ _ _ rfl _ A (by rfl) (by rfl) 68 _ hA0 (by rw [HAl.out]; exact infoLv) (by rw [HAl.out]; rfl) ?_; intro w2 hA2 hg2 hz2; have hb2 := below_new hb hg2; clear hg2) | (go_at_call 44; refine (isKey_impl _ _).mono ?_; rintro e w' ⟨rfl, rfl⟩))
      go_ret
      exact ⟨_, rfl, by rw [HF.out]; exact own_nil _ _ _ _, (by rw [HF.out]; intro x hx; cases hx), hb2⟩
    | true =>
      have h1 := inB_true e1
      obtain ⟨kn, rfl⟩ := Int.eq_ofNat_of_zero_le h1.1
      have hk31 : kn ≤ 31 := by omega
      have HF : Hid (proofM l (kn : Int) = proofTo l kn 5) := Lib.hid (proofM_yes hs h1.1 h1.2)
      have HPL := Lib.hid (proofTo_len l kn 5)
      have HPG : Hid (∀ k, k < 5 → A.getD (k * 32 + sibN (kn / 2 ^ k)) 0 = (proofTo l kn 5).getD k 0) := Lib.hid (fun k hk => by
        rw [HLv.out hs k (by omega) _ (sib_lt kn k hk hk31), proofTo_get l kn 5 k hk])
      have HW : Hid (∀ x ∈ proofTo l kn 5, (Lit.int .i64 x).wf = true) := Lib.hid (fun x hx => by
        have := proofTo_ok hs kn (by omega) 5 x hx
        exact WalkArith.wf_i64 (by omega))
      clear HLv hs h1
      obtain ⟨i0, hi, hi0, hi1, hi2⟩ := info_parts infoInt
      go_wp2_with (first | (refine wpList_store_arr' rfl _ _ _ rfl _ A (by rfl) (by rfl) 68 _ hA0 (by rw [HAl.out]; exact infoLv) (by rw [HAl.out]; rfl) ?_; intro w2 hA2 hg2 hz2; have hb2 := below_new hb hg2; clear hg2 hz2) | (go_at_call 44; refine (isKey_impl _ _).mono ?_; rintro e w' ⟨rfl, rfl⟩) | (at_make; refine wpList_make_full _ rfl (.const (.int .i64 5)) (.const (.int .i64 5)) 28 rfl w2.heap.size 3 i0 (.int .i64 0) 1 Try.underlying28 hi hi0 hi1 .i64 .i64 5 5 5 rfl rfl rfl rfl (by rw [hi2]; omega) (by unfold maxLen; omega) (Nat.le_refl _) ?_; intro w3 hown hgrow; clear hi hi0 hi1 hi2))
      have hcells : (madeCells (Value.int .i64 0).cells (5 * 1)).toList = (fillI (proofTo l kn 5) 0).map (Value.int .i64) := by
        rw [fillI_zero, HPL.out]; exact (toList_madeCells_one _ _).trans (by simp)
      rw [hcells] at hown
      clear hcells
      have hA3 := hA2.grown hgrow (by simp)
      have hb3 : Below w.heap.size w w3 := hb2.grown hgrow hb2.size (fun k hk => by simp at hk)
      have hsz : w.heap.size ≤ w2.heap.size := hb2.size
      have hg12 : w1.heap.size < w2.heap.size := hA2.lt
      obtain ⟨P, hP⟩ : ∃ P, P = proofTo l kn 5 := ⟨_, rfl⟩
      rw [← hP] at hown HPL HPG HW HF
      clear hP hA0 hA2 hgrow hb2 hb h e1
      go_loopw [24] (fun i wr => ∃ k : Nat, k ≤ 5 ∧ i = .int .i64 k ∧ wr.ownsRow w2.heap.size 3 1 (.slice (some ⟨w2.heap.size, 0, none⟩) 5 5) 5 ((fillI P k).map (Value.int .i64)) ∧ Arr wr w1.heap.size 68 A ∧ Below w.heap.size w wr) (fun i _ => 5 - (intOf i).toNat)
      case atStart => exact ⟨0, Nat.zero_le _, rfl, hown, hA3, hb3⟩
      case round =>
        clear hown hA3 hb3
        obtain ⟨k, hk, rfl, hown, hA, hb⟩ := hrel
        by_cases hlt : k < 5
        · have hsl := Nat.lt_of_lt_of_le (sib_lt kn k hlt hk31) (Nat.div_le_self 32 (2 ^ k))
          have hc := hA.cell (k * 32 + sibN (kn / 2 ^ k)) (by rw [HAl.out]; omega)
          rw [HPG.out k hlt] at hc
          have hxo := xor_at kn k hk31
          have hst := (hown.stored k (.int .i64 (P.getD k 0))).1
          rw [← List.map_set, fillI_set P k (by rw [HPL.out]; exact hlt)] at hst
          have HST := Lib.hid hst
          have hfr := hown.frozenAt k
          have hce := hown.cellAt k (by omega)
          rw [List.getElem?_map, List.getElem?_eq_getElem (by rw [fillI_len P k (by rw [HPL.out]; exact hk), HPL.out]; exact hlt)] at hce
          simp only [Option.map_some] at hce
          obtain ⟨d, hd⟩ : ∃ d, d = (fillI P k)[k]'(by rw [fillI_len P k (by rw [HPL.out]; exact hk), HPL.out]; exact hlt) := ⟨_, rfl⟩
          rw [← hd] at hce
          obtain ⟨x, hx⟩ : ∃ x, x = P.getD k 0 := ⟨_, rfl⟩
          rw [← hx] at hc HST
          obtain ⟨s, hs⟩ : ∃ s, s = sibN (kn / 2 ^ k) := ⟨_, rfl⟩
          rw [← hs] at hc hsl hxo
          have hne : w1.heap.size ≠ w2.heap.size := Nat.ne_of_lt hg12
          have hA' := hA.setOther ⟨w2.heap.size, k, none⟩ (.int .i64 x) hne
          have hb' := hb.setCell (p := ⟨w2.heap.size, k, none⟩) hsz (.int .i64 x)
          have HA' := Lib.hid hA'
          have HB' := Lib.hid hb'
          clear hd hx hs hst hown hA hb hA' hb'
          go_wp2
          have hk6 : (k : Int) < 6 := by omega
          go_region
          go_wp2
          go_roundw
          case rel => exact ⟨k + 1, by omega, by go_num, HST.out, HA'.out, HB'.out.drew⟩
          case measure => simp [intOf]; omega
        · have e : fillI P k = P := by rw [show k = P.length by rw [HPL.out]; omega]; exact fillI_all P
          rw [e] at hown
          have HO := Lib.hid hown
          clear hown e
          go_wp2
          go_ret
          exact ⟨_, rfl, by rw [HF.out, HPL.out]; exact owns_mono HO.out hsz, (by rw [HF.out]; exact HW.out), hb⟩
end Go.Proofs.Ytpaeioabmmkheaa
