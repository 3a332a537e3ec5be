/- The contracts of the model's ProofRoot and ProofRight. -/
import Derived.Test.YtpaeioabmmkheaaTreeProof
namespace Go.Proofs.Ytpaeioabmmkheaa
open Go.RowKit
theorem sumTo_no {l : List Int} {key val : Int} {j : Nat} (hl : l.length = 5) (hj : j < 5) (h : inB (l.getD j 0) 0 1000002 = false) : proofRootM key val l = -1 := by
  simp [proofRootM, proofB_no hl hj h]
theorem rem_at (q k : Nat) : ((q : Int) / 2 ^ k).tmod 2 = ((q / 2 ^ k % 2 : Nat) : Int) := by
  rw [div_pow_cast]; exact (Int.ofNat_tmod (q / 2 ^ k) 2).symm
set_option maxHeartbeats 1000000 in
theorem proofRoot_spec (key val : Int) (a : Option Addr) (n cap : Nat) (l : List Int) (w : World) (h : RowI w a n l) :
    Calls Try.prog 32 #[.int .i64 key, .int .i64 val, .slice a n cap] w (IntB (proofRootM key val l) w) := by
  by_cases hin : 0 ≤ key ∧ key ≤ 31 ∧ 0 ≤ val ∧ val ≤ 1000000
  · obtain ⟨a0, a1, a2, a3⟩ := hin
    have hlf0 := leafM_ok a0 a1 a2 a3
    have hlf1 := (leafM_bd key val).2
    have HR := Lib.hid h
    have hm := h.2.1
    unfold maxLen at hm
    clear h
    by_cases h5 : n = 5
    · subst h5
      obtain ⟨kn, rfl⟩ := Int.eq_ofNat_of_zero_le a0
      obtain ⟨b, off, rfl, hc⟩ := HR.out.2.2.1 (by omega)
      have HL := Lib.hid HR.out.1
      have hb0 : b < w.heap.size := World.block_lt_of_cell? w ⟨b, off + 0, none⟩ (hc 0 (by omega))
      have HF : Hid (SumTo l 5 → proofRootM (kn : Int) val l = climb kn l (leafM (kn : Int) val) 5) := Lib.hid (fun ht => by
        have := proofRoot_yes a0 a1 a2 a3 (proofB_to HL.out ht); rwa [Int.toNat_natCast] at this)
      have HBD := Lib.hid (fun k (hk : k < 5) => HR.out.bd k hk)
      go_enter Try.func32, Try.ntmps32
      go_wp2_with fail
      refine (leafSum_spec _ _ _).mono ?_; rintro e w1 ⟨rfl, hb1⟩
      have HNO := Lib.hid (fun j hj hh => sumTo_no (l := l) (key := (kn : Int)) (val := val) (j := j) HL.out hj hh)
      obtain ⟨N, hN⟩ : ∃ N, N = leafM (kn : Int) val := ⟨_, rfl⟩
      rw [← hN] at hlf0 hlf1 HF ⊢
      clear hN
      have hlt0 : decide (N < 0) = false := by simp; omega
      go_wp2_with fail
      go_loopw [7, 8] (fun s i wr => ∃ k : Nat, k ≤ 5 ∧ i = .int .i64 k ∧ s = .int .i64 (climb kn l N k) ∧ SumTo l k ∧ Below w.heap.size w wr) (fun _ i _ => 5 - (intOf i).toNat)
      case atStart => exact ⟨0, Nat.zero_le _, rfl, rfl, fun j hj => absurd hj (Nat.not_lt_zero j), hb1⟩
      case round =>
        obtain ⟨k, hk, rfl, rfl, hto, hb⟩ := hrel
        have HT := Lib.hid hto
        clear hb1 hto
        have hs := climb_bd kn l N hlf0 hlf1 k
        by_cases hlt : k < 5
        · have hck := (hb.cell (p := ⟨b, off + k, none⟩) hb0).trans (hc k hlt)
          have hm := HBD.out k hlt
          have HB := Lib.hid (fun e => HNO.out k hlt e)
          have HN := Lib.hid (climb_next kn l N k)
          have HTN := Lib.hid (fun e => HT.out.next (k := k) e)
          clear hc
          obtain ⟨x, hx⟩ : ∃ x, x = l.getD k 0 := ⟨_, rfl⟩
          rw [← hx] at hck hm HN HB HTN
          clear hx
          obtain ⟨s, hs'⟩ : ∃ s, s = climb kn l N k := ⟨_, rfl⟩
          rw [← hs'] at hs HN ⊢
          clear hs'
          cases e1 : inB x 0 1000002 with
          | false =>
            have HB2 := Lib.hid (HB.out e1)
            clear HB HTN HN
            go_wp2_with (first | (go_at_call 46; refine (l1In_spec _ _ _ _).mono ?_; rintro e w' ⟨rfl, rfl⟩))
            go_ret
            exact ⟨ret_int HB2.out.symm, hb⟩
          | true =>
            have hxx := inB_true e1
            have HT2 := Lib.hid (HTN.out e1)
            clear HB HTN hm
            by_cases hcb : kn / 2 ^ k % 2 = 1
            · have hbit : (((kn : Int) / 2 ^ k).tmod 2 == 1) = true := by rw [rem_at kn k, hcb]; rfl
              have HN2 := Lib.hid (HN.out.trans (if_pos hcb))
              clear hcb HN
              go_wp2_with (first | (go_at_call 46; refine (l1In_spec _ _ _ _).mono ?_; rintro e w' ⟨rfl, rfl⟩))
              refine (l3Node_spec x s _ hxx.1 hxx.2 hs.1 hs.2).mono ?_; rintro e w2 ⟨rfl, hb2⟩
              go_wp2
              go_roundw
              case rel => exact ⟨k + 1, by omega, by go_num, by rw [HN2.out], HT2.out, hb.trans (hb2.mono hb.size)⟩
              case measure => simp [intOf]; omega
            · have hbit : (((kn : Int) / 2 ^ k).tmod 2 == 1) = false := by rw [rem_at kn k, mod2_zero hcb]; rfl
              have HN2 := Lib.hid (HN.out.trans (if_neg hcb))
              clear hcb HN
              go_wp2_with (first | (go_at_call 46; refine (l1In_spec _ _ _ _).mono ?_; rintro e w' ⟨rfl, rfl⟩))
              refine (l3Node_spec s x _ hs.1 hs.2 hxx.1 hxx.2).mono ?_; rintro e w2 ⟨rfl, hb2⟩
              go_wp2
              go_roundw
              case rel => exact ⟨k + 1, by omega, by go_num, by rw [HN2.out], HT2.out, hb.trans (hb2.mono hb.size)⟩
              case measure => simp [intOf]; omega
        · obtain rfl : k = 5 := by omega
          have HF2 := Lib.hid (HF.out HT.out)
          clear hc
          go_wp2
          go_ret
          exact ⟨ret_int HF2.out.symm, hb⟩
    · have HF : Hid (proofRootM key val l = -1) := Lib.hid (by
        have : proofB l = false := by
          rw [Bool.eq_false_iff]; intro hh
          exact h5 (HR.out.1.symm.trans (proofB_mem hh).1)
        simp [proofRootM, this])
      have h6 : ((n : Int) != 5) = true := by simp; omega
      clear h5
      go_enter Try.func32, Try.ntmps32
      go_wp2_with fail
      refine (leafSum_spec _ _ _).mono ?_; rintro e w1 ⟨rfl, hb1⟩
      obtain ⟨N, hN⟩ : ∃ N, N = leafM key val := ⟨_, rfl⟩
      rw [← hN] at hlf0 hlf1 ⊢
      clear hN
      have hlt0 : decide (N < 0) = false := by simp; omega
      go_wp2
      go_ret
      exact ⟨ret_int HF.out.symm, hb1⟩
  · have HF : Hid (proofRootM key val l = -1) := Lib.hid (by
      unfold proofRootM
      rw [if_neg]
      intro hh
      simp only [Bool.and_eq_true] at hh
      have h1 := inB_true hh.1.1; have h2 := inB_true hh.1.2
      omega)
    have hlf := leafM_no hin
    clear hin h
    go_enter Try.func32, Try.ntmps32
    go_wp2_with fail
    refine (leafSum_spec _ _ _).mono ?_; rintro e w1 ⟨rfl, hb1⟩
    rw [hlf]
    go_wp2
    go_ret
    exact ⟨ret_int HF.out.symm, hb1⟩
theorem proofRight_spec (root key val : Int) (a : Option Addr) (n cap : Nat) (l : List Int) (w : World) (h : RowI w a n l) :
    Calls Try.prog 34 #[.int .i64 root, .int .i64 key, .int .i64 val, .slice a n cap] w (BoolB (proofRightM root key val l) w) := by
  by_cases h0 : 0 ≤ root
  · have HF : Hid (proofRightM root key val l = (proofRootM key val l == root)) := Lib.hid (by
      simp only [proofRightM, h0, decide_true, Bool.true_and]; rw [Bool.eq_iff_iff]; simp)
    have h1 : decide (0 ≤ root) = true := by simpa using h0
    have HR := Lib.hid h; clear h
    go_enter Try.func34, Try.ntmps34
    go_wp2_with (first | (go_at_call 32; refine (proofRoot_spec key val a n cap l _ HR.out).mono ?_; rintro e w1 ⟨rfl, hb1⟩))
    go_ret
    exact ⟨by rw [HF.out]; rfl, hb1⟩
  · have HF : Hid (proofRightM root key val l = false) := Lib.hid (by simp [proofRightM, h0])
    have h1 : decide (0 ≤ root) = false := by simpa using h0
    clear h
    go_enter Try.func34, Try.ntmps34
    go_wp2
    go_ret
    exact ⟨by rw [HF.out]; rfl, Below.refl _ _⟩
end Go.Proofs.Ytpaeioabmmkheaa
