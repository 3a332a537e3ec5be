/- The contracts of the program's isProof, ProofRoot and ProofRight. -/
import Derived.Test.YtpaeioabmmkheaaTreeLeaf
namespace Go.Proofs.Ytpaeioabmmkheaa
open Go.RowKit
theorem isSum_impl (n : Int) (w : World) :
    Calls Try.prog 72 #[.int .i64 n] w fun e w' => e = .returned (.bool (inB n 0 1000002)) ∧ w = w' := by
  by_cases h1 : 0 ≤ n
  · by_cases h2 : n ≤ 1000002
    · rw [inB_yes h1 h2]
      have h3 : decide (n < 1000003) = true := by simp; omega
      go_enter Try.func72, Try.ntmps72
      go_wp2
      go_ret
      exact ⟨rfl, rfl⟩
    · rw [inB_no (by omega)]
      have h3 : decide (n < 1000003) = false := by simp; omega
      go_enter Try.func72, Try.ntmps72
      go_wp2
      go_ret
      exact ⟨rfl, rfl⟩
  · rw [inB_no (by omega)]
    go_enter Try.func72, Try.ntmps72
    go_wp2
    go_ret
    exact ⟨rfl, rfl⟩
def SumTo (l : List Int) (k : Nat) : Prop := ∀ j, j < k → inB (l.getD j 0) 0 1000002 = true
theorem SumTo.next {l : List Int} {k : Nat} (h : SumTo l k) (hk : inB (l.getD k 0) 0 1000002 = true) : SumTo l (k + 1) := by
  intro j hj
  by_cases e : j = k
  · rw [e]; exact hk
  · exact h j (by omega)
theorem proofB_to {l : List Int} (hl : l.length = 5) (h : SumTo l 5) : proofB l = true :=
  proofB_yes hl fun x hx => by
    obtain ⟨j, hj, rfl⟩ := List.getElem_of_mem hx
    have := inB_true (h j (by omega))
    rw [List.getD_eq_getElem?_getD, List.getElem?_eq_getElem hj] at this
    exact this
theorem proofB_no {l : List Int} {j : Nat} (hl : l.length = 5) (hj : j < 5) (h : inB (l.getD j 0) 0 1000002 = false) : proofB l = false :=
  proofB_bad j (by omega) (inB_false h)
theorem isProof_impl (a : Option Addr) (n cap : Nat) (l : List Int) (w : World) (h : RowI w a n l) :
    Calls Try.prog 59 #[.slice a n cap] w fun e w' => e = .returned (.bool (proofB l)) ∧ w = w' := by
  have HL := Lib.hid h.1
  by_cases h5 : n = 5
  · subst h5
    obtain ⟨b, off, rfl, hc⟩ := h.2.2.1 (by omega)
    have hbd := fun k hk => h.bd k hk
    clear h
    go_enter Try.func59, Try.ntmps59
    go_wp2
    go_loop [10] (fun i => ∃ k : Nat, k ≤ 5 ∧ i = .int .i64 k ∧ SumTo l k) (fun i => 5 - (intOf i).toNat)
    case atStart => exact ⟨0, Nat.zero_le _, rfl, fun j hj => absurd hj (Nat.not_lt_zero j)⟩
    case round =>
      obtain ⟨k, hk, rfl, hto⟩ := hrel
      have HT := Lib.hid hto; clear hto
      by_cases hlt : k < 5
      · have hck := hc k hlt
        have HB := Lib.hid (fun e => proofB_no (l := l) HL.out hlt e)
        have HN := Lib.hid (fun e => HT.out.next (k := k) e)
        clear hc hbd
        obtain ⟨x, hx⟩ : ∃ x, x = l.getD k 0 := ⟨_, rfl⟩
        rw [← hx] at hck HB HN
        clear hx
        cases e1 : inB x 0 1000002 with
        | false =>
          have HF := Lib.hid (HB.out e1)
          clear HB HN
          go_wp2_with (first | (go_at_call 72; refine (isSum_impl _ _).mono ?_; rintro e w' ⟨rfl, rfl⟩))
          go_ret
          exact ⟨by rw [HF.out]; rfl, rfl⟩
        | true =>
          have HF := Lib.hid (HN.out e1)
          clear HB HN
          go_wp2_with (first | (go_at_call 72; refine (isSum_impl _ _).mono ?_; rintro e w' ⟨rfl, rfl⟩))
          go_round
          case rel => exact ⟨k + 1, by omega, by go_num, HF.out⟩
          case measure => simp [intOf]; omega
      · obtain rfl : k = 5 := by omega
        have HF := Lib.hid (proofB_to HL.out HT.out)
        clear hc hbd
        go_wp2
        go_ret
        exact ⟨by rw [HF.out]; rfl, rfl⟩
  · have HF : Hid (proofB l = false) := Lib.hid (by
      rw [Bool.eq_false_iff]; intro hh
      exact h5 (HL.out.symm.trans (proofB_mem hh).1))
    have h6 : ((n : Int) != 5) = true := by simp; omega
    have hm := h.2.1
    clear h h5
    go_enter Try.func59, Try.ntmps59
    go_wp2
    go_ret
    exact ⟨by rw [HF.out]; rfl, rfl⟩
theorem and_one (x : Int) (h0 : 0 ≤ x) (h1 : x ≤ 1000000000) : bits .and .i64 x 1 = x % 2 := by
  obtain ⟨a, rfl⟩ := Int.eq_ofNat_of_zero_le h0
  have h1' : (BitVec.ofInt 64 (a : Int)).toNat = a := by
    rw [BitVec.ofInt_natCast, BitVec.toNat_ofNat]; exact Nat.mod_eq_of_lt (by omega)
  show IntKind.i64.wrap ((BitVec.ofInt 64 (a : Int) &&& BitVec.ofInt 64 1).toNat : Int) = _
  rw [BitVec.toNat_and, h1', show (BitVec.ofInt 64 1).toNat = 1 from rfl, Nat.and_one_is_mod]
  exact (IntWalk.i64_in _ (by omega)).trans (by omega)
theorem div_pow_cast (q k : Nat) : (q : Int) / 2 ^ k = ((q / 2 ^ k : Nat) : Int) := by
  rw [Int.natCast_ediv, Int.natCast_pow]; rfl
theorem bit_at (q k : Nat) (h : q ≤ 31) : bits .and .i64 ((q : Int) / 2 ^ k) 1 = ((q / 2 ^ k % 2 : Nat) : Int) := by
  have : q / 2 ^ k ≤ q := Nat.div_le_self _ _
  rw [div_pow_cast]
  generalize q / 2 ^ k = t at *
  rw [and_one _ (by omega) (by omega)]; omega
theorem mod2_zero {t : Nat} (h : ¬ t % 2 = 1) : t % 2 = 0 := by omega
theorem climb_next (key : Nat) (p : List Int) (n : Int) (k : Nat) : climb key p n (k + 1) = if (key / 2 ^ k) % 2 = 1 then pairM (p.getD k 0) (climb key p n k) else pairM (climb key p n k) (p.getD k 0) := rfl
set_option maxHeartbeats 1000000 in
theorem proofRoot_impl (key val : Int) (a : Option Addr) (n cap : Nat) (l : List Int) (w : World) (h : RowI w a n l) :
    Calls Try.prog 30 #[.int .i64 key, .int .i64 val, .slice a n cap] w (IntB (proofRootM key val l) w) := by
  cases e1 : inB key 0 31 with
  | false =>
    have HF : Hid (proofRootM key val l = -1) := Lib.hid (by simp [proofRootM, e1])
    clear h
    go_enter Try.func30, Try.ntmps30
    go_wp2_with (first | (go_at_call 44; refine (isKey_impl _ _).mono ?_; rintro e w' ⟨rfl, rfl⟩))
    go_ret
    exact ⟨ret_int HF.out.symm, Below.refl _ _⟩
  | true =>
    cases e2 : inB val 0 1000000 with
    | false =>
      have HF : Hid (proofRootM key val l = -1) := Lib.hid (by simp [proofRootM, e2])
      clear h
      go_enter Try.func30, Try.ntmps30
      go_wp2_with (first | (go_at_call 44; refine (isKey_impl _ _).mono ?_; rintro e w' ⟨rfl, rfl⟩) | (go_at_call 45; refine (isValue_impl _ _).mono ?_; rintro e w' ⟨rfl, rfl⟩))
      go_ret
      exact ⟨ret_int HF.out.symm, Below.refl _ _⟩
    | true =>
      have HR := Lib.hid h; clear h
      cases e3 : proofB l with
      | false =>
        have HF : Hid (proofRootM key val l = -1) := Lib.hid (by simp [proofRootM, e3])
        go_enter Try.func30, Try.ntmps30
        go_wp2_with (first | (go_at_call 44; refine (isKey_impl _ _).mono ?_; rintro e w' ⟨rfl, rfl⟩) | (go_at_call 45; refine (isValue_impl _ _).mono ?_; rintro e w' ⟨rfl, rfl⟩) | (go_at_call 59; refine (isProof_impl _ _ _ l _ HR.out).mono ?_; rintro e w' ⟨rfl, rfl⟩))
        go_ret
        exact ⟨ret_int HF.out.symm, Below.refl _ _⟩
      | true =>
        have h1 := inB_true e1
        have h2 := inB_true e2
        have h3 := proofB_mem e3
        obtain ⟨kn, rfl⟩ := Int.eq_ofNat_of_zero_le h1.1
        have HF := Lib.hid (proofRoot_yes h1.1 h1.2 h2.1 h2.2 e3)
        have hn : n = 5 := HR.out.1.symm.trans h3.1
        subst hn
        obtain ⟨b, off, rfl, hc⟩ := HR.out.2.2.1 (by omega)
        have HM : Hid (∀ k, k < 5 → 0 ≤ l.getD k 0 ∧ l.getD k 0 ≤ 1000002) := Lib.hid (fun k hk => h3.2 _ (getD_mem l k (by rw [h3.1]; exact hk)))
        have hlf0 := leafM_ok h1.1 h1.2 h2.1 h2.2
        have hlf1 := (leafM_bd (kn : Int) val).2
        have hb0 : b < w.heap.size := World.block_lt_of_cell? w ⟨b, off + 0, none⟩ (hc 0 (by omega))
        have h1b := h1.2
        clear h1 h2 h3
        rw [Int.toNat_natCast] at HF
        go_enter Try.func30, Try.ntmps30
        go_wp2_with (first | (go_at_call 44; refine (isKey_impl _ _).mono ?_; rintro e w' ⟨rfl, rfl⟩) | (go_at_call 45; refine (isValue_impl _ _).mono ?_; rintro e w' ⟨rfl, rfl⟩) | (go_at_call 59; refine (isProof_impl _ _ _ l _ HR.out).mono ?_; rintro e w' ⟨rfl, rfl⟩) | (go_at_call 15; refine (leafSum_impl _ _ _).mono ?_; rintro e w1 ⟨rfl, hb1⟩))
        obtain ⟨N, hN⟩ : ∃ N, N = leafM (kn : Int) val := ⟨_, rfl⟩
        rw [← hN] at hlf0 hlf1 HF ⊢
        clear hN
        go_loopw [7, 28] (fun s i wr => ∃ k : Nat, k ≤ 5 ∧ i = .int .i64 k ∧ s = .int .i64 (climb kn l N k) ∧ Below w.heap.size w wr) (fun _ i _ => 5 - (intOf i).toNat)
        case atStart => exact ⟨0, Nat.zero_le _, rfl, rfl, hb1⟩
        case round =>
          obtain ⟨k, hk, rfl, rfl, hb⟩ := hrel
          clear hb1 e1 e2 e3
          have hs := climb_bd kn l N hlf0 hlf1 k
          by_cases hlt : k < 5
          · have hck := (hb.cell (p := ⟨b, off + k, none⟩) hb0).trans (hc k hlt)
            have hm := HM.out k hlt
            have HN := Lib.hid (climb_next kn l N k)
            clear hc
            obtain ⟨x, hx⟩ : ∃ x, x = l.getD k 0 := ⟨_, rfl⟩
            rw [← hx] at hck hm HN
            clear hx
            obtain ⟨s, hs'⟩ : ∃ s, s = climb kn l N k := ⟨_, rfl⟩
            rw [← hs'] at hs HN ⊢
            clear hs'
            by_cases hcb : kn / 2 ^ k % 2 = 1
            · have hbit : (bits .and .i64 ((kn : Int) / 2 ^ k) 1 == 1) = true := by rw [bit_at kn k (by omega), hcb]; rfl
              have HN2 := Lib.hid (HN.out.trans (if_pos hcb))
              clear hcb HN
              go_wp2_with fail
              refine (pairSum_impl x s _ hm.1 hm.2 hs.1 hs.2).mono ?_; rintro e w2 ⟨rfl, hb2⟩
              go_wp2
              go_roundw
              case rel => exact ⟨k + 1, by omega, by go_num, by rw [HN2.out], hb.trans (hb2.mono hb.size)⟩
              case measure => simp [intOf]; omega
            · have hbit : (bits .and .i64 ((kn : Int) / 2 ^ k) 1 == 1) = false := by rw [bit_at kn k (by omega), mod2_zero hcb]; rfl
              have HN2 := Lib.hid (HN.out.trans (if_neg hcb))
              clear hcb HN
              go_wp2_with fail
              refine (pairSum_impl s x _ hs.1 hs.2 hm.1 hm.2).mono ?_; rintro e w2 ⟨rfl, hb2⟩
              go_wp2
              go_roundw
              case rel => exact ⟨k + 1, by omega, by go_num, by rw [HN2.out], hb.trans (hb2.mono hb.size)⟩
              case measure => simp [intOf]; omega
          · obtain rfl : k = 5 := by omega
            clear hc
            go_wp2
            go_ret
            exact ⟨ret_int HF.out.symm, hb⟩
theorem proofRight_impl (root key val : Int) (a : Option Addr) (n cap : Nat) (l : List Int) (w : World) (h : RowI w a n l) :
    Calls Try.prog 23 #[.int .i64 root, .int .i64 key, .int .i64 val, .slice a n cap] w (BoolB (proofRightM root key val l) w) := by
  by_cases h0 : 0 ≤ root
  · have HF : Hid (proofRightM root key val l = (proofRootM key val l == root)) := Lib.hid (by
      simp only [proofRightM, h0, decide_true, Bool.true_and]; rw [Bool.eq_iff_iff]; simp)
    have h1 : decide (0 ≤ root) = true := by simpa using h0
    have HR := Lib.hid h; clear h
    go_enter Try.func23, Try.ntmps23
    go_wp2_with (first | (go_at_call 30; refine (proofRoot_impl key val a n cap l _ HR.out).mono ?_; rintro e w1 ⟨rfl, hb1⟩))
    go_ret
    exact ⟨by rw [HF.out]; rfl, hb1⟩
  · have HF : Hid (proofRightM root key val l = false) := Lib.hid (by simp [proofRightM, h0])
    have h1 : decide (0 ≤ root) = false := by simpa using h0
    clear h
    go_enter Try.func23, Try.ntmps23
    go_wp2
    go_ret
    exact ⟨by rw [HF.out]; rfl, Below.refl _ _⟩
end Go.Proofs.Ytpaeioabmmkheaa
