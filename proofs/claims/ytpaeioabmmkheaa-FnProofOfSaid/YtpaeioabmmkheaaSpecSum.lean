/- The contract of the model's SumOf. -/
import Derived.Test.YtpaeioabmmkheaaSumLemmas
import Derived.WalkSpells
namespace Go.Proofs.Ytpaeioabmmkheaa
open Go.RowKit
set_option maxHeartbeats 400000 in
theorem l1Sum_any (t : Int) (a : Option Addr) (len cap : Nat) (l : List Int) (w : World) (h : RowI w a len l) (ht1 : 0 ≤ t) (ht2 : t ≤ 9) (hall : l.all okSummed = true) :
    Calls Try.prog 47 #[.int .i64 t, .slice a len cap] w fun e w' => e = .returned (.int .i64 (sumFold (17 + t) l)) ∧ w = w' := by
  obtain ⟨hl, hm, hc, -⟩ := h
  unfold maxLen at hm
  have HL := Lib.hid hl; clear hl
  have HA := Lib.hid hall; clear hall
  by_cases h0 : 0 < len
  · obtain ⟨b, off, rfl, hcc⟩ := hc h0; clear hc; have hc := hcc; clear hcc
    go_enter Try.func47, Try.ntmps47
    go_wp2
    go_loop [5, 6] (fun s i => ∃ k : Nat, k ≤ len ∧ i = .int .i64 k ∧ s = .int .i64 (sumFold (17 + t) (l.take k))) (fun _ i => len - (intOf i).toNat)
    case atStart => exact ⟨0, Nat.zero_le _, rfl, by simp [sumFold]⟩
    case round =>
      obtain ⟨k, hk, rfl, rfl⟩ := hrel
      have hs := sumFold_bd (17 + t) (l.take k) (by omega) (by omega)
      by_cases hlt : k < len
      · have hck := hc k hlt
        have hn := all_bd l HA.out k (by rw [HL.out]; exact hlt)
        have HS := Lib.hid (sumFold_snoc (17 + t) (l.take k) (l.getD k 0)); rw [← take_snoc l k (by rw [HL.out]; exact hlt)] at HS
        clear hc
        obtain ⟨n, hn'⟩ : ∃ n, n = l.getD k 0 := ⟨_, rfl⟩
        rw [← hn'] at hck hn HS
        clear hn'
        go_wp2
        go_round
        case rel => exact ⟨k + 1, by omega, by go_num, by rw [HS.out]; rfl⟩
        case measure => simp [intOf]; omega
      · have hkl : l.take k = l := List.take_of_length_le (by rw [HL.out]; omega)
        have HK := Lib.hid hkl
        clear hc hkl
        go_wp2
        go_ret
        exact ⟨ret_int (by rw [HK.out]), rfl⟩
  · obtain rfl : len = 0 := by omega
    obtain rfl : l = [] := List.eq_nil_of_length_eq_zero HL.out
    clear hc
    go_enter Try.func47, Try.ntmps47
    go_wp2
    go_loop [5, 6] (fun s i => s = .int .i64 (17 + t) ∧ i = .int .i64 0) (fun _ _ => 0)
    case atStart => exact ⟨rfl, rfl⟩
    case round =>
      obtain ⟨rfl, rfl⟩ := hrel
      go_wp2
      go_ret
      exact ⟨rfl, rfl⟩
end Go.Proofs.Ytpaeioabmmkheaa
