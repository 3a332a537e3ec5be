/- The contract of the laws' own eqIntS. -/
import Derived.Test.YtpaeioabmmkheaaBase
import Derived.Deep.QuietTactic
import Derived.BigQuiet
namespace Go.Proofs.Ytpaeioabmmkheaa
open Go.RowKit
set_option maxHeartbeats 400000 in
theorem eqIntS_same (a a' : Option Addr) (len cap cap' : Nat) (l : List Int) (w : World) (h : RowI w a len l) (h' : RowI w a' len l) :
    Calls Try.prog 38 #[.slice a len cap, .slice a' len cap'] w fun e w' => e = .returned (.bool true) ∧ Below w.heap.size w w' := by
  obtain ⟨hl, hm, hc, -⟩ := h
  obtain ⟨-, -, hc', -⟩ := h'
  unfold maxLen at hm
  clear hl
  by_cases h0 : 0 < len
  · obtain ⟨b, off, rfl, hcc⟩ := hc h0; clear hc; have hc := hcc; clear hcc
    obtain ⟨b', off', rfl, hcc⟩ := hc' h0; clear hc'; have hc' := hcc; clear hcc
    have hbB : b < w.heap.size := World.block_lt_of_cell? w ⟨b, off + 0, none⟩ (hc 0 h0)
    have hbB' : b' < w.heap.size := World.block_lt_of_cell? w ⟨b', off' + 0, none⟩ (hc' 0 h0)
    go_enter Try.func38, Try.ntmps38
    go_wp2
    go_loopw [5] (fun i wr => ∃ k : Nat, k ≤ len ∧ i = .int .i64 k ∧ Below w.heap.size w wr) (fun i _ => len - (intOf i).toNat)
    case atStart => exact ⟨0, Nat.zero_le _, rfl, Below.refl _ _⟩
    case round =>
      obtain ⟨k, hk, rfl, hb⟩ := hrel
      by_cases hlt : k < len
      · have hck : wr.cell? ⟨b, off + k, none⟩ = some (.int .i64 (l.getD k 0)) := (hb.cell (p := ⟨b, off + k, none⟩) hbB).trans (hc k hlt)
        have hck' : wr.cell? ⟨b', off' + k, none⟩ = some (.int .i64 (l.getD k 0)) := (hb.cell (p := ⟨b', off' + k, none⟩) hbB').trans (hc' k hlt)
        clear hc hc'
        obtain ⟨n, hn'⟩ : ∃ n, n = l.getD k 0 := ⟨_, rfl⟩
        rw [← hn'] at hck hck'
        clear hn'
        go_wp2
        go_quiet (fail)
        go_wp2
        go_roundw
        case rel => exact ⟨k + 1, by omega, by go_num, below_drewN' hb _⟩
        case measure => simp [intOf]; omega
      · clear hc hc'
        go_wp2
        go_ret
        exact ⟨rfl, hb⟩
  · obtain rfl : len = 0 := by omega
    clear hc hc'
    go_enter Try.func38, Try.ntmps38
    go_wp2
    go_loop [5] (fun i => i = .int .i64 0) (fun _ => 0)
    case atStart => rfl
    case round =>
      subst hrel
      go_wp2
      go_ret
      exact ⟨rfl, Below.refl _ _⟩
end Go.Proofs.Ytpaeioabmmkheaa
