/- The contracts of slices.Grow and slices.Concat at versions, and of the program's keyVersions.list. -/
import Derived.Test.YtncedcliklpapaaGreatKeyMem
import Derived.Test.YtncedcliklpapaaGreatVerBase
import Derived.Lib.AppendZeros
namespace Go.Proofs.YtncedcliklpapaaGreat
open Go.RowKit
set_option linter.unusedVariables false
theorem infoVerG : (Tryz.prog.info? 68).map (fun i => (i.zero, i.size, i.bytes)) = some (some (.agg #[.int .i64 0, .int .i64 0, .int .i64 0]), 3, 24) := by kernel_rfl
/-- A row with room, without elements. -/
def RoomV (w : World) (e : Ending) (w' : World) : Prop := ∃ v, e = .returned v ∧ w'.ownsRow w.heap.size 68 3 v 0 [] ∧ Below w.heap.size w w'
set_option maxRecDepth 100000 in
set_option maxHeartbeats 1000000 in
theorem growV_any (n : Nat) (w : World) (hn : n ≤ 4000000) :
    Calls Tryz.prog 75 #[.slice none 0 0, .int .i64 n] w (RoomV w) := by
  by_cases h0 : n = 0
  · subst h0
    go_enter Tryz.func75, Tryz.ntmps75
    go_wp2
    go_ret
    exact ⟨_, rfl, World.ownsRow_nil _ _ _ _, Below.refl _ _⟩
  · obtain ⟨i0, hi, hz0, hz1, hz2⟩ := info_parts infoVerG
    have hb : decide ((0 : Int) < (n : Int)) = true := by simp; omega
    have hrun := Lib.run_append_nil_zeros (P := Tryz.prog) w 35 3 35 68 i0 (.agg #[.int .i64 0, .int .i64 0, .int .i64 0]) .i64 .i64 Tryz.underlying35 Tryz.underlying3 hi hz0 n (by omega) (by omega) (by omega) (by rw [hz2]; omega)
    have hge := grownCap_ge w n 0 68
    have hle := grownCap_le_maxLen w n 0 68 (by unfold maxLen; omega)
    have HR := Lib.hid hrun
    clear hrun hi hz0 hz1 hz2
    obtain ⟨c, hc⟩ : ∃ c, c = grownCap w n 0 68 := ⟨_, rfl⟩
    rw [← hc] at HR hge hle
    clear hc
    go_enter Tryz.func75, Tryz.ntmps75
    go_wp2_with (first | (at_builtin; refine Lib.wpList_append_run _ rfl _ _ _ _ rfl _ _ (by rfl) (by rfl) _ _ HR.out ?_))
    go_ret
    refine ⟨_, rfl, ⟨rfl, .inr ⟨w.heap.size, c, _, rfl, Nat.le_refl _, heap_alloc_new w _, Nat.zero_le _, hle, ?_, by simp⟩⟩, ((Below.refl _ _).alloc (Nat.le_refl _) _).drew⟩
    rw [Array.size_append, size_zeroCells, size_zeroCells]
    show n * 3 + (c - n) * 3 = c * 3
    omega
set_option maxRecDepth 100000 in
set_option maxHeartbeats 4000000 in
theorem concatV_any (g B : Nat) (T e0 : TypeId) (F : Nat → List Ver) (w : World) (h : KV w B g T e0 F) (hK : KOk F) :
    Calls Tryz.prog 63 #[.slice (some ⟨g, 0, none⟩) 32 32] w (NewVN w 68 (catK F 32)) := by
  obtain ⟨vs, hV, hR, -⟩ := h
  have HC : Hid (∀ k, k < 32 → ∃ a c, w.cell? ⟨g, k, none⟩ = some (.slice a (F k).length c) ∧ RowV w a (F k).length (F k) ∧ (a = none → c = 0)) := Lib.hid fun k hk => by
    obtain ⟨a, cap, hvk, hrow, hz, -⟩ := hR.row hK hk
    have hcell := hV.cell k (by rw [hR.len]; exact hk)
    rw [hvk] at hcell
    exact ⟨a, cap, hcell, hrow, hz⟩
  have hgl := hV.lt
  have HN : Hid (∀ k, k < 32 → (catK F (k + 1)).length = (catK F k).length + (F k).length) := Lib.hid fun k hk => by rw [catK, List.length_append]
  have HLE : Hid (∀ k, k ≤ 32 → (catK F k).length ≤ 320) := Lib.hid fun k hk => catK_len' hK hk
  have HW := Lib.hid (wf_ofVOk (catK_ok hK 32 (Nat.le_refl _)))
  clear hV hR hK
  go_enter Tryz.func63, Tryz.ntmps63
  go_wp2
  go_loop [3, 5, 11] (fun s _ i => ∃ k : Nat, k ≤ 32 ∧ s = .int .i64 (catK F k).length ∧ i = .int .i64 k) (fun _ _ i => 32 - (intOf i).toNat)
  case atStart => exact ⟨0, by omega, rfl, rfl⟩
  case round =>
    obtain ⟨k, hk, rfl, rfl⟩ := hrel
    by_cases hlt : k < 32
    · obtain ⟨a, c, hcell, hrow, hz⟩ := HC.out k hlt
      have h1 := HN.out k hlt
      have h2 := HLE.out (k + 1) hlt
      obtain ⟨n, hn⟩ : ∃ n, n = (catK F k).length := ⟨_, rfl⟩
      obtain ⟨m, hm⟩ : ∃ m, m = (F k).length := ⟨_, rfl⟩
      rw [← hn, ← hm] at h1
      rw [← hm] at hcell
      rw [← hn]
      clear hn hm hrow hz
      rw [h1] at h2
      have e1 : ¬ ((n : Int) + (m : Int) < 0) := by omega
      go_wp2
      go_round
      case rel => exact ⟨k + 1, by omega, by rw [h1]; go_num, by go_num⟩
      case measure => simp [intOf]; omega
    · obtain rfl : k = 32 := by omega
      have hle := HLE.out 32 (Nat.le_refl _)
      obtain ⟨N, hN⟩ : ∃ N, N = (catK F 32).length := ⟨_, rfl⟩
      rw [← hN] at hle ⊢
      have HNN := Lib.hid hN
      clear hN
      go_wp2_with fail
      refine (growV_any N _ (by omega)).mono ?_; rintro e w1 ⟨v1, rfl, ho1, hb1⟩
      go_wp2
      go_loopw [6, 8, 27] (fun v _ i wr => ∃ k : Nat, k ≤ 32 ∧ i = .int .i64 k ∧ wr.ownsRow w.heap.size 68 3 v (catK F k).length (flatV (catK F k)) ∧ Below w.heap.size w wr) (fun _ _ i _ => 32 - (intOf i).toNat)
      case atStart => exact ⟨0, by omega, rfl, ho1, hb1⟩
      case round =>
        clear ho1 hb1
        obtain ⟨k, hk, rfl, ho, hb⟩ := hrel
        by_cases hlt : k < 32
        · obtain ⟨a, c, hcell, hrow, hz⟩ := HC.out k hlt
          have hcell1 := (hb.cell (p := ⟨g, k, none⟩) hgl).trans hcell
          have hrow1 := hrow.below hb
          have hnil : a = none → (F k).length = 0 ∧ c = 0 := fun e => ⟨by
            rcases Nat.eq_zero_or_pos (F k).length with h | h
            · exact h
            · obtain ⟨b, o, he, -⟩ := hrow.2.2.1 h; (rw [e] at he; cases he), hz e⟩
          have h1 := HN.out k hlt
          have h2 := HLE.out (k + 1) hlt
          have hE : Hid (flatV (catK F (k + 1)) = flatV (catK F k) ++ flatV (F k)) := Lib.hid (by rw [catK, flatV_append])
          have hfl : Hid ((flatV (F k)).length = (F k).length * 3) := Lib.hid (flatV_len _)
          have hnew := Lib.hid hrow1.news
          have hone := Lib.hid (flatV_one (F k))
          have hsum : (catK F k).length + (F k).length ≤ 4000000 := by omega
          have hnil' := Lib.hid hnil
          obtain ⟨X, hX⟩ : ∃ X, X = flatV (catK F k) := ⟨_, rfl⟩
          obtain ⟨Y, hY⟩ : ∃ Y, Y = flatV (F k) := ⟨_, rfl⟩
          obtain ⟨n, hn⟩ : ∃ n, n = (catK F k).length := ⟨_, rfl⟩
          obtain ⟨m, hm⟩ : ∃ m, m = (F k).length := ⟨_, rfl⟩
          rw [← hX, ← hY] at hE
          rw [← hX, ← hn] at ho
          rw [← hY] at hfl hnew hone
          rw [← hm] at hcell1 hfl hnil' hsum h1
          rw [← hn] at h1 hsum
          have HL1 := Lib.hid h1
          clear hX hY hn hm hcell hrow hrow1 hz hnil h1 h2
          go_wp2_with (first | (at_builtin; refine wpList_append_rows' rfl _ _ 35 rfl w.heap.size 68 (.agg #[.int .i64 0, .int .i64 0, .int .i64 0]) 3 24 Tryz.underlying35 infoVerG rfl (by decide) _ n X Y (by rfl) ho a m c (by rfl) hnil'.out hfl.out hnew.out hone.out hsum (by decide) hb.size ?_; intro v2 w2 ho2 hg2))
          have hb2 := hb.grown hg2 hb.size (fun k hk => (ho.lt k hk).1)
          clear hg2 ho hb
          go_wp2
          go_roundw
          case rel => exact ⟨k + 1, by omega, by go_num, by rw [HL1.out, hE.out]; exact ho2, hb2⟩
          case measure => simp [intOf]; omega
        · obtain rfl : k = 32 := by omega
          go_wp2
          go_ret
          exact ⟨_, rfl, ho, HW.out, hb⟩
theorem list_impl (g B : Nat) (T e0 : TypeId) (F : Nat → List Ver) (w : World) (h : KV w B g T e0 F) (hK : KOk F) :
    Calls Tryz.prog 34 #[.pointer (some ⟨g, 0, none⟩)] w (NewVN w 68 (catK F 32)) := by
  go_enter Tryz.func34, Tryz.ntmps34
  go_wp2_with (first | (go_at_call 63; refine (concatV_any g B T e0 F _ h hK).mono ?_; rintro e w' ⟨v, rfl, ho, hw, hb⟩))
  go_ret
  exact ⟨v, rfl, ho, hw, hb⟩
end Go.Proofs.YtncedcliklpapaaGreat
