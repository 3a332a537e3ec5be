/- Texts of ours that stand together: SpecConf, SpecConf2, SpecLev, SpecOrd -/
import Derived.Test.YtfhbolpchmdaoaaConfM
import Derived.Test.YtfhbolpchmdaoaaSpecAct
import Derived.Test.YtfhbolpchmdaoaaRegJ
import Derived.Deep.QuietTactic
import Derived.BigQuiet
import Derived.Deep.RegionWith
/- The contracts of the model's conflicts: l8Common. -/
namespace Go.Proofs.Ytfhbolpchmdaoaa
open Go.RowKit
set_option linter.unusedVariables false
set_option maxHeartbeats 2000000 in
theorem l8Common_spec (a : Option Addr) (n cap : Nat) (l : List Int) (b : Option Addr) (m cap' : Nat) (l' : List Int) (w : World) (h : RowI w a n l) (h' : RowI w b m l') :
    Calls Try.prog 59 #[.slice a n cap, .slice b m cap'] w (BoolS (commonM l l') w) := by
  obtain ⟨hl, hm, hc, -⟩ := h
  obtain ⟨hl', hm', hc', -⟩ := h'
  unfold maxLen at hm hm'
  have HL := Lib.hid hl
  have HL' := Lib.hid hl'
  clear hl hl'
  by_cases h0 : 0 < n
  · obtain ⟨B, off, rfl, hcc⟩ := hc h0; clear hc; have hc := hcc; clear hcc
    have hbB : B < w.heap.size := World.block_lt_of_cell? w ⟨B, off + 0, none⟩ (hc 0 h0)
    by_cases h1 : 0 < m
    · obtain ⟨B', off', rfl, hcc⟩ := hc' h1; clear hc'; have hc' := hcc; clear hcc
      have hbB' : B' < w.heap.size := World.block_lt_of_cell? w ⟨B', off' + 0, none⟩ (hc' 0 h1)
      go_enter Try.func59, Try.ntmps59
      go_wp2
      go_loopw [5] (fun i wr => ∃ k : Nat, k ≤ n ∧ i = .int .i64 k ∧ NoCom l l' k ∧ Below w.heap.size w wr) (fun i _ => n - (intOf i).toNat)
      case atStart => exact ⟨0, Nat.zero_le _, rfl, fun j hj => absurd hj (Nat.not_lt_zero j), Below.refl _ _⟩
      case round =>
        obtain ⟨k, hk, rfl, hno, hb⟩ := hrel
        by_cases hlt : k < n
        · have hck0 := hc k hlt
          have HNX := Lib.hid (fun h => NoCom.next (b := l') hno h)
          have HY := Lib.hid (fun (x : Int) (h : x ∈ l') (e : x = l.getD k 0) => commonM_yes (a := l) (b := l') (x := x) (by rw [e]; exact getD_memI l k (by rw [HL.out]; exact hlt)) h)
          obtain ⟨x, hx⟩ : ∃ x, x = l.getD k 0 := ⟨_, rfl⟩
          rw [← hx] at hck0 HNX HY
          clear hx hno
          go_wp2
          obtain ⟨wo, hwo⟩ : ∃ wo, wo = wr := ⟨wr, rfl⟩
          subst hwo
          go_loopw [6] (fun i wr => ∃ j : Nat, j ≤ m ∧ i = .int .i64 j ∧ NoneIn x l' j ∧ Below w.heap.size w wr) (fun i _ => m - (intOf i).toNat)
          case atStart => exact ⟨0, Nat.zero_le _, rfl, fun j hj => absurd hj (Nat.not_lt_zero j), hb⟩
          case round =>
            clear hb
            obtain ⟨j, hj, rfl, hnn, hb⟩ := hrel
            by_cases hjt : j < m
            · have hck : wr.cell? ⟨B, off + k, none⟩ = some (.int .i64 x) := (hb.cell (p := ⟨B, off + k, none⟩) hbB).trans hck0
              have hck' : wr.cell? ⟨B', off' + j, none⟩ = some (.int .i64 (l'.getD j 0)) := (hb.cell (p := ⟨B', off' + j, none⟩) hbB').trans (hc' j hjt)
              have HN2 := Lib.hid (fun h => NoneIn.next (x := x) hnn h)
              have HM := Lib.hid (getD_memI l' j (by rw [HL'.out]; exact hjt))
              obtain ⟨y, hy⟩ : ∃ y, y = l'.getD j 0 := ⟨_, rfl⟩
              rw [← hy] at hck' HN2 HM
              clear hy hnn hc hc' hck0
              by_cases e : x = y
              · subst e
                have HC := Lib.hid (HY.out x HM.out rfl)
                go_wp2
                go_quiet (fail)
                go_wp2
                go_ret
                exact ⟨by rw [HC.out]; rfl, below_drewN' hb _⟩
              · have e2 : (x == y) = false := by simpa using e
                have HN3 := Lib.hid (HN2.out e)
                clear e
                go_wp2
                go_quiet (fail)
                go_wp2
                go_roundw
                case rel => exact ⟨j + 1, by omega, by go_num, HN3.out, below_drewN' hb _⟩
                case measure => simp [intOf]; omega
            · obtain rfl : j = m := by omega
              have HF := Lib.hid (HNX.out (NoneIn.all (by rw [HL'.out]; exact hnn)))
              clear hc hc' hck0 hnn
              go_wp2
              go_roundw
              case rel => exact ⟨k + 1, by omega, by go_num, HF.out, hb⟩
              case measure => simp [intOf]; omega
        · obtain rfl : k = n := by omega
          have HF := Lib.hid (NoCom.all (by rw [HL.out]; exact hno))
          clear hc hc' hno
          go_wp2
          go_ret
          exact ⟨by rw [HF.out]; rfl, hb⟩
    · obtain rfl : m = 0 := by omega
      obtain rfl : l' = [] := List.eq_nil_of_length_eq_zero HL'.out
      have HF : Hid (commonM l [] = false) := Lib.hid (commonM_no fun x _ hx => by cases hx)
      clear hc hc'
      go_enter Try.func59, Try.ntmps59
      go_wp2
      go_loopw [5] (fun i wr => ∃ k : Nat, k ≤ n ∧ i = .int .i64 k ∧ wr = w) (fun i _ => n - (intOf i).toNat)
      case atStart => exact ⟨0, Nat.zero_le _, rfl, rfl⟩
      case round =>
        obtain ⟨k, hk, rfl, rfl⟩ := hrel
        by_cases hlt : k < n
        · go_wp2
          go_loopw [6] (fun i w2 => i = .int .i64 0 ∧ w2 = wr) (fun _ _ => 0)
          case atStart => exact ⟨rfl, rfl⟩
          case round =>
            obtain ⟨rfl, rfl⟩ := hrel
            go_wp2
            go_roundw
            case rel => exact ⟨k + 1, by omega, by go_num, by trivial⟩
            case measure => simp [intOf]; omega
        · obtain rfl : k = n := by omega
          go_wp2
          go_ret
          exact ⟨by rw [HF.out]; rfl, Below.refl _ _⟩
  · obtain rfl : n = 0 := by omega
    obtain rfl : l = [] := List.eq_nil_of_length_eq_zero HL.out
    clear hc hc'
    go_enter Try.func59, Try.ntmps59
    go_wp2
    go_loop [5] (fun i => i = .int .i64 0) (fun _ => 0)
    case atStart => rfl
    case round =>
      subst hrel
      go_wp2
      go_ret
      exact ⟨rfl, Below.refl _ _⟩
/-- A box that holds an action. -/
def BoxA (w : World) (G : Nat) (p q r t : Int) : Prop :=
  w.cell? ⟨G, 0, none⟩ = some (.int .i64 p) ∧ w.cell? ⟨G, 1, none⟩ = some (.int .i64 q) ∧ w.cell? ⟨G, 2, none⟩ = some (.int .i64 r) ∧ w.cell? ⟨G, 3, none⟩ = some (.int .i64 t)
theorem BoxA.lt {w : World} {G : Nat} {p q r t : Int} (h : BoxA w G p q r t) : G < w.heap.size := World.block_lt_of_cell? w ⟨G, 0, none⟩ h.1
theorem BoxA.below {w w' : World} {G : Nat} {p q r t : Int} (h : BoxA w G p q r t) (hb : Below w.heap.size w w') : BoxA w' G p q r t := by
  have hG := h.lt
  obtain ⟨h0, h1, h2, h3⟩ := h
  exact ⟨(hb.cell (p := ⟨G, 0, none⟩) hG).trans h0, (hb.cell (p := ⟨G, 1, none⟩) hG).trans h1, (hb.cell (p := ⟨G, 2, none⟩) hG).trans h2, (hb.cell (p := ⟨G, 3, none⟩) hG).trans h3⟩
theorem boxA_new (w : World) (p q r t : Int) (T : TypeId) : BoxA (w.alloc (.cells #[.int .i64 p, .int .i64 q, .int .i64 r, .int .i64 t] T)) w.heap.size p q r t := by
  refine ⟨?_, ?_, ?_, ?_⟩ <;> simp [go_sem]
theorem BoxA.alloc {w : World} {G : Nat} {p q r t : Int} (h : BoxA w G p q r t) (o : Obj) : BoxA (w.alloc o) G p q r t := h.below ((Below.refl _ _).alloc (Nat.le_refl _) o)
end Go.Proofs.Ytfhbolpchmdaoaa
/- The contract of the model's Conflict (gen8/conf.py). -/
namespace Go.Proofs.Ytfhbolpchmdaoaa
open Go.RowKit
set_option linter.unusedVariables false
set_option linter.unusedSimpArgs false
theorem ints_of_new {w : World} {B : Nat} {e : TypeId} {v : Value} {l : List Int} (hl : l.length ≤ 4000000) (h : Own w B e 1 v l.length (l.map (Value.int .i64))) (hw : ∀ x ∈ l, (Lit.int .i64 x).wf = true) : (Sta.ints l).own w v := by
  obtain ⟨a, c, e1, r⟩ := rowI_of_owns h.1 (by unfold maxLen; omega) hw
  exact ⟨a, c, e1, r⟩
set_option maxRecDepth 100000 in
set_option maxHeartbeats 8000000 in
theorem conflict_spec0 (p q r t p2 q2 r2 t2 : Int) (w : World) (H1 : Hid (commonM (writesM ⟨p, q, r, t⟩) (writesM ⟨p2, q2, r2, t2⟩) = true)) :
    Calls Try.prog 16 #[.agg #[.int .i64 p, .int .i64 q, .int .i64 r, .int .i64 t], .agg #[.int .i64 p2, .int .i64 q2, .int .i64 r2, .int .i64 t2]] w (BoolS true w) := by
  have HA0 := Lib.hid ((boxA_new w p q r t 24).alloc (.cells #[.int .i64 p2, .int .i64 q2, .int .i64 r2, .int .i64 t2] 24))
  have HB0 := Lib.hid (boxA_new (w.alloc (.cells #[.int .i64 p, .int .i64 q, .int .i64 r, .int .i64 t] 24)) p2 q2 r2 t2 24)
  have HBB := Lib.hid (((Below.refl w.heap.size w).alloc (Nat.le_refl _) (.cells #[.int .i64 p, .int .i64 q, .int .i64 r, .int .i64 t] 24)).alloc (by simp) (.cells #[.int .i64 p2, .int .i64 q2, .int .i64 r2, .int .i64 t2] 24))
  go_enter Try.func16, Try.ntmps16
  go_wp2
  generalize hw5 : World.alloc _ _ = w5 at HA0 HB0 HBB
  have HA : Hid (BoxA w5 w.heap.size p q r t) := HA0
  have HB : Hid (BoxA w5 (w.heap.size + 1) p2 q2 r2 t2) := by simpa using HB0
  clear HA0 HB0 hw5
  refine wp_region_light (by kernel_rfl) (fun lz fz wz => Vals [(0, 5, (.agg #[.int .i64 p, .int .i64 q, .int .i64 r, .int .i64 t])), (2, 7, (.agg #[.int .i64 p2, .int .i64 q2, .int .i64 r2, .int .i64 t2])), (4, 9, (.bool true)), (5, 10, (.bool true)), (11, 16, (.bool true)), (12, 17, (.bool true)), (18, 23, (.bool true)), (19, 4, (.bool true))] lz fz ∧ Facts w5 [(1, 6, Sta.ints (writesM ⟨p, q, r, t⟩)), (3, 8, Sta.ints (writesM ⟨p2, q2, r2, t2⟩))] lz fz wz) 24 rfl [5, 6, 7, 8, 9, 10, 11, 12, 13, 14, 15, 16, 17, 18, 19, 20, 21, 22, 23, 4] (by kernel_rfl) (by kernel_rfl) (by kernel_rfl) (fun f => ⟨Vals.nothing _ f, Facts.nothing _ _ f⟩) ?_ ?_
  · intro i hi
    rcases (by have : i < 20 := hi; omega : i = 0 ∨ i = 1 ∨ i = 2 ∨ i = 3 ∨ i = 4 ∨ i = 5 ∨ i = 6 ∨ i = 7 ∨ i = 8 ∨ i = 9 ∨ i = 10 ∨ i = 11 ∨ i = 12 ∨ i = 13 ∨ i = 14 ∨ i = 15 ∨ i = 16 ∨ i = 17 ∨ i = 18 ∨ i = 19) with rfl | rfl | rfl | rfl | rfl | rfl | rfl | rfl | rfl | rfl | rfl | rfl | rfl | rfl | rfl | rfl | rfl | rfl | rfl | rfl
    · clear hi; intro o ho lz fz w' A hJ hli ha hA K hK
      obtain ⟨hv, hq⟩ := hJ
      obtain rfl := Option.some.inj ho
      clear ho
      have hr := hq
      have g2 := slot_out hA 2 _ (by decide) (by decide) rfl
      simp only [List.getD_cons_succ, List.getD_cons_zero] at g2
      have gg2 := slot_get g2
      rw [if_pos (by rfl)]
      obtain ⟨k0, k1, k2, k3⟩ := HA.out.below hr.1
      have hF := hK (.agg #[.int .i64 p, .int .i64 q, .int .i64 r, .int .i64 t]) w' ⟨hv.step 0 5 _ (by simp), hq.step 0 5 _ (Below.refl _ _) (by simp)⟩
      clear hv hq hr ha hK hA hli
      go_simp
      exact hF
    · clear hi; intro o ho lz fz w' A hJ hli ha hA K hK
      obtain ⟨hv, hq⟩ := hJ
      obtain rfl := Option.some.inj ho
      clear ho
      have hr := hq
      have g5 := slot_in hA 5 (by decide) (by decide) (hv (0, 5, (.agg #[.int .i64 p, .int .i64 q, .int .i64 r, .int .i64 t])) (by simp) (ha 0 (by simp [aftersOf, Region.binds])))
      have gg5 := slot_get g5
      rw [if_pos (by rfl)]
      clear hA
      go_simp
      refine (actionWrites_spec p q r t _).mono ?_
      rintro e w9 ⟨v9, rfl, ho9, hw9, hb9⟩
      have hs := ints_of_new (by have := writesM_len ⟨p, q, r, t⟩; omega) ho9 hw9
      exact hK v9 w9 ⟨hv.step 1 6 _ (by simp), hq.step 1 6 _ hb9 (by simp [hs])⟩
    · clear hi; intro o ho lz fz w' A hJ hli ha hA K hK
      obtain ⟨hv, hq⟩ := hJ
      obtain rfl := Option.some.inj ho
      clear ho
      have hr := hq
      have g3 := slot_out hA 3 _ (by decide) (by decide) rfl
      simp only [List.getD_cons_succ, List.getD_cons_zero] at g3
      have gg3 := slot_get g3
      rw [if_pos (by rfl)]
      obtain ⟨k0, k1, k2, k3⟩ := HB.out.below hr.1
      have hF := hK (.agg #[.int .i64 p2, .int .i64 q2, .int .i64 r2, .int .i64 t2]) w' ⟨hv.step 2 7 _ (by simp), hq.step 2 7 _ (Below.refl _ _) (by simp)⟩
      clear hv hq hr ha hK hA hli
      go_simp
      exact hF
    · clear hi; intro o ho lz fz w' A hJ hli ha hA K hK
      obtain ⟨hv, hq⟩ := hJ
      obtain rfl := Option.some.inj ho
      clear ho
      have hr := hq
      have g7 := slot_in hA 7 (by decide) (by decide) (hv (2, 7, (.agg #[.int .i64 p2, .int .i64 q2, .int .i64 r2, .int .i64 t2])) (by simp) (ha 2 (by simp [aftersOf, Region.binds])))
      have gg7 := slot_get g7
      rw [if_pos (by rfl)]
      clear hA
      go_simp
      refine (actionWrites_spec p2 q2 r2 t2 _).mono ?_
      rintro e w9 ⟨v9, rfl, ho9, hw9, hb9⟩
      have hs := ints_of_new (by have := writesM_len ⟨p2, q2, r2, t2⟩; omega) ho9 hw9
      exact hK v9 w9 ⟨hv.step 3 8 _ (by simp), hq.step 3 8 _ hb9 (by simp [hs])⟩
    · clear hi; intro o ho lz fz w' A hJ hli ha hA K hK
      obtain ⟨hv, hq⟩ := hJ
      obtain rfl := Option.some.inj ho
      clear ho
      have hr := hq
      obtain ⟨a6, c6, h6, r6⟩ := hr.2 (1, 6, Sta.ints (writesM ⟨p, q, r, t⟩)) (by simp) (ha 1 (by simp [aftersOf, Region.binds]))
      have g6 := slot_in hA 6 (by decide) (by decide) h6
      obtain ⟨a8, c8, h8, r8⟩ := hr.2 (3, 8, Sta.ints (writesM ⟨p2, q2, r2, t2⟩)) (by simp) (ha 3 (by simp [aftersOf, Region.binds]))
      have g8 := slot_in hA 8 (by decide) (by decide) h8
      have gg6 := slot_get g6
      have gg8 := slot_get g8
      rw [if_pos (by rfl)]
      clear hA
      go_simp
      refine (l8Common_spec _ _ _ _ _ _ _ _ w' r6 r8).mono ?_
      rintro e w9 ⟨rfl, hb9⟩
      rw [H1.out]
      exact hK (.bool true) w9 ⟨hv.step 4 9 _ (by simp), hq.step 4 9 _ hb9 (by simp)⟩
    · clear hi; intro o ho lz fz w' A hJ hli ha hA K hK
      obtain ⟨hv, hq⟩ := hJ
      obtain rfl := Option.some.inj ho
      clear ho
      have hr := hq
      have g9 := slot_in hA 9 (by decide) (by decide) (hv (4, 9, (.bool true)) (by simp) (ha 4 (by simp [aftersOf, Region.binds])))
      have gg9 := slot_get g9
      rw [if_pos (by rfl)]
      have hF := hK (.bool true) w' ⟨hv.step 5 10 _ (by simp), hq.step 5 10 _ (Below.refl _ _) (by simp)⟩
      clear hv hq hr ha hK hA hli
      go_simp
      exact hF
    · clear hi; intro o ho lz fz w' A hJ hli ha hA K hK
      obtain ⟨hv, hq⟩ := hJ
      obtain rfl := Option.some.inj ho
      clear ho
      have hr := hq
      have g10 := slot_in hA 10 (by decide) (by decide) (hv (5, 10, (.bool true)) (by simp) (ha 5 (by simp [aftersOf, Region.binds])))
      have gg10 := slot_get g10
      have gw := slot_bool g10
      rw [if_neg (by simp [Region.wanted, yielded, gw])]
      clear gw
      exact hK undef w' ⟨hv.step 6 11 _ (by simp), hq.step 6 11 _ (Below.refl _ _) (by simp)⟩
    · clear hi; intro o ho lz fz w' A hJ hli ha hA K hK
      obtain ⟨hv, hq⟩ := hJ
      obtain rfl := Option.some.inj ho
      clear ho
      have hr := hq
      have g10 := slot_in hA 10 (by decide) (by decide) (hv (5, 10, (.bool true)) (by simp) (ha 5 (by simp [aftersOf, Region.binds])))
      have gg10 := slot_get g10
      have gw := slot_bool g10
      rw [if_neg (by simp [Region.wanted, yielded, gw])]
      clear gw
      exact hK undef w' ⟨hv.step 7 12 _ (by simp), hq.step 7 12 _ (Below.refl _ _) (by simp)⟩
    · clear hi; intro o ho lz fz w' A hJ hli ha hA K hK
      obtain ⟨hv, hq⟩ := hJ
      obtain rfl := Option.some.inj ho
      clear ho
      have hr := hq
      have g10 := slot_in hA 10 (by decide) (by decide) (hv (5, 10, (.bool true)) (by simp) (ha 5 (by simp [aftersOf, Region.binds])))
      have gg10 := slot_get g10
      have gw := slot_bool g10
      rw [if_neg (by simp [Region.wanted, yielded, gw])]
      clear gw
      exact hK undef w' ⟨hv.step 8 13 _ (by simp), hq.step 8 13 _ (Below.refl _ _) (by simp)⟩
    · clear hi; intro o ho lz fz w' A hJ hli ha hA K hK
      obtain ⟨hv, hq⟩ := hJ
      obtain rfl := Option.some.inj ho
      clear ho
      have hr := hq
      have g10 := slot_in hA 10 (by decide) (by decide) (hv (5, 10, (.bool true)) (by simp) (ha 5 (by simp [aftersOf, Region.binds])))
      have gg10 := slot_get g10
      have gw := slot_bool g10
      rw [if_neg (by simp [Region.wanted, yielded, gw])]
      clear gw
      exact hK undef w' ⟨hv.step 9 14 _ (by simp), hq.step 9 14 _ (Below.refl _ _) (by simp)⟩
    · clear hi; intro o ho lz fz w' A hJ hli ha hA K hK
      obtain ⟨hv, hq⟩ := hJ
      obtain rfl := Option.some.inj ho
      clear ho
      have hr := hq
      have g10 := slot_in hA 10 (by decide) (by decide) (hv (5, 10, (.bool true)) (by simp) (ha 5 (by simp [aftersOf, Region.binds])))
      have gg10 := slot_get g10
      have gw := slot_bool g10
      rw [if_neg (by simp [Region.wanted, yielded, gw])]
      clear gw
      exact hK undef w' ⟨hv.step 10 15 _ (by simp), hq.step 10 15 _ (Below.refl _ _) (by simp)⟩
    · clear hi; intro o ho lz fz w' A hJ hli ha hA K hK
      obtain ⟨hv, hq⟩ := hJ
      obtain rfl := Option.some.inj ho
      clear ho
      have hr := hq
      have g10 := slot_in hA 10 (by decide) (by decide) (hv (5, 10, (.bool true)) (by simp) (ha 5 (by simp [aftersOf, Region.binds])))
      have gg10 := slot_get g10
      rw [if_pos (by rfl)]
      have hF := hK (.bool true) w' ⟨hv.step 11 16 _ (by simp), hq.step 11 16 _ (Below.refl _ _) (by simp)⟩
      clear hv hq hr ha hK hA hli
      go_simp
      exact hF
    · clear hi; intro o ho lz fz w' A hJ hli ha hA K hK
      obtain ⟨hv, hq⟩ := hJ
      obtain rfl := Option.some.inj ho
      clear ho
      have hr := hq
      have g16 := slot_in hA 16 (by decide) (by decide) (hv (11, 16, (.bool true)) (by simp) (ha 11 (by simp [aftersOf, Region.binds])))
      have gg16 := slot_get g16
      rw [if_pos (by rfl)]
      have hF := hK (.bool true) w' ⟨hv.step 12 17 _ (by simp), hq.step 12 17 _ (Below.refl _ _) (by simp)⟩
      clear hv hq hr ha hK hA hli
      go_simp
      exact hF
    · clear hi; intro o ho lz fz w' A hJ hli ha hA K hK
      obtain ⟨hv, hq⟩ := hJ
      obtain rfl := Option.some.inj ho
      clear ho
      have hr := hq
      have g17 := slot_in hA 17 (by decide) (by decide) (hv (12, 17, (.bool true)) (by simp) (ha 12 (by simp [aftersOf, Region.binds])))
      have gg17 := slot_get g17
      have gw := slot_bool g17
      rw [if_neg (by simp [Region.wanted, yielded, gw])]
      clear gw
      exact hK undef w' ⟨hv.step 13 18 _ (by simp), hq.step 13 18 _ (Below.refl _ _) (by simp)⟩
    · clear hi; intro o ho lz fz w' A hJ hli ha hA K hK
      obtain ⟨hv, hq⟩ := hJ
      obtain rfl := Option.some.inj ho
      clear ho
      have hr := hq
      have g17 := slot_in hA 17 (by decide) (by decide) (hv (12, 17, (.bool true)) (by simp) (ha 12 (by simp [aftersOf, Region.binds])))
      have gg17 := slot_get g17
      have gw := slot_bool g17
      rw [if_neg (by simp [Region.wanted, yielded, gw])]
      clear gw
      exact hK undef w' ⟨hv.step 14 19 _ (by simp), hq.step 14 19 _ (Below.refl _ _) (by simp)⟩
    · clear hi; intro o ho lz fz w' A hJ hli ha hA K hK
      obtain ⟨hv, hq⟩ := hJ
      obtain rfl := Option.some.inj ho
      clear ho
      have hr := hq
      have g17 := slot_in hA 17 (by decide) (by decide) (hv (12, 17, (.bool true)) (by simp) (ha 12 (by simp [aftersOf, Region.binds])))
      have gg17 := slot_get g17
      have gw := slot_bool g17
      rw [if_neg (by simp [Region.wanted, yielded, gw])]
      clear gw
      exact hK undef w' ⟨hv.step 15 20 _ (by simp), hq.step 15 20 _ (Below.refl _ _) (by simp)⟩
    · clear hi; intro o ho lz fz w' A hJ hli ha hA K hK
      obtain ⟨hv, hq⟩ := hJ
      obtain rfl := Option.some.inj ho
      clear ho
      have hr := hq
      have g17 := slot_in hA 17 (by decide) (by decide) (hv (12, 17, (.bool true)) (by simp) (ha 12 (by simp [aftersOf, Region.binds])))
      have gg17 := slot_get g17
      have gw := slot_bool g17
      rw [if_neg (by simp [Region.wanted, yielded, gw])]
      clear gw
      exact hK undef w' ⟨hv.step 16 21 _ (by simp), hq.step 16 21 _ (Below.refl _ _) (by simp)⟩
    · clear hi; intro o ho lz fz w' A hJ hli ha hA K hK
      obtain ⟨hv, hq⟩ := hJ
      obtain rfl := Option.some.inj ho
      clear ho
      have hr := hq
      have g17 := slot_in hA 17 (by decide) (by decide) (hv (12, 17, (.bool true)) (by simp) (ha 12 (by simp [aftersOf, Region.binds])))
      have gg17 := slot_get g17
      have gw := slot_bool g17
      rw [if_neg (by simp [Region.wanted, yielded, gw])]
      clear gw
      exact hK undef w' ⟨hv.step 17 22 _ (by simp), hq.step 17 22 _ (Below.refl _ _) (by simp)⟩
    · clear hi; intro o ho lz fz w' A hJ hli ha hA K hK
      obtain ⟨hv, hq⟩ := hJ
      obtain rfl := Option.some.inj ho
      clear ho
      have hr := hq
      have g17 := slot_in hA 17 (by decide) (by decide) (hv (12, 17, (.bool true)) (by simp) (ha 12 (by simp [aftersOf, Region.binds])))
      have gg17 := slot_get g17
      rw [if_pos (by rfl)]
      have hF := hK (.bool true) w' ⟨hv.step 18 23 _ (by simp), hq.step 18 23 _ (Below.refl _ _) (by simp)⟩
      clear hv hq hr ha hK hA hli
      go_simp
      exact hF
    · clear hi; intro o ho lz fz w' A hJ hli ha hA K hK
      obtain ⟨hv, hq⟩ := hJ
      obtain rfl := Option.some.inj ho
      clear ho
      have hr := hq
      have g23 := slot_in hA 23 (by decide) (by decide) (hv (18, 23, (.bool true)) (by simp) (ha 18 (by simp [aftersOf, Region.binds])))
      have gg23 := slot_get g23
      rw [if_pos (by rfl)]
      have hF := hK (.bool true) w' ⟨hv.step 19 4 _ (by simp), hq.step 19 4 _ (Below.refl _ _) (by simp)⟩
      clear hv hq hr ha hK hA hli
      go_simp
      exact hF
  · intro lz fz w' hall hJ
    obtain ⟨hv, hq⟩ := hJ
    have h4 : fz 4 = (.bool true) := hv (19, 4, (.bool true)) (by simp) (hall 19 (by decide))
    have hbR := hq.1
    clear hv hq hall
    simp only [mixF, List.contains_cons, List.contains_nil]
    go_simp
    go_wp2
    go_ret
    exact ⟨rfl, HBB.out.trans (hbR.mono HBB.out.size)⟩
set_option maxRecDepth 100000 in
set_option maxHeartbeats 8000000 in
theorem conflict_spec1 (p q r t p2 q2 r2 t2 : Int) (w : World) (H1 : Hid (commonM (writesM ⟨p, q, r, t⟩) (writesM ⟨p2, q2, r2, t2⟩) = false)) (H2 : Hid (commonM (writesM ⟨p, q, r, t⟩) (readsM ⟨p2, q2, r2, t2⟩) = true)) :
    Calls Try.prog 16 #[.agg #[.int .i64 p, .int .i64 q, .int .i64 r, .int .i64 t], .agg #[.int .i64 p2, .int .i64 q2, .int .i64 r2, .int .i64 t2]] w (BoolS true w) := by
  have HA0 := Lib.hid ((boxA_new w p q r t 24).alloc (.cells #[.int .i64 p2, .int .i64 q2, .int .i64 r2, .int .i64 t2] 24))
  have HB0 := Lib.hid (boxA_new (w.alloc (.cells #[.int .i64 p, .int .i64 q, .int .i64 r, .int .i64 t] 24)) p2 q2 r2 t2 24)
  have HBB := Lib.hid (((Below.refl w.heap.size w).alloc (Nat.le_refl _) (.cells #[.int .i64 p, .int .i64 q, .int .i64 r, .int .i64 t] 24)).alloc (by simp) (.cells #[.int .i64 p2, .int .i64 q2, .int .i64 r2, .int .i64 t2] 24))
  go_enter Try.func16, Try.ntmps16
  go_wp2
  generalize hw5 : World.alloc _ _ = w5 at HA0 HB0 HBB
  have HA : Hid (BoxA w5 w.heap.size p q r t) := HA0
  have HB : Hid (BoxA w5 (w.heap.size + 1) p2 q2 r2 t2) := by simpa using HB0
  clear HA0 HB0 hw5
  refine wp_region_light (by kernel_rfl) (fun lz fz wz => Vals [(0, 5, (.agg #[.int .i64 p, .int .i64 q, .int .i64 r, .int .i64 t])), (2, 7, (.agg #[.int .i64 p2, .int .i64 q2, .int .i64 r2, .int .i64 t2])), (4, 9, (.bool false)), (5, 10, (.bool false)), (6, 11, (.agg #[.int .i64 p, .int .i64 q, .int .i64 r, .int .i64 t])), (8, 13, (.agg #[.int .i64 p2, .int .i64 q2, .int .i64 r2, .int .i64 t2])), (10, 15, (.bool true)), (11, 16, (.bool true)), (12, 17, (.bool true)), (18, 23, (.bool true)), (19, 4, (.bool true))] lz fz ∧ Facts w5 [(1, 6, Sta.ints (writesM ⟨p, q, r, t⟩)), (3, 8, Sta.ints (writesM ⟨p2, q2, r2, t2⟩)), (7, 12, Sta.ints (writesM ⟨p, q, r, t⟩)), (9, 14, Sta.ints (readsM ⟨p2, q2, r2, t2⟩))] lz fz wz) 24 rfl [5, 6, 7, 8, 9, 10, 11, 12, 13, 14, 15, 16, 17, 18, 19, 20, 21, 22, 23, 4] (by kernel_rfl) (by kernel_rfl) (by kernel_rfl) (fun f => ⟨Vals.nothing _ f, Facts.nothing _ _ f⟩) ?_ ?_
  · intro i hi
    rcases (by have : i < 20 := hi; omega : i = 0 ∨ i = 1 ∨ i = 2 ∨ i = 3 ∨ i = 4 ∨ i = 5 ∨ i = 6 ∨ i = 7 ∨ i = 8 ∨ i = 9 ∨ i = 10 ∨ i = 11 ∨ i = 12 ∨ i = 13 ∨ i = 14 ∨ i = 15 ∨ i = 16 ∨ i = 17 ∨ i = 18 ∨ i = 19) with rfl | rfl | rfl | rfl | rfl | rfl | rfl | rfl | rfl | rfl | rfl | rfl | rfl | rfl | rfl | rfl | rfl | rfl | rfl | rfl
    · clear hi; intro o ho lz fz w' A hJ hli ha hA K hK
      obtain ⟨hv, hq⟩ := hJ
      obtain rfl := Option.some.inj ho
      clear ho
      have hr := hq
      have g2 := slot_out hA 2 _ (by decide) (by decide) rfl
      simp only [List.getD_cons_succ, List.getD_cons_zero] at g2
      have gg2 := slot_get g2
      rw [if_pos (by rfl)]
      obtain ⟨k0, k1, k2, k3⟩ := HA.out.below hr.1
      have hF := hK (.agg #[.int .i64 p, .int .i64 q, .int .i64 r, .int .i64 t]) w' ⟨hv.step 0 5 _ (by simp), hq.step 0 5 _ (Below.refl _ _) (by simp)⟩
      clear hv hq hr ha hK hA hli
      go_simp
      exact hF
    · clear hi; intro o ho lz fz w' A hJ hli ha hA K hK
      obtain ⟨hv, hq⟩ := hJ
      obtain rfl := Option.some.inj ho
      clear ho
      have hr := hq
      have g5 := slot_in hA 5 (by decide) (by decide) (hv (0, 5, (.agg #[.int .i64 p, .int .i64 q, .int .i64 r, .int .i64 t])) (by simp) (ha 0 (by simp [aftersOf, Region.binds])))
      have gg5 := slot_get g5
      rw [if_pos (by rfl)]
      clear hA
      go_simp
      refine (actionWrites_spec p q r t _).mono ?_
      rintro e w9 ⟨v9, rfl, ho9, hw9, hb9⟩
      have hs := ints_of_new (by have := writesM_len ⟨p, q, r, t⟩; omega) ho9 hw9
      exact hK v9 w9 ⟨hv.step 1 6 _ (by simp), hq.step 1 6 _ hb9 (by simp [hs])⟩
    · clear hi; intro o ho lz fz w' A hJ hli ha hA K hK
      obtain ⟨hv, hq⟩ := hJ
      obtain rfl := Option.some.inj ho
      clear ho
      have hr := hq
      have g3 := slot_out hA 3 _ (by decide) (by decide) rfl
      simp only [List.getD_cons_succ, List.getD_cons_zero] at g3
      have gg3 := slot_get g3
      rw [if_pos (by rfl)]
      obtain ⟨k0, k1, k2, k3⟩ := HB.out.below hr.1
      have hF := hK (.agg #[.int .i64 p2, .int .i64 q2, .int .i64 r2, .int .i64 t2]) w' ⟨hv.step 2 7 _ (by simp), hq.step 2 7 _ (Below.refl _ _) (by simp)⟩
      clear hv hq hr ha hK hA hli
      go_simp
      exact hF
    · clear hi; intro o ho lz fz w' A hJ hli ha hA K hK
      obtain ⟨hv, hq⟩ := hJ
      obtain rfl := Option.some.inj ho
      clear ho
      have hr := hq
      have g7 := slot_in hA 7 (by decide) (by decide) (hv (2, 7, (.agg #[.int .i64 p2, .int .i64 q2, .int .i64 r2, .int .i64 t2])) (by simp) (ha 2 (by simp [aftersOf, Region.binds])))
      have gg7 := slot_get g7
      rw [if_pos (by rfl)]
      clear hA
      go_simp
      refine (actionWrites_spec p2 q2 r2 t2 _).mono ?_
      rintro e w9 ⟨v9, rfl, ho9, hw9, hb9⟩
      have hs := ints_of_new (by have := writesM_len ⟨p2, q2, r2, t2⟩; omega) ho9 hw9
      exact hK v9 w9 ⟨hv.step 3 8 _ (by simp), hq.step 3 8 _ hb9 (by simp [hs])⟩
    · clear hi; intro o ho lz fz w' A hJ hli ha hA K hK
      obtain ⟨hv, hq⟩ := hJ
      obtain rfl := Option.some.inj ho
      clear ho
      have hr := hq
      obtain ⟨a6, c6, h6, r6⟩ := hr.2 (1, 6, Sta.ints (writesM ⟨p, q, r, t⟩)) (by simp) (ha 1 (by simp [aftersOf, Region.binds]))
      have g6 := slot_in hA 6 (by decide) (by decide) h6
      obtain ⟨a8, c8, h8, r8⟩ := hr.2 (3, 8, Sta.ints (writesM ⟨p2, q2, r2, t2⟩)) (by simp) (ha 3 (by simp [aftersOf, Region.binds]))
      have g8 := slot_in hA 8 (by decide) (by decide) h8
      have gg6 := slot_get g6
      have gg8 := slot_get g8
      rw [if_pos (by rfl)]
      clear hA
      go_simp
      refine (l8Common_spec _ _ _ _ _ _ _ _ w' r6 r8).mono ?_
      rintro e w9 ⟨rfl, hb9⟩
      rw [H1.out]
      exact hK (.bool false) w9 ⟨hv.step 4 9 _ (by simp), hq.step 4 9 _ hb9 (by simp)⟩
    · clear hi; intro o ho lz fz w' A hJ hli ha hA K hK
      obtain ⟨hv, hq⟩ := hJ
      obtain rfl := Option.some.inj ho
      clear ho
      have hr := hq
      have g9 := slot_in hA 9 (by decide) (by decide) (hv (4, 9, (.bool false)) (by simp) (ha 4 (by simp [aftersOf, Region.binds])))
      have gg9 := slot_get g9
      rw [if_pos (by rfl)]
      have hF := hK (.bool false) w' ⟨hv.step 5 10 _ (by simp), hq.step 5 10 _ (Below.refl _ _) (by simp)⟩
      clear hv hq hr ha hK hA hli
      go_simp
      exact hF
    · clear hi; intro o ho lz fz w' A hJ hli ha hA K hK
      obtain ⟨hv, hq⟩ := hJ
      obtain rfl := Option.some.inj ho
      clear ho
      have hr := hq
      have g2 := slot_out hA 2 _ (by decide) (by decide) rfl
      simp only [List.getD_cons_succ, List.getD_cons_zero] at g2
      have g10 := slot_in hA 10 (by decide) (by decide) (hv (5, 10, (.bool false)) (by simp) (ha 5 (by simp [aftersOf, Region.binds])))
      have gg2 := slot_get g2
      have gg10 := slot_get g10
      have gw := slot_bool g10
      rw [if_pos (by simp [Region.wanted, yielded, gw])]
      clear gw
      obtain ⟨k0, k1, k2, k3⟩ := HA.out.below hr.1
      have hF := hK (.agg #[.int .i64 p, .int .i64 q, .int .i64 r, .int .i64 t]) w' ⟨hv.step 6 11 _ (by simp), hq.step 6 11 _ (Below.refl _ _) (by simp)⟩
      clear hv hq hr ha hK hA hli
      go_simp
      exact hF
    · clear hi; intro o ho lz fz w' A hJ hli ha hA K hK
      obtain ⟨hv, hq⟩ := hJ
      obtain rfl := Option.some.inj ho
      clear ho
      have hr := hq
      have g11 := slot_in hA 11 (by decide) (by decide) (hv (6, 11, (.agg #[.int .i64 p, .int .i64 q, .int .i64 r, .int .i64 t])) (by simp) (ha 6 (by simp [aftersOf, Region.binds])))
      have g10 := slot_in hA 10 (by decide) (by decide) (hv (5, 10, (.bool false)) (by simp) (ha 5 (by simp [aftersOf, Region.binds])))
      have gg11 := slot_get g11
      have gg10 := slot_get g10
      have gw := slot_bool g10
      rw [if_pos (by simp [Region.wanted, yielded, gw])]
      clear gw
      clear hA
      go_simp
      refine (actionWrites_spec p q r t _).mono ?_
      rintro e w9 ⟨v9, rfl, ho9, hw9, hb9⟩
      have hs := ints_of_new (by have := writesM_len ⟨p, q, r, t⟩; omega) ho9 hw9
      exact hK v9 w9 ⟨hv.step 7 12 _ (by simp), hq.step 7 12 _ hb9 (by simp [hs])⟩
    · clear hi; intro o ho lz fz w' A hJ hli ha hA K hK
      obtain ⟨hv, hq⟩ := hJ
      obtain rfl := Option.some.inj ho
      clear ho
      have hr := hq
      have g3 := slot_out hA 3 _ (by decide) (by decide) rfl
      simp only [List.getD_cons_succ, List.getD_cons_zero] at g3
      have g10 := slot_in hA 10 (by decide) (by decide) (hv (5, 10, (.bool false)) (by simp) (ha 5 (by simp [aftersOf, Region.binds])))
      have gg3 := slot_get g3
      have gg10 := slot_get g10
      have gw := slot_bool g10
      rw [if_pos (by simp [Region.wanted, yielded, gw])]
      clear gw
      obtain ⟨k0, k1, k2, k3⟩ := HB.out.below hr.1
      have hF := hK (.agg #[.int .i64 p2, .int .i64 q2, .int .i64 r2, .int .i64 t2]) w' ⟨hv.step 8 13 _ (by simp), hq.step 8 13 _ (Below.refl _ _) (by simp)⟩
      clear hv hq hr ha hK hA hli
      go_simp
      exact hF
    · clear hi; intro o ho lz fz w' A hJ hli ha hA K hK
      obtain ⟨hv, hq⟩ := hJ
      obtain rfl := Option.some.inj ho
      clear ho
      have hr := hq
      have g13 := slot_in hA 13 (by decide) (by decide) (hv (8, 13, (.agg #[.int .i64 p2, .int .i64 q2, .int .i64 r2, .int .i64 t2])) (by simp) (ha 8 (by simp [aftersOf, Region.binds])))
      have g10 := slot_in hA 10 (by decide) (by decide) (hv (5, 10, (.bool false)) (by simp) (ha 5 (by simp [aftersOf, Region.binds])))
      have gg13 := slot_get g13
      have gg10 := slot_get g10
      have gw := slot_bool g10
      rw [if_pos (by simp [Region.wanted, yielded, gw])]
      clear gw
      clear hA
      go_simp
      refine (actionReads_spec p2 q2 r2 t2 _).mono ?_
      rintro e w9 ⟨v9, rfl, ho9, hw9, hb9⟩
      have hs := ints_of_new (by have := readsM_len ⟨p2, q2, r2, t2⟩; omega) ho9 hw9
      exact hK v9 w9 ⟨hv.step 9 14 _ (by simp), hq.step 9 14 _ hb9 (by simp [hs])⟩
    · clear hi; intro o ho lz fz w' A hJ hli ha hA K hK
      obtain ⟨hv, hq⟩ := hJ
      obtain rfl := Option.some.inj ho
      clear ho
      have hr := hq
      obtain ⟨a12, c12, h12, r12⟩ := hr.2 (7, 12, Sta.ints (writesM ⟨p, q, r, t⟩)) (by simp) (ha 7 (by simp [aftersOf, Region.binds]))
      have g12 := slot_in hA 12 (by decide) (by decide) h12
      obtain ⟨a14, c14, h14, r14⟩ := hr.2 (9, 14, Sta.ints (readsM ⟨p2, q2, r2, t2⟩)) (by simp) (ha 9 (by simp [aftersOf, Region.binds]))
      have g14 := slot_in hA 14 (by decide) (by decide) h14
      have g10 := slot_in hA 10 (by decide) (by decide) (hv (5, 10, (.bool false)) (by simp) (ha 5 (by simp [aftersOf, Region.binds])))
      have gg12 := slot_get g12
      have gg14 := slot_get g14
      have gg10 := slot_get g10
      have gw := slot_bool g10
      rw [if_pos (by simp [Region.wanted, yielded, gw])]
      clear gw
      clear hA
      go_simp
      refine (l8Common_spec _ _ _ _ _ _ _ _ w' r12 r14).mono ?_
      rintro e w9 ⟨rfl, hb9⟩
      rw [H2.out]
      exact hK (.bool true) w9 ⟨hv.step 10 15 _ (by simp), hq.step 10 15 _ hb9 (by simp)⟩
    · clear hi; intro o ho lz fz w' A hJ hli ha hA K hK
      obtain ⟨hv, hq⟩ := hJ
      obtain rfl := Option.some.inj ho
      clear ho
      have hr := hq
      have g10 := slot_in hA 10 (by decide) (by decide) (hv (5, 10, (.bool false)) (by simp) (ha 5 (by simp [aftersOf, Region.binds])))
      have g15 := slot_in hA 15 (by decide) (by decide) (hv (10, 15, (.bool true)) (by simp) (ha 10 (by simp [aftersOf, Region.binds])))
      have gg10 := slot_get g10
      have gg15 := slot_get g15
      rw [if_pos (by rfl)]
      have hF := hK (.bool true) w' ⟨hv.step 11 16 _ (by simp), hq.step 11 16 _ (Below.refl _ _) (by simp)⟩
      clear hv hq hr ha hK hA hli
      go_simp
      exact hF
    · clear hi; intro o ho lz fz w' A hJ hli ha hA K hK
      obtain ⟨hv, hq⟩ := hJ
      obtain rfl := Option.some.inj ho
      clear ho
      have hr := hq
      have g16 := slot_in hA 16 (by decide) (by decide) (hv (11, 16, (.bool true)) (by simp) (ha 11 (by simp [aftersOf, Region.binds])))
      have gg16 := slot_get g16
      rw [if_pos (by rfl)]
      have hF := hK (.bool true) w' ⟨hv.step 12 17 _ (by simp), hq.step 12 17 _ (Below.refl _ _) (by simp)⟩
      clear hv hq hr ha hK hA hli
      go_simp
      exact hF
    · clear hi; intro o ho lz fz w' A hJ hli ha hA K hK
      obtain ⟨hv, hq⟩ := hJ
      obtain rfl := Option.some.inj ho
      clear ho
      have hr := hq
      have g17 := slot_in hA 17 (by decide) (by decide) (hv (12, 17, (.bool true)) (by simp) (ha 12 (by simp [aftersOf, Region.binds])))
      have gg17 := slot_get g17
      have gw := slot_bool g17
      rw [if_neg (by simp [Region.wanted, yielded, gw])]
      clear gw
      exact hK undef w' ⟨hv.step 13 18 _ (by simp), hq.step 13 18 _ (Below.refl _ _) (by simp)⟩
    · clear hi; intro o ho lz fz w' A hJ hli ha hA K hK
      obtain ⟨hv, hq⟩ := hJ
      obtain rfl := Option.some.inj ho
      clear ho
      have hr := hq
      have g17 := slot_in hA 17 (by decide) (by decide) (hv (12, 17, (.bool true)) (by simp) (ha 12 (by simp [aftersOf, Region.binds])))
      have gg17 := slot_get g17
      have gw := slot_bool g17
      rw [if_neg (by simp [Region.wanted, yielded, gw])]
      clear gw
      exact hK undef w' ⟨hv.step 14 19 _ (by simp), hq.step 14 19 _ (Below.refl _ _) (by simp)⟩
    · clear hi; intro o ho lz fz w' A hJ hli ha hA K hK
      obtain ⟨hv, hq⟩ := hJ
      obtain rfl := Option.some.inj ho
      clear ho
      have hr := hq
      have g17 := slot_in hA 17 (by decide) (by decide) (hv (12, 17, (.bool true)) (by simp) (ha 12 (by simp [aftersOf, Region.binds])))
      have gg17 := slot_get g17
      have gw := slot_bool g17
      rw [if_neg (by simp [Region.wanted, yielded, gw])]
      clear gw
      exact hK undef w' ⟨hv.step 15 20 _ (by simp), hq.step 15 20 _ (Below.refl _ _) (by simp)⟩
    · clear hi; intro o ho lz fz w' A hJ hli ha hA K hK
      obtain ⟨hv, hq⟩ := hJ
      obtain rfl := Option.some.inj ho
      clear ho
      have hr := hq
      have g17 := slot_in hA 17 (by decide) (by decide) (hv (12, 17, (.bool true)) (by simp) (ha 12 (by simp [aftersOf, Region.binds])))
      have gg17 := slot_get g17
      have gw := slot_bool g17
      rw [if_neg (by simp [Region.wanted, yielded, gw])]
      clear gw
      exact hK undef w' ⟨hv.step 16 21 _ (by simp), hq.step 16 21 _ (Below.refl _ _) (by simp)⟩
    · clear hi; intro o ho lz fz w' A hJ hli ha hA K hK
      obtain ⟨hv, hq⟩ := hJ
      obtain rfl := Option.some.inj ho
      clear ho
      have hr := hq
      have g17 := slot_in hA 17 (by decide) (by decide) (hv (12, 17, (.bool true)) (by simp) (ha 12 (by simp [aftersOf, Region.binds])))
      have gg17 := slot_get g17
      have gw := slot_bool g17
      rw [if_neg (by simp [Region.wanted, yielded, gw])]
      clear gw
      exact hK undef w' ⟨hv.step 17 22 _ (by simp), hq.step 17 22 _ (Below.refl _ _) (by simp)⟩
    · clear hi; intro o ho lz fz w' A hJ hli ha hA K hK
      obtain ⟨hv, hq⟩ := hJ
      obtain rfl := Option.some.inj ho
      clear ho
      have hr := hq
      have g17 := slot_in hA 17 (by decide) (by decide) (hv (12, 17, (.bool true)) (by simp) (ha 12 (by simp [aftersOf, Region.binds])))
      have gg17 := slot_get g17
      rw [if_pos (by rfl)]
      have hF := hK (.bool true) w' ⟨hv.step 18 23 _ (by simp), hq.step 18 23 _ (Below.refl _ _) (by simp)⟩
      clear hv hq hr ha hK hA hli
      go_simp
      exact hF
    · clear hi; intro o ho lz fz w' A hJ hli ha hA K hK
      obtain ⟨hv, hq⟩ := hJ
      obtain rfl := Option.some.inj ho
      clear ho
      have hr := hq
      have g23 := slot_in hA 23 (by decide) (by decide) (hv (18, 23, (.bool true)) (by simp) (ha 18 (by simp [aftersOf, Region.binds])))
      have gg23 := slot_get g23
      rw [if_pos (by rfl)]
      have hF := hK (.bool true) w' ⟨hv.step 19 4 _ (by simp), hq.step 19 4 _ (Below.refl _ _) (by simp)⟩
      clear hv hq hr ha hK hA hli
      go_simp
      exact hF
  · intro lz fz w' hall hJ
    obtain ⟨hv, hq⟩ := hJ
    have h4 : fz 4 = (.bool true) := hv (19, 4, (.bool true)) (by simp) (hall 19 (by decide))
    have hbR := hq.1
    clear hv hq hall
    simp only [mixF, List.contains_cons, List.contains_nil]
    go_simp
    go_wp2
    go_ret
    exact ⟨rfl, HBB.out.trans (hbR.mono HBB.out.size)⟩
set_option maxRecDepth 100000 in
set_option maxHeartbeats 8000000 in
theorem conflict_spec2 (p q r t p2 q2 r2 t2 : Int) (w : World) (H1 : Hid (commonM (writesM ⟨p, q, r, t⟩) (writesM ⟨p2, q2, r2, t2⟩) = false)) (H2 : Hid (commonM (writesM ⟨p, q, r, t⟩) (readsM ⟨p2, q2, r2, t2⟩) = false)) (H3 : Hid (commonM (readsM ⟨p, q, r, t⟩) (writesM ⟨p2, q2, r2, t2⟩) = true)) :
    Calls Try.prog 16 #[.agg #[.int .i64 p, .int .i64 q, .int .i64 r, .int .i64 t], .agg #[.int .i64 p2, .int .i64 q2, .int .i64 r2, .int .i64 t2]] w (BoolS true w) := by
  have HA0 := Lib.hid ((boxA_new w p q r t 24).alloc (.cells #[.int .i64 p2, .int .i64 q2, .int .i64 r2, .int .i64 t2] 24))
  have HB0 := Lib.hid (boxA_new (w.alloc (.cells #[.int .i64 p, .int .i64 q, .int .i64 r, .int .i64 t] 24)) p2 q2 r2 t2 24)
  have HBB := Lib.hid (((Below.refl w.heap.size w).alloc (Nat.le_refl _) (.cells #[.int .i64 p, .int .i64 q, .int .i64 r, .int .i64 t] 24)).alloc (by simp) (.cells #[.int .i64 p2, .int .i64 q2, .int .i64 r2, .int .i64 t2] 24))
  go_enter Try.func16, Try.ntmps16
  go_wp2
  generalize hw5 : World.alloc _ _ = w5 at HA0 HB0 HBB
  have HA : Hid (BoxA w5 w.heap.size p q r t) := HA0
  have HB : Hid (BoxA w5 (w.heap.size + 1) p2 q2 r2 t2) := by simpa using HB0
  clear HA0 HB0 hw5
  refine wp_region_light (by kernel_rfl) (fun lz fz wz => Vals [(0, 5, (.agg #[.int .i64 p, .int .i64 q, .int .i64 r, .int .i64 t])), (2, 7, (.agg #[.int .i64 p2, .int .i64 q2, .int .i64 r2, .int .i64 t2])), (4, 9, (.bool false)), (5, 10, (.bool false)), (6, 11, (.agg #[.int .i64 p, .int .i64 q, .int .i64 r, .int .i64 t])), (8, 13, (.agg #[.int .i64 p2, .int .i64 q2, .int .i64 r2, .int .i64 t2])), (10, 15, (.bool false)), (11, 16, (.bool false)), (12, 17, (.bool false)), (13, 18, (.agg #[.int .i64 p, .int .i64 q, .int .i64 r, .int .i64 t])), (15, 20, (.agg #[.int .i64 p2, .int .i64 q2, .int .i64 r2, .int .i64 t2])), (17, 22, (.bool true)), (18, 23, (.bool true)), (19, 4, (.bool true))] lz fz ∧ Facts w5 [(1, 6, Sta.ints (writesM ⟨p, q, r, t⟩)), (3, 8, Sta.ints (writesM ⟨p2, q2, r2, t2⟩)), (7, 12, Sta.ints (writesM ⟨p, q, r, t⟩)), (9, 14, Sta.ints (readsM ⟨p2, q2, r2, t2⟩)), (14, 19, Sta.ints (readsM ⟨p, q, r, t⟩)), (16, 21, Sta.ints (writesM ⟨p2, q2, r2, t2⟩))] lz fz wz) 24 rfl [5, 6, 7, 8, 9, 10, 11, 12, 13, 14, 15, 16, 17, 18, 19, 20, 21, 22, 23, 4] (by kernel_rfl) (by kernel_rfl) (by kernel_rfl) (fun f => ⟨Vals.nothing _ f, Facts.nothing _ _ f⟩) ?_ ?_
  · intro i hi
    rcases (by have : i < 20 := hi; omega : i = 0 ∨ i = 1 ∨ i = 2 ∨ i = 3 ∨ i = 4 ∨ i = 5 ∨ i = 6 ∨ i = 7 ∨ i = 8 ∨ i = 9 ∨ i = 10 ∨ i = 11 ∨ i = 12 ∨ i = 13 ∨ i = 14 ∨ i = 15 ∨ i = 16 ∨ i = 17 ∨ i = 18 ∨ i = 19) with rfl | rfl | rfl | rfl | rfl | rfl | rfl | rfl | rfl | rfl | rfl | rfl | rfl | rfl | rfl | rfl | rfl | rfl | rfl | rfl
    · clear hi; intro o ho lz fz w' A hJ hli ha hA K hK
      obtain ⟨hv, hq⟩ := hJ
      obtain rfl := Option.some.inj ho
      clear ho
      have hr := hq
      have g2 := slot_out hA 2 _ (by decide) (by decide) rfl
      simp only [List.getD_cons_succ, List.getD_cons_zero] at g2
      have gg2 := slot_get g2
      rw [if_pos (by rfl)]
      obtain ⟨k0, k1, k2, k3⟩ := HA.out.below hr.1
      have hF := hK (.agg #[.int .i64 p, .int .i64 q, .int .i64 r, .int .i64 t]) w' ⟨hv.step 0 5 _ (by simp), hq.step 0 5 _ (Below.refl _ _) (by simp)⟩
      clear hv hq hr ha hK hA hli
      go_simp
      exact hF
    · clear hi; intro o ho lz fz w' A hJ hli ha hA K hK
      obtain ⟨hv, hq⟩ := hJ
      obtain rfl := Option.some.inj ho
      clear ho
      have hr := hq
      have g5 := slot_in hA 5 (by decide) (by decide) (hv (0, 5, (.agg #[.int .i64 p, .int .i64 q, .int .i64 r, .int .i64 t])) (by simp) (ha 0 (by simp [aftersOf, Region.binds])))
      have gg5 := slot_get g5
      rw [if_pos (by rfl)]
      clear hA
      go_simp
      refine (actionWrites_spec p q r t _).mono ?_
      rintro e w9 ⟨v9, rfl, ho9, hw9, hb9⟩
      have hs := ints_of_new (by have := writesM_len ⟨p, q, r, t⟩; omega) ho9 hw9
      exact hK v9 w9 ⟨hv.step 1 6 _ (by simp), hq.step 1 6 _ hb9 (by simp [hs])⟩
    · clear hi; intro o ho lz fz w' A hJ hli ha hA K hK
      obtain ⟨hv, hq⟩ := hJ
      obtain rfl := Option.some.inj ho
      clear ho
      have hr := hq
      have g3 := slot_out hA 3 _ (by decide) (by decide) rfl
      simp only [List.getD_cons_succ, List.getD_cons_zero] at g3
      have gg3 := slot_get g3
      rw [if_pos (by rfl)]
      obtain ⟨k0, k1, k2, k3⟩ := HB.out.below hr.1
      have hF := hK (.agg #[.int .i64 p2, .int .i64 q2, .int .i64 r2, .int .i64 t2]) w' ⟨hv.step 2 7 _ (by simp), hq.step 2 7 _ (Below.refl _ _) (by simp)⟩
      clear hv hq hr ha hK hA hli
      go_simp
      exact hF
    · clear hi; intro o ho lz fz w' A hJ hli ha hA K hK
      obtain ⟨hv, hq⟩ := hJ
      obtain rfl := Option.some.inj ho
      clear ho
      have hr := hq
      have g7 := slot_in hA 7 (by decide) (by decide) (hv (2, 7, (.agg #[.int .i64 p2, .int .i64 q2, .int .i64 r2, .int .i64 t2])) (by simp) (ha 2 (by simp [aftersOf, Region.binds])))
      have gg7 := slot_get g7
      rw [if_pos (by rfl)]
      clear hA
      go_simp
      refine (actionWrites_spec p2 q2 r2 t2 _).mono ?_
      rintro e w9 ⟨v9, rfl, ho9, hw9, hb9⟩
      have hs := ints_of_new (by have := writesM_len ⟨p2, q2, r2, t2⟩; omega) ho9 hw9
      exact hK v9 w9 ⟨hv.step 3 8 _ (by simp), hq.step 3 8 _ hb9 (by simp [hs])⟩
    · clear hi; intro o ho lz fz w' A hJ hli ha hA K hK
      obtain ⟨hv, hq⟩ := hJ
      obtain rfl := Option.some.inj ho
      clear ho
      have hr := hq
      obtain ⟨a6, c6, h6, r6⟩ := hr.2 (1, 6, Sta.ints (writesM ⟨p, q, r, t⟩)) (by simp) (ha 1 (by simp [aftersOf, Region.binds]))
      have g6 := slot_in hA 6 (by decide) (by decide) h6
      obtain ⟨a8, c8, h8, r8⟩ := hr.2 (3, 8, Sta.ints (writesM ⟨p2, q2, r2, t2⟩)) (by simp) (ha 3 (by simp [aftersOf, Region.binds]))
      have g8 := slot_in hA 8 (by decide) (by decide) h8
      have gg6 := slot_get g6
      have gg8 := slot_get g8
      rw [if_pos (by rfl)]
      clear hA
      go_simp
      refine (l8Common_spec _ _ _ _ _ _ _ _ w' r6 r8).mono ?_
      rintro e w9 ⟨rfl, hb9⟩
      rw [H1.out]
      exact hK (.bool false) w9 ⟨hv.step 4 9 _ (by simp), hq.step 4 9 _ hb9 (by simp)⟩
    · clear hi; intro o ho lz fz w' A hJ hli ha hA K hK
      obtain ⟨hv, hq⟩ := hJ
      obtain rfl := Option.some.inj ho
      clear ho
      have hr := hq
      have g9 := slot_in hA 9 (by decide) (by decide) (hv (4, 9, (.bool false)) (by simp) (ha 4 (by simp [aftersOf, Region.binds])))
      have gg9 := slot_get g9
      rw [if_pos (by rfl)]
      have hF := hK (.bool false) w' ⟨hv.step 5 10 _ (by simp), hq.step 5 10 _ (Below.refl _ _) (by simp)⟩
      clear hv hq hr ha hK hA hli
      go_simp
      exact hF
    · clear hi; intro o ho lz fz w' A hJ hli ha hA K hK
      obtain ⟨hv, hq⟩ := hJ
      obtain rfl := Option.some.inj ho
      clear ho
      have hr := hq
      have g2 := slot_out hA 2 _ (by decide) (by decide) rfl
      simp only [List.getD_cons_succ, List.getD_cons_zero] at g2
      have g10 := slot_in hA 10 (by decide) (by decide) (hv (5, 10, (.bool false)) (by simp) (ha 5 (by simp [aftersOf, Region.binds])))
      have gg2 := slot_get g2
      have gg10 := slot_get g10
      have gw := slot_bool g10
      rw [if_pos (by simp [Region.wanted, yielded, gw])]
      clear gw
      obtain ⟨k0, k1, k2, k3⟩ := HA.out.below hr.1
      have hF := hK (.agg #[.int .i64 p, .int .i64 q, .int .i64 r, .int .i64 t]) w' ⟨hv.step 6 11 _ (by simp), hq.step 6 11 _ (Below.refl _ _) (by simp)⟩
      clear hv hq hr ha hK hA hli
      go_simp
      exact hF
    · clear hi; intro o ho lz fz w' A hJ hli ha hA K hK
      obtain ⟨hv, hq⟩ := hJ
      obtain rfl := Option.some.inj ho
      clear ho
      have hr := hq
      have g11 := slot_in hA 11 (by decide) (by decide) (hv (6, 11, (.agg #[.int .i64 p, .int .i64 q, .int .i64 r, .int .i64 t])) (by simp) (ha 6 (by simp [aftersOf, Region.binds])))
      have g10 := slot_in hA 10 (by decide) (by decide) (hv (5, 10, (.bool false)) (by simp) (ha 5 (by simp [aftersOf, Region.binds])))
      have gg11 := slot_get g11
      have gg10 := slot_get g10
      have gw := slot_bool g10
      rw [if_pos (by simp [Region.wanted, yielded, gw])]
      clear gw
      clear hA
      go_simp
      refine (actionWrites_spec p q r t _).mono ?_
      rintro e w9 ⟨v9, rfl, ho9, hw9, hb9⟩
      have hs := ints_of_new (by have := writesM_len ⟨p, q, r, t⟩; omega) ho9 hw9
      exact hK v9 w9 ⟨hv.step 7 12 _ (by simp), hq.step 7 12 _ hb9 (by simp [hs])⟩
    · clear hi; intro o ho lz fz w' A hJ hli ha hA K hK
      obtain ⟨hv, hq⟩ := hJ
      obtain rfl := Option.some.inj ho
      clear ho
      have hr := hq
      have g3 := slot_out hA 3 _ (by decide) (by decide) rfl
      simp only [List.getD_cons_succ, List.getD_cons_zero] at g3
      have g10 := slot_in hA 10 (by decide) (by decide) (hv (5, 10, (.bool false)) (by simp) (ha 5 (by simp [aftersOf, Region.binds])))
      have gg3 := slot_get g3
      have gg10 := slot_get g10
      have gw := slot_bool g10
      rw [if_pos (by simp [Region.wanted, yielded, gw])]
      clear gw
      obtain ⟨k0, k1, k2, k3⟩ := HB.out.below hr.1
      have hF := hK (.agg #[.int .i64 p2, .int .i64 q2, .int .i64 r2, .int .i64 t2]) w' ⟨hv.step 8 13 _ (by simp), hq.step 8 13 _ (Below.refl _ _) (by simp)⟩
      clear hv hq hr ha hK hA hli
      go_simp
      exact hF
    · clear hi; intro o ho lz fz w' A hJ hli ha hA K hK
      obtain ⟨hv, hq⟩ := hJ
      obtain rfl := Option.some.inj ho
      clear ho
      have hr := hq
      have g13 := slot_in hA 13 (by decide) (by decide) (hv (8, 13, (.agg #[.int .i64 p2, .int .i64 q2, .int .i64 r2, .int .i64 t2])) (by simp) (ha 8 (by simp [aftersOf, Region.binds])))
      have g10 := slot_in hA 10 (by decide) (by decide) (hv (5, 10, (.bool false)) (by simp) (ha 5 (by simp [aftersOf, Region.binds])))
      have gg13 := slot_get g13
      have gg10 := slot_get g10
      have gw := slot_bool g10
      rw [if_pos (by simp [Region.wanted, yielded, gw])]
      clear gw
      clear hA
      go_simp
      refine (actionReads_spec p2 q2 r2 t2 _).mono ?_
      rintro e w9 ⟨v9, rfl, ho9, hw9, hb9⟩
      have hs := ints_of_new (by have := readsM_len ⟨p2, q2, r2, t2⟩; omega) ho9 hw9
      exact hK v9 w9 ⟨hv.step 9 14 _ (by simp), hq.step 9 14 _ hb9 (by simp [hs])⟩
    · clear hi; intro o ho lz fz w' A hJ hli ha hA K hK
      obtain ⟨hv, hq⟩ := hJ
      obtain rfl := Option.some.inj ho
      clear ho
      have hr := hq
      obtain ⟨a12, c12, h12, r12⟩ := hr.2 (7, 12, Sta.ints (writesM ⟨p, q, r, t⟩)) (by simp) (ha 7 (by simp [aftersOf, Region.binds]))
      have g12 := slot_in hA 12 (by decide) (by decide) h12
      obtain ⟨a14, c14, h14, r14⟩ := hr.2 (9, 14, Sta.ints (readsM ⟨p2, q2, r2, t2⟩)) (by simp) (ha 9 (by simp [aftersOf, Region.binds]))
      have g14 := slot_in hA 14 (by decide) (by decide) h14
      have g10 := slot_in hA 10 (by decide) (by decide) (hv (5, 10, (.bool false)) (by simp) (ha 5 (by simp [aftersOf, Region.binds])))
      have gg12 := slot_get g12
      have gg14 := slot_get g14
      have gg10 := slot_get g10
      have gw := slot_bool g10
      rw [if_pos (by simp [Region.wanted, yielded, gw])]
      clear gw
      clear hA
      go_simp
      refine (l8Common_spec _ _ _ _ _ _ _ _ w' r12 r14).mono ?_
      rintro e w9 ⟨rfl, hb9⟩
      rw [H2.out]
      exact hK (.bool false) w9 ⟨hv.step 10 15 _ (by simp), hq.step 10 15 _ hb9 (by simp)⟩
    · clear hi; intro o ho lz fz w' A hJ hli ha hA K hK
      obtain ⟨hv, hq⟩ := hJ
      obtain rfl := Option.some.inj ho
      clear ho
      have hr := hq
      have g10 := slot_in hA 10 (by decide) (by decide) (hv (5, 10, (.bool false)) (by simp) (ha 5 (by simp [aftersOf, Region.binds])))
      have g15 := slot_in hA 15 (by decide) (by decide) (hv (10, 15, (.bool false)) (by simp) (ha 10 (by simp [aftersOf, Region.binds])))
      have gg10 := slot_get g10
      have gg15 := slot_get g15
      rw [if_pos (by rfl)]
      have hF := hK (.bool false) w' ⟨hv.step 11 16 _ (by simp), hq.step 11 16 _ (Below.refl _ _) (by simp)⟩
      clear hv hq hr ha hK hA hli
      go_simp
      exact hF
    · clear hi; intro o ho lz fz w' A hJ hli ha hA K hK
      obtain ⟨hv, hq⟩ := hJ
      obtain rfl := Option.some.inj ho
      clear ho
      have hr := hq
      have g16 := slot_in hA 16 (by decide) (by decide) (hv (11, 16, (.bool false)) (by simp) (ha 11 (by simp [aftersOf, Region.binds])))
      have gg16 := slot_get g16
      rw [if_pos (by rfl)]
      have hF := hK (.bool false) w' ⟨hv.step 12 17 _ (by simp), hq.step 12 17 _ (Below.refl _ _) (by simp)⟩
      clear hv hq hr ha hK hA hli
      go_simp
      exact hF
    · clear hi; intro o ho lz fz w' A hJ hli ha hA K hK
      obtain ⟨hv, hq⟩ := hJ
      obtain rfl := Option.some.inj ho
      clear ho
      have hr := hq
      have g2 := slot_out hA 2 _ (by decide) (by decide) rfl
      simp only [List.getD_cons_succ, List.getD_cons_zero] at g2
      have g17 := slot_in hA 17 (by decide) (by decide) (hv (12, 17, (.bool false)) (by simp) (ha 12 (by simp [aftersOf, Region.binds])))
      have gg2 := slot_get g2
      have gg17 := slot_get g17
      have gw := slot_bool g17
      rw [if_pos (by simp [Region.wanted, yielded, gw])]
      clear gw
      obtain ⟨k0, k1, k2, k3⟩ := HA.out.below hr.1
      have hF := hK (.agg #[.int .i64 p, .int .i64 q, .int .i64 r, .int .i64 t]) w' ⟨hv.step 13 18 _ (by simp), hq.step 13 18 _ (Below.refl _ _) (by simp)⟩
      clear hv hq hr ha hK hA hli
      go_simp
      exact hF
    · clear hi; intro o ho lz fz w' A hJ hli ha hA K hK
      obtain ⟨hv, hq⟩ := hJ
      obtain rfl := Option.some.inj ho
      clear ho
      have hr := hq
      have g18 := slot_in hA 18 (by decide) (by decide) (hv (13, 18, (.agg #[.int .i64 p, .int .i64 q, .int .i64 r, .int .i64 t])) (by simp) (ha 13 (by simp [aftersOf, Region.binds])))
      have g17 := slot_in hA 17 (by decide) (by decide) (hv (12, 17, (.bool false)) (by simp) (ha 12 (by simp [aftersOf, Region.binds])))
      have gg18 := slot_get g18
      have gg17 := slot_get g17
      have gw := slot_bool g17
      rw [if_pos (by simp [Region.wanted, yielded, gw])]
      clear gw
      clear hA
      go_simp
      refine (actionReads_spec p q r t _).mono ?_
      rintro e w9 ⟨v9, rfl, ho9, hw9, hb9⟩
      have hs := ints_of_new (by have := readsM_len ⟨p, q, r, t⟩; omega) ho9 hw9
      exact hK v9 w9 ⟨hv.step 14 19 _ (by simp), hq.step 14 19 _ hb9 (by simp [hs])⟩
    · clear hi; intro o ho lz fz w' A hJ hli ha hA K hK
      obtain ⟨hv, hq⟩ := hJ
      obtain rfl := Option.some.inj ho
      clear ho
      have hr := hq
      have g3 := slot_out hA 3 _ (by decide) (by decide) rfl
      simp only [List.getD_cons_succ, List.getD_cons_zero] at g3
      have g17 := slot_in hA 17 (by decide) (by decide) (hv (12, 17, (.bool false)) (by simp) (ha 12 (by simp [aftersOf, Region.binds])))
      have gg3 := slot_get g3
      have gg17 := slot_get g17
      have gw := slot_bool g17
      rw [if_pos (by simp [Region.wanted, yielded, gw])]
      clear gw
      obtain ⟨k0, k1, k2, k3⟩ := HB.out.below hr.1
      have hF := hK (.agg #[.int .i64 p2, .int .i64 q2, .int .i64 r2, .int .i64 t2]) w' ⟨hv.step 15 20 _ (by simp), hq.step 15 20 _ (Below.refl _ _) (by simp)⟩
      clear hv hq hr ha hK hA hli
      go_simp
      exact hF
    · clear hi; intro o ho lz fz w' A hJ hli ha hA K hK
      obtain ⟨hv, hq⟩ := hJ
      obtain rfl := Option.some.inj ho
      clear ho
      have hr := hq
      have g20 := slot_in hA 20 (by decide) (by decide) (hv (15, 20, (.agg #[.int .i64 p2, .int .i64 q2, .int .i64 r2, .int .i64 t2])) (by simp) (ha 15 (by simp [aftersOf, Region.binds])))
      have g17 := slot_in hA 17 (by decide) (by decide) (hv (12, 17, (.bool false)) (by simp) (ha 12 (by simp [aftersOf, Region.binds])))
      have gg20 := slot_get g20
      have gg17 := slot_get g17
      have gw := slot_bool g17
      rw [if_pos (by simp [Region.wanted, yielded, gw])]
      clear gw
      clear hA
      go_simp
      refine (actionWrites_spec p2 q2 r2 t2 _).mono ?_
      rintro e w9 ⟨v9, rfl, ho9, hw9, hb9⟩
      have hs := ints_of_new (by have := writesM_len ⟨p2, q2, r2, t2⟩; omega) ho9 hw9
      exact hK v9 w9 ⟨hv.step 16 21 _ (by simp), hq.step 16 21 _ hb9 (by simp [hs])⟩
    · clear hi; intro o ho lz fz w' A hJ hli ha hA K hK
      obtain ⟨hv, hq⟩ := hJ
      obtain rfl := Option.some.inj ho
      clear ho
      have hr := hq
      obtain ⟨a19, c19, h19, r19⟩ := hr.2 (14, 19, Sta.ints (readsM ⟨p, q, r, t⟩)) (by simp) (ha 14 (by simp [aftersOf, Region.binds]))
      have g19 := slot_in hA 19 (by decide) (by decide) h19
      obtain ⟨a21, c21, h21, r21⟩ := hr.2 (16, 21, Sta.ints (writesM ⟨p2, q2, r2, t2⟩)) (by simp) (ha 16 (by simp [aftersOf, Region.binds]))
      have g21 := slot_in hA 21 (by decide) (by decide) h21
      have g17 := slot_in hA 17 (by decide) (by decide) (hv (12, 17, (.bool false)) (by simp) (ha 12 (by simp [aftersOf, Region.binds])))
      have gg19 := slot_get g19
      have gg21 := slot_get g21
      have gg17 := slot_get g17
      have gw := slot_bool g17
      rw [if_pos (by simp [Region.wanted, yielded, gw])]
      clear gw
      clear hA
      go_simp
      refine (l8Common_spec _ _ _ _ _ _ _ _ w' r19 r21).mono ?_
      rintro e w9 ⟨rfl, hb9⟩
      rw [H3.out]
      exact hK (.bool true) w9 ⟨hv.step 17 22 _ (by simp), hq.step 17 22 _ hb9 (by simp)⟩
    · clear hi; intro o ho lz fz w' A hJ hli ha hA K hK
      obtain ⟨hv, hq⟩ := hJ
      obtain rfl := Option.some.inj ho
      clear ho
      have hr := hq
      have g17 := slot_in hA 17 (by decide) (by decide) (hv (12, 17, (.bool false)) (by simp) (ha 12 (by simp [aftersOf, Region.binds])))
      have g22 := slot_in hA 22 (by decide) (by decide) (hv (17, 22, (.bool true)) (by simp) (ha 17 (by simp [aftersOf, Region.binds])))
      have gg17 := slot_get g17
      have gg22 := slot_get g22
      rw [if_pos (by rfl)]
      have hF := hK (.bool true) w' ⟨hv.step 18 23 _ (by simp), hq.step 18 23 _ (Below.refl _ _) (by simp)⟩
      clear hv hq hr ha hK hA hli
      go_simp
      exact hF
    · clear hi; intro o ho lz fz w' A hJ hli ha hA K hK
      obtain ⟨hv, hq⟩ := hJ
      obtain rfl := Option.some.inj ho
      clear ho
      have hr := hq
      have g23 := slot_in hA 23 (by decide) (by decide) (hv (18, 23, (.bool true)) (by simp) (ha 18 (by simp [aftersOf, Region.binds])))
      have gg23 := slot_get g23
      rw [if_pos (by rfl)]
      have hF := hK (.bool true) w' ⟨hv.step 19 4 _ (by simp), hq.step 19 4 _ (Below.refl _ _) (by simp)⟩
      clear hv hq hr ha hK hA hli
      go_simp
      exact hF
  · intro lz fz w' hall hJ
    obtain ⟨hv, hq⟩ := hJ
    have h4 : fz 4 = (.bool true) := hv (19, 4, (.bool true)) (by simp) (hall 19 (by decide))
    have hbR := hq.1
    clear hv hq hall
    simp only [mixF, List.contains_cons, List.contains_nil]
    go_simp
    go_wp2
    go_ret
    exact ⟨rfl, HBB.out.trans (hbR.mono HBB.out.size)⟩
set_option maxRecDepth 100000 in
set_option maxHeartbeats 8000000 in
theorem conflict_spec3 (p q r t p2 q2 r2 t2 : Int) (w : World) (H1 : Hid (commonM (writesM ⟨p, q, r, t⟩) (writesM ⟨p2, q2, r2, t2⟩) = false)) (H2 : Hid (commonM (writesM ⟨p, q, r, t⟩) (readsM ⟨p2, q2, r2, t2⟩) = false)) (H3 : Hid (commonM (readsM ⟨p, q, r, t⟩) (writesM ⟨p2, q2, r2, t2⟩) = false)) :
    Calls Try.prog 16 #[.agg #[.int .i64 p, .int .i64 q, .int .i64 r, .int .i64 t], .agg #[.int .i64 p2, .int .i64 q2, .int .i64 r2, .int .i64 t2]] w (BoolS false w) := by
  have HA0 := Lib.hid ((boxA_new w p q r t 24).alloc (.cells #[.int .i64 p2, .int .i64 q2, .int .i64 r2, .int .i64 t2] 24))
  have HB0 := Lib.hid (boxA_new (w.alloc (.cells #[.int .i64 p, .int .i64 q, .int .i64 r, .int .i64 t] 24)) p2 q2 r2 t2 24)
  have HBB := Lib.hid (((Below.refl w.heap.size w).alloc (Nat.le_refl _) (.cells #[.int .i64 p, .int .i64 q, .int .i64 r, .int .i64 t] 24)).alloc (by simp) (.cells #[.int .i64 p2, .int .i64 q2, .int .i64 r2, .int .i64 t2] 24))
  go_enter Try.func16, Try.ntmps16
  go_wp2
  generalize hw5 : World.alloc _ _ = w5 at HA0 HB0 HBB
  have HA : Hid (BoxA w5 w.heap.size p q r t) := HA0
  have HB : Hid (BoxA w5 (w.heap.size + 1) p2 q2 r2 t2) := by simpa using HB0
  clear HA0 HB0 hw5
  refine wp_region_light (by kernel_rfl) (fun lz fz wz => Vals [(0, 5, (.agg #[.int .i64 p, .int .i64 q, .int .i64 r, .int .i64 t])), (2, 7, (.agg #[.int .i64 p2, .int .i64 q2, .int .i64 r2, .int .i64 t2])), (4, 9, (.bool false)), (5, 10, (.bool false)), (6, 11, (.agg #[.int .i64 p, .int .i64 q, .int .i64 r, .int .i64 t])), (8, 13, (.agg #[.int .i64 p2, .int .i64 q2, .int .i64 r2, .int .i64 t2])), (10, 15, (.bool false)), (11, 16, (.bool false)), (12, 17, (.bool false)), (13, 18, (.agg #[.int .i64 p, .int .i64 q, .int .i64 r, .int .i64 t])), (15, 20, (.agg #[.int .i64 p2, .int .i64 q2, .int .i64 r2, .int .i64 t2])), (17, 22, (.bool false)), (18, 23, (.bool false)), (19, 4, (.bool false))] lz fz ∧ Facts w5 [(1, 6, Sta.ints (writesM ⟨p, q, r, t⟩)), (3, 8, Sta.ints (writesM ⟨p2, q2, r2, t2⟩)), (7, 12, Sta.ints (writesM ⟨p, q, r, t⟩)), (9, 14, Sta.ints (readsM ⟨p2, q2, r2, t2⟩)), (14, 19, Sta.ints (readsM ⟨p, q, r, t⟩)), (16, 21, Sta.ints (writesM ⟨p2, q2, r2, t2⟩))] lz fz wz) 24 rfl [5, 6, 7, 8, 9, 10, 11, 12, 13, 14, 15, 16, 17, 18, 19, 20, 21, 22, 23, 4] (by kernel_rfl) (by kernel_rfl) (by kernel_rfl) (fun f => ⟨Vals.nothing _ f, Facts.nothing _ _ f⟩) ?_ ?_
  · intro i hi
    rcases (by have : i < 20 := hi; omega : i = 0 ∨ i = 1 ∨ i = 2 ∨ i = 3 ∨ i = 4 ∨ i = 5 ∨ i = 6 ∨ i = 7 ∨ i = 8 ∨ i = 9 ∨ i = 10 ∨ i = 11 ∨ i = 12 ∨ i = 13 ∨ i = 14 ∨ i = 15 ∨ i = 16 ∨ i = 17 ∨ i = 18 ∨ i = 19) with rfl | rfl | rfl | rfl | rfl | rfl | rfl | rfl | rfl | rfl | rfl | rfl | rfl | rfl | rfl | rfl | rfl | rfl | rfl | rfl
    · clear hi; intro o ho lz fz w' A hJ hli ha hA K hK
      obtain ⟨hv, hq⟩ := hJ
      obtain rfl := Option.some.inj ho
      clear ho
      have hr := hq
      have g2 := slot_out hA 2 _ (by decide) (by decide) rfl
      simp only [List.getD_cons_succ, List.getD_cons_zero] at g2
      have gg2 := slot_get g2
      rw [if_pos (by rfl)]
      obtain ⟨k0, k1, k2, k3⟩ := HA.out.below hr.1
      have hF := hK (.agg #[.int .i64 p, .int .i64 q, .int .i64 r, .int .i64 t]) w' ⟨hv.step 0 5 _ (by simp), hq.step 0 5 _ (Below.refl _ _) (by simp)⟩
      clear hv hq hr ha hK hA hli
      go_simp
      exact hF
    · clear hi; intro o ho lz fz w' A hJ hli ha hA K hK
      obtain ⟨hv, hq⟩ := hJ
      obtain rfl := Option.some.inj ho
      clear ho
      have hr := hq
      have g5 := slot_in hA 5 (by decide) (by decide) (hv (0, 5, (.agg #[.int .i64 p, .int .i64 q, .int .i64 r, .int .i64 t])) (by simp) (ha 0 (by simp [aftersOf, Region.binds])))
      have gg5 := slot_get g5
      rw [if_pos (by rfl)]
      clear hA
      go_simp
      refine (actionWrites_spec p q r t _).mono ?_
      rintro e w9 ⟨v9, rfl, ho9, hw9, hb9⟩
      have hs := ints_of_new (by have := writesM_len ⟨p, q, r, t⟩; omega) ho9 hw9
      exact hK v9 w9 ⟨hv.step 1 6 _ (by simp), hq.step 1 6 _ hb9 (by simp [hs])⟩
    · clear hi; intro o ho lz fz w' A hJ hli ha hA K hK
      obtain ⟨hv, hq⟩ := hJ
      obtain rfl := Option.some.inj ho
      clear ho
      have hr := hq
      have g3 := slot_out hA 3 _ (by decide) (by decide) rfl
      simp only [List.getD_cons_succ, List.getD_cons_zero] at g3
      have gg3 := slot_get g3
      rw [if_pos (by rfl)]
      obtain ⟨k0, k1, k2, k3⟩ := HB.out.below hr.1
      have hF := hK (.agg #[.int .i64 p2, .int .i64 q2, .int .i64 r2, .int .i64 t2]) w' ⟨hv.step 2 7 _ (by simp), hq.step 2 7 _ (Below.refl _ _) (by simp)⟩
      clear hv hq hr ha hK hA hli
      go_simp
      exact hF
    · clear hi; intro o ho lz fz w' A hJ hli ha hA K hK
      obtain ⟨hv, hq⟩ := hJ
      obtain rfl := Option.some.inj ho
      clear ho
      have hr := hq
      have g7 := slot_in hA 7 (by decide) (by decide) (hv (2, 7, (.agg #[.int .i64 p2, .int .i64 q2, .int .i64 r2, .int .i64 t2])) (by simp) (ha 2 (by simp [aftersOf, Region.binds])))
      have gg7 := slot_get g7
      rw [if_pos (by rfl)]
      clear hA
      go_simp
      refine (actionWrites_spec p2 q2 r2 t2 _).mono ?_
      rintro e w9 ⟨v9, rfl, ho9, hw9, hb9⟩
      have hs := ints_of_new (by have := writesM_len ⟨p2, q2, r2, t2⟩; omega) ho9 hw9
      exact hK v9 w9 ⟨hv.step 3 8 _ (by simp), hq.step 3 8 _ hb9 (by simp [hs])⟩
    · clear hi; intro o ho lz fz w' A hJ hli ha hA K hK
      obtain ⟨hv, hq⟩ := hJ
      obtain rfl := Option.some.inj ho
      clear ho
      have hr := hq
      obtain ⟨a6, c6, h6, r6⟩ := hr.2 (1, 6, Sta.ints (writesM ⟨p, q, r, t⟩)) (by simp) (ha 1 (by simp [aftersOf, Region.binds]))
      have g6 := slot_in hA 6 (by decide) (by decide) h6
      obtain ⟨a8, c8, h8, r8⟩ := hr.2 (3, 8, Sta.ints (writesM ⟨p2, q2, r2, t2⟩)) (by simp) (ha 3 (by simp [aftersOf, Region.binds]))
      have g8 := slot_in hA 8 (by decide) (by decide) h8
      have gg6 := slot_get g6
      have gg8 := slot_get g8
      rw [if_pos (by rfl)]
      clear hA
      go_simp
      refine (l8Common_spec _ _ _ _ _ _ _ _ w' r6 r8).mono ?_
      rintro e w9 ⟨rfl, hb9⟩
      rw [H1.out]
      exact hK (.bool false) w9 ⟨hv.step 4 9 _ (by simp), hq.step 4 9 _ hb9 (by simp)⟩
    · clear hi; intro o ho lz fz w' A hJ hli ha hA K hK
      obtain ⟨hv, hq⟩ := hJ
      obtain rfl := Option.some.inj ho
      clear ho
      have hr := hq
      have g9 := slot_in hA 9 (by decide) (by decide) (hv (4, 9, (.bool false)) (by simp) (ha 4 (by simp [aftersOf, Region.binds])))
      have gg9 := slot_get g9
      rw [if_pos (by rfl)]
      have hF := hK (.bool false) w' ⟨hv.step 5 10 _ (by simp), hq.step 5 10 _ (Below.refl _ _) (by simp)⟩
      clear hv hq hr ha hK hA hli
      go_simp
      exact hF
    · clear hi; intro o ho lz fz w' A hJ hli ha hA K hK
      obtain ⟨hv, hq⟩ := hJ
      obtain rfl := Option.some.inj ho
      clear ho
      have hr := hq
      have g2 := slot_out hA 2 _ (by decide) (by decide) rfl
      simp only [List.getD_cons_succ, List.getD_cons_zero] at g2
      have g10 := slot_in hA 10 (by decide) (by decide) (hv (5, 10, (.bool false)) (by simp) (ha 5 (by simp [aftersOf, Region.binds])))
      have gg2 := slot_get g2
      have gg10 := slot_get g10
      have gw := slot_bool g10
      rw [if_pos (by simp [Region.wanted, yielded, gw])]
      clear gw
      obtain ⟨k0, k1, k2, k3⟩ := HA.out.below hr.1
      have hF := hK (.agg #[.int .i64 p, .int .i64 q, .int .i64 r, .int .i64 t]) w' ⟨hv.step 6 11 _ (by simp), hq.step 6 11 _ (Below.refl _ _) (by simp)⟩
      clear hv hq hr ha hK hA hli
      go_simp
      exact hF
    · clear hi; intro o ho lz fz w' A hJ hli ha hA K hK
      obtain ⟨hv, hq⟩ := hJ
      obtain rfl := Option.some.inj ho
      clear ho
      have hr := hq
      have g11 := slot_in hA 11 (by decide) (by decide) (hv (6, 11, (.agg #[.int .i64 p, .int .i64 q, .int .i64 r, .int .i64 t])) (by simp) (ha 6 (by simp [aftersOf, Region.binds])))
      have g10 := slot_in hA 10 (by decide) (by decide) (hv (5, 10, (.bool false)) (by simp) (ha 5 (by simp [aftersOf, Region.binds])))
      have gg11 := slot_get g11
      have gg10 := slot_get g10
      have gw := slot_bool g10
      rw [if_pos (by simp [Region.wanted, yielded, gw])]
      clear gw
      clear hA
      go_simp
      refine (actionWrites_spec p q r t _).mono ?_
      rintro e w9 ⟨v9, rfl, ho9, hw9, hb9⟩
      have hs := ints_of_new (by have := writesM_len ⟨p, q, r, t⟩; omega) ho9 hw9
      exact hK v9 w9 ⟨hv.step 7 12 _ (by simp), hq.step 7 12 _ hb9 (by simp [hs])⟩
    · clear hi; intro o ho lz fz w' A hJ hli ha hA K hK
      obtain ⟨hv, hq⟩ := hJ
      obtain rfl := Option.some.inj ho
      clear ho
      have hr := hq
      have g3 := slot_out hA 3 _ (by decide) (by decide) rfl
      simp only [List.getD_cons_succ, List.getD_cons_zero] at g3
      have g10 := slot_in hA 10 (by decide) (by decide) (hv (5, 10, (.bool false)) (by simp) (ha 5 (by simp [aftersOf, Region.binds])))
      have gg3 := slot_get g3
      have gg10 := slot_get g10
      have gw := slot_bool g10
      rw [if_pos (by simp [Region.wanted, yielded, gw])]
      clear gw
      obtain ⟨k0, k1, k2, k3⟩ := HB.out.below hr.1
      have hF := hK (.agg #[.int .i64 p2, .int .i64 q2, .int .i64 r2, .int .i64 t2]) w' ⟨hv.step 8 13 _ (by simp), hq.step 8 13 _ (Below.refl _ _) (by simp)⟩
      clear hv hq hr ha hK hA hli
      go_simp
      exact hF
    · clear hi; intro o ho lz fz w' A hJ hli ha hA K hK
      obtain ⟨hv, hq⟩ := hJ
      obtain rfl := Option.some.inj ho
      clear ho
      have hr := hq
      have g13 := slot_in hA 13 (by decide) (by decide) (hv (8, 13, (.agg #[.int .i64 p2, .int .i64 q2, .int .i64 r2, .int .i64 t2])) (by simp) (ha 8 (by simp [aftersOf, Region.binds])))
      have g10 := slot_in hA 10 (by decide) (by decide) (hv (5, 10, (.bool false)) (by simp) (ha 5 (by simp [aftersOf, Region.binds])))
      have gg13 := slot_get g13
      have gg10 := slot_get g10
      have gw := slot_bool g10
      rw [if_pos (by simp [Region.wanted, yielded, gw])]
      clear gw
      clear hA
      go_simp
      refine (actionReads_spec p2 q2 r2 t2 _).mono ?_
      rintro e w9 ⟨v9, rfl, ho9, hw9, hb9⟩
      have hs := ints_of_new (by have := readsM_len ⟨p2, q2, r2, t2⟩; omega) ho9 hw9
      exact hK v9 w9 ⟨hv.step 9 14 _ (by simp), hq.step 9 14 _ hb9 (by simp [hs])⟩
    · clear hi; intro o ho lz fz w' A hJ hli ha hA K hK
      obtain ⟨hv, hq⟩ := hJ
      obtain rfl := Option.some.inj ho
      clear ho
      have hr := hq
      obtain ⟨a12, c12, h12, r12⟩ := hr.2 (7, 12, Sta.ints (writesM ⟨p, q, r, t⟩)) (by simp) (ha 7 (by simp [aftersOf, Region.binds]))
      have g12 := slot_in hA 12 (by decide) (by decide) h12
      obtain ⟨a14, c14, h14, r14⟩ := hr.2 (9, 14, Sta.ints (readsM ⟨p2, q2, r2, t2⟩)) (by simp) (ha 9 (by simp [aftersOf, Region.binds]))
      have g14 := slot_in hA 14 (by decide) (by decide) h14
      have g10 := slot_in hA 10 (by decide) (by decide) (hv (5, 10, (.bool false)) (by simp) (ha 5 (by simp [aftersOf, Region.binds])))
      have gg12 := slot_get g12
      have gg14 := slot_get g14
      have gg10 := slot_get g10
      have gw := slot_bool g10
      rw [if_pos (by simp [Region.wanted, yielded, gw])]
      clear gw
      clear hA
      go_simp
      refine (l8Common_spec _ _ _ _ _ _ _ _ w' r12 r14).mono ?_
      rintro e w9 ⟨rfl, hb9⟩
      rw [H2.out]
      exact hK (.bool false) w9 ⟨hv.step 10 15 _ (by simp), hq.step 10 15 _ hb9 (by simp)⟩
    · clear hi; intro o ho lz fz w' A hJ hli ha hA K hK
      obtain ⟨hv, hq⟩ := hJ
      obtain rfl := Option.some.inj ho
      clear ho
      have hr := hq
      have g10 := slot_in hA 10 (by decide) (by decide) (hv (5, 10, (.bool false)) (by simp) (ha 5 (by simp [aftersOf, Region.binds])))
      have g15 := slot_in hA 15 (by decide) (by decide) (hv (10, 15, (.bool false)) (by simp) (ha 10 (by simp [aftersOf, Region.binds])))
      have gg10 := slot_get g10
      have gg15 := slot_get g15
      rw [if_pos (by rfl)]
      have hF := hK (.bool false) w' ⟨hv.step 11 16 _ (by simp), hq.step 11 16 _ (Below.refl _ _) (by simp)⟩
      clear hv hq hr ha hK hA hli
      go_simp
      exact hF
    · clear hi; intro o ho lz fz w' A hJ hli ha hA K hK
      obtain ⟨hv, hq⟩ := hJ
      obtain rfl := Option.some.inj ho
      clear ho
      have hr := hq
      have g16 := slot_in hA 16 (by decide) (by decide) (hv (11, 16, (.bool false)) (by simp) (ha 11 (by simp [aftersOf, Region.binds])))
      have gg16 := slot_get g16
      rw [if_pos (by rfl)]
      have hF := hK (.bool false) w' ⟨hv.step 12 17 _ (by simp), hq.step 12 17 _ (Below.refl _ _) (by simp)⟩
      clear hv hq hr ha hK hA hli
      go_simp
      exact hF
    · clear hi; intro o ho lz fz w' A hJ hli ha hA K hK
      obtain ⟨hv, hq⟩ := hJ
      obtain rfl := Option.some.inj ho
      clear ho
      have hr := hq
      have g2 := slot_out hA 2 _ (by decide) (by decide) rfl
      simp only [List.getD_cons_succ, List.getD_cons_zero] at g2
      have g17 := slot_in hA 17 (by decide) (by decide) (hv (12, 17, (.bool false)) (by simp) (ha 12 (by simp [aftersOf, Region.binds])))
      have gg2 := slot_get g2
      have gg17 := slot_get g17
      have gw := slot_bool g17
      rw [if_pos (by simp [Region.wanted, yielded, gw])]
      clear gw
      obtain ⟨k0, k1, k2, k3⟩ := HA.out.below hr.1
      have hF := hK (.agg #[.int .i64 p, .int .i64 q, .int .i64 r, .int .i64 t]) w' ⟨hv.step 13 18 _ (by simp), hq.step 13 18 _ (Below.refl _ _) (by simp)⟩
      clear hv hq hr ha hK hA hli
      go_simp
      exact hF
    · clear hi; intro o ho lz fz w' A hJ hli ha hA K hK
      obtain ⟨hv, hq⟩ := hJ
      obtain rfl := Option.some.inj ho
      clear ho
      have hr := hq
      have g18 := slot_in hA 18 (by decide) (by decide) (hv (13, 18, (.agg #[.int .i64 p, .int .i64 q, .int .i64 r, .int .i64 t])) (by simp) (ha 13 (by simp [aftersOf, Region.binds])))
      have g17 := slot_in hA 17 (by decide) (by decide) (hv (12, 17, (.bool false)) (by simp) (ha 12 (by simp [aftersOf, Region.binds])))
      have gg18 := slot_get g18
      have gg17 := slot_get g17
      have gw := slot_bool g17
      rw [if_pos (by simp [Region.wanted, yielded, gw])]
      clear gw
      clear hA
      go_simp
      refine (actionReads_spec p q r t _).mono ?_
      rintro e w9 ⟨v9, rfl, ho9, hw9, hb9⟩
      have hs := ints_of_new (by have := readsM_len ⟨p, q, r, t⟩; omega) ho9 hw9
      exact hK v9 w9 ⟨hv.step 14 19 _ (by simp), hq.step 14 19 _ hb9 (by simp [hs])⟩
    · clear hi; intro o ho lz fz w' A hJ hli ha hA K hK
      obtain ⟨hv, hq⟩ := hJ
      obtain rfl := Option.some.inj ho
      clear ho
      have hr := hq
      have g3 := slot_out hA 3 _ (by decide) (by decide) rfl
      simp only [List.getD_cons_succ, List.getD_cons_zero] at g3
      have g17 := slot_in hA 17 (by decide) (by decide) (hv (12, 17, (.bool false)) (by simp) (ha 12 (by simp [aftersOf, Region.binds])))
      have gg3 := slot_get g3
      have gg17 := slot_get g17
      have gw := slot_bool g17
      rw [if_pos (by simp [Region.wanted, yielded, gw])]
      clear gw
      obtain ⟨k0, k1, k2, k3⟩ := HB.out.below hr.1
      have hF := hK (.agg #[.int .i64 p2, .int .i64 q2, .int .i64 r2, .int .i64 t2]) w' ⟨hv.step 15 20 _ (by simp), hq.step 15 20 _ (Below.refl _ _) (by simp)⟩
      clear hv hq hr ha hK hA hli
      go_simp
      exact hF
    · clear hi; intro o ho lz fz w' A hJ hli ha hA K hK
      obtain ⟨hv, hq⟩ := hJ
      obtain rfl := Option.some.inj ho
      clear ho
      have hr := hq
      have g20 := slot_in hA 20 (by decide) (by decide) (hv (15, 20, (.agg #[.int .i64 p2, .int .i64 q2, .int .i64 r2, .int .i64 t2])) (by simp) (ha 15 (by simp [aftersOf, Region.binds])))
      have g17 := slot_in hA 17 (by decide) (by decide) (hv (12, 17, (.bool false)) (by simp) (ha 12 (by simp [aftersOf, Region.binds])))
      have gg20 := slot_get g20
      have gg17 := slot_get g17
      have gw := slot_bool g17
      rw [if_pos (by simp [Region.wanted, yielded, gw])]
      clear gw
      clear hA
      go_simp
      refine (actionWrites_spec p2 q2 r2 t2 _).mono ?_
      rintro e w9 ⟨v9, rfl, ho9, hw9, hb9⟩
      have hs := ints_of_new (by have := writesM_len ⟨p2, q2, r2, t2⟩; omega) ho9 hw9
      exact hK v9 w9 ⟨hv.step 16 21 _ (by simp), hq.step 16 21 _ hb9 (by simp [hs])⟩
    · clear hi; intro o ho lz fz w' A hJ hli ha hA K hK
      obtain ⟨hv, hq⟩ := hJ
      obtain rfl := Option.some.inj ho
      clear ho
      have hr := hq
      obtain ⟨a19, c19, h19, r19⟩ := hr.2 (14, 19, Sta.ints (readsM ⟨p, q, r, t⟩)) (by simp) (ha 14 (by simp [aftersOf, Region.binds]))
      have g19 := slot_in hA 19 (by decide) (by decide) h19
      obtain ⟨a21, c21, h21, r21⟩ := hr.2 (16, 21, Sta.ints (writesM ⟨p2, q2, r2, t2⟩)) (by simp) (ha 16 (by simp [aftersOf, Region.binds]))
      have g21 := slot_in hA 21 (by decide) (by decide) h21
      have g17 := slot_in hA 17 (by decide) (by decide) (hv (12, 17, (.bool false)) (by simp) (ha 12 (by simp [aftersOf, Region.binds])))
      have gg19 := slot_get g19
      have gg21 := slot_get g21
      have gg17 := slot_get g17
      have gw := slot_bool g17
      rw [if_pos (by simp [Region.wanted, yielded, gw])]
      clear gw
      clear hA
      go_simp
      refine (l8Common_spec _ _ _ _ _ _ _ _ w' r19 r21).mono ?_
      rintro e w9 ⟨rfl, hb9⟩
      rw [H3.out]
      exact hK (.bool false) w9 ⟨hv.step 17 22 _ (by simp), hq.step 17 22 _ hb9 (by simp)⟩
    · clear hi; intro o ho lz fz w' A hJ hli ha hA K hK
      obtain ⟨hv, hq⟩ := hJ
      obtain rfl := Option.some.inj ho
      clear ho
      have hr := hq
      have g17 := slot_in hA 17 (by decide) (by decide) (hv (12, 17, (.bool false)) (by simp) (ha 12 (by simp [aftersOf, Region.binds])))
      have g22 := slot_in hA 22 (by decide) (by decide) (hv (17, 22, (.bool false)) (by simp) (ha 17 (by simp [aftersOf, Region.binds])))
      have gg17 := slot_get g17
      have gg22 := slot_get g22
      rw [if_pos (by rfl)]
      have hF := hK (.bool false) w' ⟨hv.step 18 23 _ (by simp), hq.step 18 23 _ (Below.refl _ _) (by simp)⟩
      clear hv hq hr ha hK hA hli
      go_simp
      exact hF
    · clear hi; intro o ho lz fz w' A hJ hli ha hA K hK
      obtain ⟨hv, hq⟩ := hJ
      obtain rfl := Option.some.inj ho
      clear ho
      have hr := hq
      have g23 := slot_in hA 23 (by decide) (by decide) (hv (18, 23, (.bool false)) (by simp) (ha 18 (by simp [aftersOf, Region.binds])))
      have gg23 := slot_get g23
      rw [if_pos (by rfl)]
      have hF := hK (.bool false) w' ⟨hv.step 19 4 _ (by simp), hq.step 19 4 _ (Below.refl _ _) (by simp)⟩
      clear hv hq hr ha hK hA hli
      go_simp
      exact hF
  · intro lz fz w' hall hJ
    obtain ⟨hv, hq⟩ := hJ
    have h4 : fz 4 = (.bool false) := hv (19, 4, (.bool false)) (by simp) (hall 19 (by decide))
    have hbR := hq.1
    clear hv hq hall
    simp only [mixF, List.contains_cons, List.contains_nil]
    go_simp
    go_wp2
    go_ret
    exact ⟨rfl, HBB.out.trans (hbR.mono HBB.out.size)⟩
theorem conflict_spec (p q r t p2 q2 r2 t2 : Int) (w : World) :
    Calls Try.prog 16 #[.agg #[.int .i64 p, .int .i64 q, .int .i64 r, .int .i64 t], .agg #[.int .i64 p2, .int .i64 q2, .int .i64 r2, .int .i64 t2]] w (BoolS (confM ⟨p, q, r, t⟩ ⟨p2, q2, r2, t2⟩) w) := by
  unfold confM
  cases h1 : commonM (writesM ⟨p, q, r, t⟩) (writesM ⟨p2, q2, r2, t2⟩) with
  | true => exact conflict_spec0 p q r t p2 q2 r2 t2 w (Lib.hid h1)
  | false =>
    cases h2 : commonM (writesM ⟨p, q, r, t⟩) (readsM ⟨p2, q2, r2, t2⟩) with
    | true => exact conflict_spec1 p q r t p2 q2 r2 t2 w (Lib.hid h1) (Lib.hid h2)
    | false =>
      cases h3 : commonM (readsM ⟨p, q, r, t⟩) (writesM ⟨p2, q2, r2, t2⟩) with
      | true => exact conflict_spec2 p q r t p2 q2 r2 t2 w (Lib.hid h1) (Lib.hid h2) (Lib.hid h3)
      | false => exact conflict_spec3 p q r t p2 q2 r2 t2 w (Lib.hid h1) (Lib.hid h2) (Lib.hid h3)
end Go.Proofs.Ytfhbolpchmdaoaa
/- The contract of the model's LevelsOf. -/
namespace Go.Proofs.Ytfhbolpchmdaoaa
open Go.RowKit
set_option linter.unusedVariables false
set_option linter.unusedSimpArgs false
theorem levN_wf (L : List Acn) (n : Nat) (hn : n ≤ 10) : ∀ x ∈ levN L n, (Lit.int .i64 x).wf = true := by
  intro x hx
  obtain ⟨i, hi, rfl⟩ := mem_getDI hx
  rw [levN_len] at hi
  have := levN_bd L n i hi
  exact WalkArith.wf_i64 (by omega)
/-- The cells of an action in a row. -/
theorem RowA.cells {w : World} {b off n : Nat} {L : List Acn} (h : RowA w (some ⟨b, off, none⟩) n L) {i : Nat} (hi : i < n) : w.cell? ⟨b, off + i * 4, none⟩ = some (.int .i64 (L.getD i noA).kind) ∧ w.cell? ⟨b, off + i * 4 + 1, none⟩ = some (.int .i64 (L.getD i noA).src) ∧
    w.cell? ⟨b, off + i * 4 + 2, none⟩ = some (.int .i64 (L.getD i noA).dst) ∧ w.cell? ⟨b, off + i * 4 + 3, none⟩ = some (.int .i64 (L.getD i noA).amt) := by
  obtain ⟨b', off', he, hc⟩ := h.2.2.1 (by omega)
  obtain ⟨rfl, rfl⟩ : b = b' ∧ off = off' := by simpa using he
  exact hc i hi
set_option maxHeartbeats 4000000 in
theorem levelsOf_spec (a : Option Addr) (n cap : Nat) (L : List Acn) (w : World) (h : RowA w a n L) :
    Calls Try.prog 25 #[.slice a n cap] w (NewL w 3 (levelsM L)) := by
  have hnil : Own (w.alloc (.cells #[] 3)) w.heap.size 3 1 (.slice (some ⟨w.heap.size, 0, none⟩) 0 0) 0 [] := own_lit 3 1 #[] 0 (Nat.le_refl _) (by simp) rfl
  have hb0 := (Below.refl w.heap.size w).alloc (Nat.le_refl _) (.cells #[] 3)
  have HW := Lib.hid h
  have HN := Lib.hid h.1
  have hm := h.2.1
  unfold maxLen at hm
  cases hA : actsB L with
  | false =>
    have HP := Lib.hid (levelsM_no hA)
    have h0 : 0 < n := by
      rcases Nat.eq_zero_or_pos n with e | e
      · have : L = [] := List.eq_nil_of_length_eq_zero (by rw [HN.out]; exact e)
        rw [this] at hA; cases hA
      · exact e
    clear h
    go_enter Try.func25, Try.ntmps25
    go_wp2
    go_loopw [3, 4] (fun v i wr => v = .slice (some ⟨w.heap.size, 0, none⟩) 0 0 ∧ i = .int .i64 0 ∧ Own wr w.heap.size 3 1 (.slice (some ⟨w.heap.size, 0, none⟩) 0 0) 0 [] ∧ Below w.heap.size w wr) (fun _ _ _ => 0)
    case atStart => exact ⟨rfl, rfl, hnil, hb0⟩
    case round =>
      clear hnil hb0
      obtain ⟨rfl, rfl, hown, hb⟩ := hrel
      go_wp2_with fail
      refine (actionsValid_spec a n cap L _ (HW.out.below hb)).mono ?_; rintro e w1 ⟨rfl, hb1⟩
      rw [hA]
      have HO := Lib.hid (hown.below hb1)
      have HB := Lib.hid (hb.trans (hb1.mono hb.size))
      clear hown hb hb1 hA
      go_wp2
      go_ret
      exact ⟨_, rfl, by rw [HP.out]; exact HO.out, (by rw [HP.out]; intro x hx; cases hx), HB.out⟩
  | true =>
    have hn10 : n ≤ 10 := by have := (actsB_true hA).1; rw [← HN.out]; exact this
    have HP : Hid (levelsM L = levN L n) := Lib.hid (by rw [levelsM, if_pos hA, HN.out])
    have HWF := Lib.hid (levN_wf L n hn10)
    have HAS := Lib.hid hA
    clear hA h hm
    by_cases h0 : 0 < n
    · obtain ⟨b, off, rfl, -⟩ := HW.out.2.2.1 h0
      go_enter Try.func25, Try.ntmps25
      go_wp2
      go_loopw [3, 4] (fun v i wr => ∃ k : Nat, k ≤ n ∧ i = .int .i64 k ∧ Own wr w.heap.size 3 1 v k ((levN L k).map (Value.int .i64)) ∧ Below w.heap.size w wr) (fun _ i _ => n - (intOf i).toNat)
      case atStart => exact ⟨0, Nat.zero_le _, rfl, hnil, hb0⟩
      case round =>
        clear hnil hb0
        obtain ⟨k, hk, rfl, hown, hb⟩ := hrel
        by_cases hlt : k < n
        · go_wp2_with fail
          refine (actionsValid_spec _ n cap L _ (HW.out.below hb)).mono ?_; rintro e w1 ⟨rfl, hb1⟩
          rw [HAS.out]
          have ho1 := hown.below hb1
          have hb1' := hb.trans (hb1.mono hb.size)
          clear hown hb hb1
          obtain ⟨g, c, hv, hBg, hgl⟩ := ho1.slice
          subst hv
          obtain ⟨a', c', he, hri⟩ := rowI_of_owns ho1.1 (by unfold maxLen; omega) (levN_wf L k (by omega))
          simp only [Value.slice.injEq] at he
          obtain ⟨rfl, -, rfl⟩ := he
          have HRI := Lib.hid hri
          have HO1 := Lib.hid ho1
          have HB1 := Lib.hid hb1'
          clear hri ho1 hb1'
          go_wp2
          go_loopw [5, 6] (fun v i wr => ∃ j : Nat, j ≤ k ∧ i = .int .i64 j ∧ v = .int .i64 (maxLv L (levN L k) k j) ∧ Below w1.heap.size w1 wr) (fun _ i _ => k - (intOf i).toNat)
          case atStart => exact ⟨0, Nat.zero_le _, rfl, rfl, Below.refl _ _⟩
          case round =>
            obtain ⟨j, hj, rfl, rfl, hb2⟩ := hrel
            have hM := maxLv_bd L (levN L k) k j (fun i hi => levN_bd L k i (by omega))
            by_cases hjt : j < k
            · have hjn : j < n := by omega
              have hbw := HB1.out.trans (hb2.mono HB1.out.size)
              obtain ⟨c0, c1, c2, c3⟩ := (HW.out.below hbw).cells hjn
              obtain ⟨d0, d1, d2, d3⟩ := (HW.out.below hbw).cells hlt
              have hlv := (HRI.out.below hb2).2.2.1 (by omega)
              obtain ⟨g2, off2, he2, hcl⟩ := hlv
              obtain ⟨rfl, rfl⟩ : g = g2 ∧ 0 = off2 := by simpa using he2
              have hl0 := hcl j hjt
              rw [Nat.zero_add] at hl0
              have hLB := levN_bd L k j hjt
              have HNX : Hid (maxLv L (levN L k) k (j + 1) = if confM (L.getD j noA) (L.getD k noA) then max (maxLv L (levN L k) k j) ((levN L k).getD j 0 + 1) else maxLv L (levN L k) k j) := Lib.hid rfl
              obtain ⟨x, hx⟩ : ∃ x, x = L.getD j noA := ⟨_, rfl⟩
              obtain ⟨y, hy⟩ : ∃ y, y = L.getD k noA := ⟨_, rfl⟩
              obtain ⟨z, hz⟩ : ∃ z, z = maxLv L (levN L k) k j := ⟨_, rfl⟩
              obtain ⟨u, hu⟩ : ∃ u, u = (levN L k).getD j 0 := ⟨_, rfl⟩
              rw [← hx] at c0 c1 c2 c3 HNX
              rw [← hy] at d0 d1 d2 d3 HNX
              rw [← hz] at hM HNX
              rw [← hz]
              rw [← hu] at hl0 hLB HNX
              clear hx hy hz hu he2 hcl hbw
              obtain ⟨p, q, r, t⟩ := x
              obtain ⟨p2, q2, r2, t2⟩ := y
              simp only at c0 c1 c2 c3 d0 d1 d2 d3
              have hj0 : (0 : Int) ≤ (j : Int) := by omega
              have hj1 : (j : Int) < (n : Int) := by omega
              have hk0 : (0 : Int) ≤ (k : Int) := by omega
              have hk1 : (k : Int) < (n : Int) := by omega
              go_wp2
              have hgw : g < wr.heap.size := World.block_lt_of_cell? wr ⟨g, j, none⟩ hl0
              have HB2 := Lib.hid hb2
              clear hb2
              go_region_with (go_at_call 16; refine (conflict_spec p q r t p2 q2 r2 t2 _).mono ?_; rintro e w2 ⟨rfl, hb3⟩; have hbq := (Below.refl wr.heap.size wr).drew.trans hb3; have hl2 := (hbq.cell (p := ⟨g, j, none⟩) hgw).trans hl0; have HBQ := Lib.hid (HB2.out.trans (hbq.mono HB2.out.size)))
              all_goals
                clear hbq hb3 hl0
                cases hcf : confM ⟨p, q, r, t⟩ ⟨p2, q2, r2, t2⟩ with
                | true =>
                  rw [hcf, if_pos rfl, show max z (u + 1) = (if z < u + 1 then u + 1 else z) by split <;> omega] at HNX
                  clear hcf
                  go_wp2
                  go_roundw
                  case rel => exact ⟨j + 1, by omega, by go_num, by rw [HNX.out], HBQ.out⟩
                  case measure => simp [intOf]; omega
                | false =>
                  rw [hcf, if_neg (by simp)] at HNX
                  clear hcf
                  go_wp2
                  go_roundw
                  case rel => exact ⟨j + 1, by omega, by go_num, by rw [HNX.out], HBQ.out⟩
                  case measure => simp [intOf]; omega
            · obtain rfl : j = k := by omega
              have HX : Hid ((levN L (j + 1)).map (Value.int .i64) = (levN L j).map (Value.int .i64) ++ [.int .i64 (maxLv L (levN L j) j j)]) := Lib.hid (by rw [levN, List.map_append]; rfl)
              obtain ⟨z, hz⟩ : ∃ z, z = maxLv L (levN L j) j j := ⟨_, rfl⟩
              rw [← hz] at HX
              rw [← hz]
              have ho2 := HO1.out.below hb2
              have hb3 := HB1.out.trans (hb2.mono HB1.out.size)
              clear hM hz hb2
              go_wp2_with (at_builtin; refine wpList_append_one rfl _ _ 43 rfl w.heap.size 3 _ (.int .i64 0) 1 8 Try.underlying43 infoIntC rfl (by decide) _ _ _ [.int .i64 z] (by rfl) ho2 (by rfl) rfl ?c11 ?c21 (by decide) ?c31 ?_)
              case c11 => intro u hu; simp at hu; subst hu; rfl
              case c21 => omega
              case c31 => exact hb3.size
              intro v1 w3 ho1' hg1
              have hb4 : Below w.heap.size w w3 := (hb3.alloc hb3.size _).grown hg1 (by have := hb3.size; simp; omega) (fun k hk => (ho2.1.lt k hk).1)
              clear hg1 hb3 ho2
              go_wp2
              go_roundw
              case rel => exact ⟨j + 1, by omega, by go_num, by rw [HX.out]; exact ho1', hb4⟩
              case measure => simp [intOf]; omega
        · obtain rfl : k = n := by omega
          go_wp2
          go_ret
          exact ⟨_, rfl, by rw [HP.out, levN_len]; exact hown, by rw [HP.out]; exact HWF.out, hb⟩
    · obtain rfl : n = 0 := by omega
      have HP0 : Hid (levelsM L = []) := Lib.hid (by rw [HP.out]; rfl)
      go_enter Try.func25, Try.ntmps25
      go_wp2
      go_loopw [3, 4] (fun v i wr => v = .slice (some ⟨w.heap.size, 0, none⟩) 0 0 ∧ i = .int .i64 0 ∧ Own wr w.heap.size 3 1 (.slice (some ⟨w.heap.size, 0, none⟩) 0 0) 0 [] ∧ Below w.heap.size w wr) (fun _ _ _ => 0)
      case atStart => exact ⟨rfl, rfl, hnil, hb0⟩
      case round =>
        clear hnil hb0
        obtain ⟨rfl, rfl, hown, hb⟩ := hrel
        go_wp2
        go_ret
        exact ⟨_, rfl, by rw [HP0.out]; exact hown, (by rw [HP0.out]; intro x hx; cases hx), hb⟩
end Go.Proofs.Ytfhbolpchmdaoaa
/- The contract of the model's LevelOrder. -/
namespace Go.Proofs.Ytfhbolpchmdaoaa
open Go.RowKit
set_option linter.unusedVariables false
set_option linter.unusedSimpArgs false
theorem downF_len (V : List Int) (l : Int) : ∀ r, (downF V l r).length ≤ r := by
  intro r
  induction r with
  | zero => simp [downF]
  | succ r ih => rw [downF, List.length_append]; split <;> simp <;> omega
theorem upF_len (V : List Int) (hV : V.length ≤ 10) : ∀ t, (upF V t).length ≤ t * 10 := by
  intro t
  induction t with
  | zero => simp [upF]
  | succ t ih => rw [upF, List.length_append]; have := downF_len V t V.length; omega
theorem rowI_grown {w w' : World} {a : Option Addr} {n : Nat} {l : List Int} {row : Option Nat} (h : RowI w a n l) (hg : w.grownBy w' row) (hne : ∀ b o, a = some ⟨b, o, none⟩ → some b ≠ row) : RowI w' a n l := by
  obtain ⟨h1, h2, h3, h4⟩ := h
  refine ⟨h1, h2, fun hl => ?_, h4⟩
  obtain ⟨b, off, he, hc⟩ := h3 hl
  exact ⟨b, off, he, fun i hi => World.grownBy.cell hg (hc i hi) (hne b off he)⟩
/-- Under way: the numbers so far, and the levels apart from them. -/
def OrdAt (w : World) (B C : Nat) (aV : Option Addr) (n : Nat) (V : List Int) (wr : World) (v : Value) (X : List Int) : Prop :=
  Own wr B 3 1 v X.length (X.map (Value.int .i64)) ∧ RowI wr aV n V ∧ (∀ p, v.ownBlock = some p → p = B ∨ C ≤ p) ∧ C ≤ wr.heap.size ∧ Below B w wr
set_option maxHeartbeats 4000000 in
theorem levelOrder_spec (a : Option Addr) (n cap : Nat) (L : List Acn) (w : World) (h : RowA w a n L) :
    Calls Try.prog 37 #[.slice a n cap] w (NewL w 3 (lvOrdM (levelsM L))) := by
  have hl10 : (levelsM L).length ≤ 10 := by
    cases hL : actsB L with
    | false => rw [levelsM_no hL]; simp
    | true => rw [levelsM_len hL]; exact (actsB_true hL).1
  have hnil : Own (w.alloc (.cells #[] 3)) w.heap.size 3 1 (.slice (some ⟨w.heap.size, 0, none⟩) 0 0) 0 [] := own_lit 3 1 #[] 0 (Nat.le_refl _) (by simp) rfl
  have hb0 := (Below.refl w.heap.size w).alloc (Nat.le_refl _) (.cells #[] 3)
  have HW := Lib.hid (h.below hb0)
  have HOW : Hid (∀ x ∈ lvOrdM (levelsM L), (Lit.int .i64 x).wf = true) := Lib.hid (fun x hx => by have := lvOrdM_wf x hx; exact WalkArith.wf_i64 (by omega))
  have HUL := Lib.hid (upF_len (levelsM L) hl10)
  clear h
  go_enter Try.func37, Try.ntmps37
  go_wp2_with fail
  refine (levelsOf_spec a n cap L _ HW.out).mono ?_; rintro e w1 ⟨v1, rfl, ho1, hw1, hb1⟩
  obtain ⟨V, hV⟩ : ∃ V, V = levelsM L := ⟨_, rfl⟩
  have HVE := Lib.hid hV
  rw [← hV] at ho1 hw1 hl10 HOW HUL
  clear hV
  obtain ⟨gV, cV, hv1, hBg, hgl, hr1⟩ := rowI_of_own ho1 (by omega) hw1
  subst hv1
  have hsz : (w.alloc (.cells #[] 3)).heap.size = w.heap.size + 1 := by simp
  rw [hsz] at hBg
  obtain ⟨m, hm⟩ : ∃ m, m = V.length := ⟨_, rfl⟩
  have HM := Lib.hid hm
  rw [← hm] at hr1 hl10 ⊢
  clear hm ho1 hw1
  have HA0 : Hid (OrdAt w w.heap.size w1.heap.size (some ⟨gV, 0, none⟩) m V w1 (.slice (some ⟨w.heap.size, 0, none⟩) 0 0) (upF V 0)) := Lib.hid
    ⟨hnil.below hb1, hr1, fun p hp => by simp [Value.ownBlock] at hp; exact .inl hp.symm, Nat.le_refl _, hb0.trans (hb1.mono hb0.size)⟩
  have HLO : Hid (lvOrdM V = upF V m) := Lib.hid (by rw [lvOrdM, HM.out])
  clear hnil hb0 hb1 hr1 hsz
  go_wp2
  go_loopw [3, 5] (fun v i wr => ∃ t : Nat, t ≤ m ∧ i = .int .i64 t ∧ OrdAt w w.heap.size w1.heap.size (some ⟨gV, 0, none⟩) m V wr v (upF V t)) (fun _ i _ => m - (intOf i).toNat)
  case atStart => exact ⟨0, Nat.zero_le _, rfl, HA0.out⟩
  case round =>
    clear HA0
    obtain ⟨t, ht, rfl, hA⟩ := hrel
    by_cases hlt : t < m
    · have HA1 := Lib.hid hA
      have HUP : Hid (upF V (t + 1) = upF V t ++ downF V t m) := Lib.hid (by rw [upF, HM.out])
      have HTL : Hid ((upF V t ++ downF V t m).length ≤ 110) := Lib.hid (by
        rw [List.length_append]
        have := HUL.out t
        have := downF_len V t m
        omega)
      obtain ⟨gO, cO, hvO, -, -⟩ := hA.1.slice
      subst hvO
      clear hA
      go_wp2
      go_loopw [3, 6] (fun v i wr => ∃ r : Nat, r ≤ m ∧ i = .int .i64 ((r : Int) - 1) ∧ ∃ X, X ++ downF V t r = upF V t ++ downF V t m ∧ OrdAt w w.heap.size w1.heap.size (some ⟨gV, 0, none⟩) m V wr v X) (fun _ i _ => (intOf i + 1).toNat)
      case atStart => exact ⟨m, Nat.le_refl _, rfl, upF V t, rfl, HA1.out⟩
      case round =>
        clear HA1
        obtain ⟨r, hr, rfl, X, hX, hA⟩ := hrel
        have hXl : X.length ≤ 110 := by have h1 := HTL.out; rw [← hX, List.length_append] at h1; omega
        obtain ⟨gX, cX, hvX, hBX, hgX⟩ := hA.1.slice
        subst hvX
        by_cases hr0 : 0 < r
        · obtain ⟨q, rfl⟩ : ∃ q, r = q + 1 := ⟨r - 1, by omega⟩
          have hqm : q < m := by omega
          have he : ((q + 1 : Nat) : Int) - 1 = (q : Int) := by omega
          rw [he]
          obtain ⟨b', o', he', hc⟩ := hA.2.1.2.2.1 (by omega)
          obtain ⟨rfl, rfl⟩ : gV = b' ∧ 0 = o' := by simpa using he'
          have hc0 := hc q hqm
          rw [Nat.zero_add] at hc0
          have HX := Lib.hid hX
          have HAA := Lib.hid hA
          have HDN : Hid (downF V t (q + 1) = (if V.getD q 0 = t then [(q : Int)] else []) ++ downF V t q) := Lib.hid rfl
          obtain ⟨y, hy⟩ : ∃ y, y = V.getD q 0 := ⟨_, rfl⟩
          rw [← hy] at hc0 HDN
          have hq0 : (0 : Int) ≤ (q : Int) := by omega
          have hq1 : (q : Int) < (m : Int) := by omega
          clear hy hc he' hX hA he
          by_cases hyt : y = (t : Int)
          · have hyt2 : (y == (t : Int)) = true := by simpa using hyt
            have HX2 : Hid ((X ++ [(q : Int)]) ++ downF V t q = upF V t ++ downF V t m) := Lib.hid (by
              rw [← HX.out, HDN.out, if_pos hyt, List.append_assoc])
            have HO := Lib.hid HAA.out.1.1
            have HML : Hid ((X ++ [(q : Int)]).map (Value.int .i64) = X.map (Value.int .i64) ++ [.int .i64 (q : Int)]) := Lib.hid (by simp)
            subst hyt
            go_wp2_with (at_builtin; refine wpList_append_one_at rfl _ _ 43 rfl w.heap.size 3 _ (.int .i64 0) 1 8 Try.underlying43 infoIntC rfl (by decide) _ _ _ [.int .i64 (q : Int)] (by rfl) HO.out (by rfl) rfl ?c11 ?c21 (by decide) ?c31 ?_)
            case c11 => first | rfl | (intro u hu; simp at hu; subst hu; rfl)
            case c21 => omega
            case c31 => have := HAA.out.2.2.2.2.size; omega
            intro v6 w6 ho6 hg6 hat6
            obtain ⟨p1, p2, p3, p4, p5⟩ := HAA.out
            have hs5 := p5.size
            have hal := (Below.refl wr.heap.size wr).alloc (Nat.le_refl _) (.cells #[.int .i64 (q : Int)] 3)
            have hsa : (wr.alloc (.cells #[.int .i64 (q : Int)] 3)).heap.size = wr.heap.size + 1 := by simp
            have hs6 := hg6.size
            have hgX0 : gX = w.heap.size ∨ w1.heap.size ≤ gX := p3 gX rfl
            have hnz : v6 ≠ .slice none 0 0 := fun e => by
              rcases hat6 with h1 | h1
              · rw [e] at h1; cases h1
              · rw [e] at h1; cases h1
            have HAF : Hid (OrdAt w w.heap.size w1.heap.size (some ⟨gV, 0, none⟩) m V w6 v6 (X ++ [(q : Int)])) := Lib.hid (by
              refine ⟨⟨by rw [HML.out, List.length_append]; exact ho6, hnz⟩, rowI_grown (p2.below hal) hg6 (fun b o e => by simp at e; simp [Value.ownBlock]; omega), fun p hp => ?_, by omega, (p5.alloc hs5 _).grown hg6 (by omega) (fun z hz => by simp [Value.ownBlock] at hz; omega)⟩
              rcases hat6 with h1 | h1
              · rw [h1] at hp; exact p3 p hp
              · rw [h1] at hp; simp at hp; omega)
            clear p1 p2 p3 p4 p5 ho6 hg6 hat6 hal hsa hs6 hnz hgX0 HO HAA HX HDN
            go_wp2
            go_roundw
            case rel => exact ⟨q, by omega, by rfl, X ++ [(q : Int)], HX2.out, HAF.out⟩
            case measure => simp [intOf]
          · have hyt2 : (y == (t : Int)) = false := by simpa using hyt
            have HX2 : Hid (X ++ downF V t q = upF V t ++ downF V t m) := Lib.hid (by
              rw [← HX.out, HDN.out, if_neg hyt, List.nil_append])
            clear hyt
            go_wp2
            go_roundw
            case rel => exact ⟨q, by omega, by rfl, X, HX2.out, HAA.out⟩
            case measure => simp [intOf]
        · obtain rfl : r = 0 := by omega
          have HX2 : Hid (X = upF V (t + 1)) := Lib.hid (by rw [HUP.out, ← hX]; simp [downF])
          have HAF := Lib.hid hA
          clear hX hA
          go_wp2
          go_roundw
          case rel => exact ⟨t + 1, by omega, by go_num, by rw [← HX2.out]; exact HAF.out⟩
          case measure => simp [intOf]; omega
    · obtain rfl : t = m := by omega
      have HF := Lib.hid hA
      clear hA
      go_wp2
      go_ret
      exact ⟨_, rfl, by rw [← HVE.out, HLO.out]; exact HF.out.1, by rw [← HVE.out]; exact HOW.out, HF.out.2.2.2.2⟩
end Go.Proofs.Ytfhbolpchmdaoaa
