/- The contract of the model's ChangedKeys. -/
import Derived.Test.YtmblmmbcdmmpcaaSpecStore
namespace Go.Proofs.Ytmblmmbcdmmpcaa
open Go.RowKit
theorem infoIntC : (Try.prog.info? 3).map (fun i => (i.zero, i.size, i.bytes)) = some (some (.int .i64 0), 1, 8) := by kernel_rfl
/-- A new list of ints: l, owned from where the heap ended. -/
def NewL (w : World) (e0 : TypeId) (l : List Int) (e : Ending) (w' : World) : Prop :=
  ∃ v, e = .returned v ∧ Own w' w.heap.size e0 1 v l.length (l.map (Value.int .i64)) ∧ (∀ x ∈ l, (Lit.int .i64 x).wf = true) ∧ Below w.heap.size w w'
/-- The changed keys below k. -/
def chTo (a b : List Ent) (k : Nat) : List Int := ((List.range k).map (fun k : Nat => (k : Int))).filter (fun key => decide (atM a key ≠ atM b key))
theorem chTo_next (a b : List Ent) (k : Nat) : chTo a b (k + 1) = if atM a k ≠ atM b k then chTo a b k ++ [(k : Int)] else chTo a b k := by
  unfold chTo
  rw [List.range_succ, List.map_append, List.filter_append]
  by_cases h : atM a k = atM b k <;> simp [h]
theorem chTo_len (a b : List Ent) (k : Nat) : (chTo a b k).length ≤ k := by
  unfold chTo; exact Nat.le_trans (List.length_filter_le _ _) (by simp)
theorem chTo_mem (a b : List Ent) (k : Nat) : ∀ x ∈ chTo a b k, 0 ≤ x ∧ x < k := by
  intro x hx
  have := (List.mem_filter.1 hx).1
  obtain ⟨j, hj, rfl⟩ := List.mem_map.1 this
  have := List.mem_range.1 hj
  omega
set_option maxHeartbeats 2000000 in
theorem changedKeys_spec (a b : Option Addr) (n m cap cap' : Nat) (l l' : List Ent) (w : World) (h : RowE w a n l) (h' : RowE w b m l') :
    Calls Try.prog 31 #[.slice a n cap, .slice b m cap'] w (NewL w 3 (changedM l l')) := by
  have hnil : Own (w.alloc (.cells #[] 3)) w.heap.size 3 1 (.slice (some ⟨w.heap.size, 0, none⟩) 0 0) 0 [] := own_lit 3 1 #[] 0 (Nat.le_refl _) (by simp) rfl
  have hb0 := (Below.refl w.heap.size w).alloc (Nat.le_refl _) (.cells #[] 3)
  cases hs : storeB l with
  | false =>
    have HP : Hid (changedM l l' = []) := Lib.hid (by simp [changedM, hs])
    go_enter Try.func31, Try.ntmps31
    go_wp2
    go_loopw [5, 6] (fun v i wr => v = .slice (some ⟨w.heap.size, 0, none⟩) 0 0 ∧ i = .int .i64 0 ∧ Own wr w.heap.size 3 1 (.slice (some ⟨w.heap.size, 0, none⟩) 0 0) 0 [] ∧ Below w.heap.size w wr) (fun _ _ _ => 0)
    case atStart => exact ⟨rfl, rfl, hnil, hb0⟩
    case round =>
      obtain ⟨rfl, rfl, hown, hb⟩ := hrel
      clear hnil hb0
      go_wp2_with fail
      refine (storeValid_spec a n cap l _ (h.below hb)).mono ?_; rintro e w' ⟨rfl, q, rfl⟩
      rw [hs]
      go_wp2
      go_ret
      exact ⟨_, rfl, by rw [HP.out]; exact hown.drewN q, (by rw [HP.out]; intro x hx; cases hx), below_drewN' hb q⟩
  | true =>
    cases hs' : storeB l' with
    | false =>
      have HP : Hid (changedM l l' = []) := Lib.hid (by simp [changedM, hs'])
      go_enter Try.func31, Try.ntmps31
      go_wp2
      go_loopw [5, 6] (fun v i wr => v = .slice (some ⟨w.heap.size, 0, none⟩) 0 0 ∧ i = .int .i64 0 ∧ Own wr w.heap.size 3 1 (.slice (some ⟨w.heap.size, 0, none⟩) 0 0) 0 [] ∧ Below w.heap.size w wr) (fun _ _ _ => 0)
      case atStart => exact ⟨rfl, rfl, hnil, hb0⟩
      case round =>
        obtain ⟨rfl, rfl, hown, hb⟩ := hrel
        clear hnil hb0
        go_wp2_with fail
        refine (storeValid_spec a n cap l _ (h.below hb)).mono ?_; rintro e w' ⟨rfl, q, rfl⟩
        rw [hs]
        go_wp2_with fail
        refine (storeValid_spec b m cap' l' _ ((h'.below hb).drewN q)).mono ?_; rintro e w' ⟨rfl, q2, rfl⟩
        rw [hs']
        go_wp2
        go_ret
        exact ⟨_, rfl, by rw [HP.out]; exact (hown.drewN q).drewN q2, (by rw [HP.out]; intro x hx; cases hx), below_drewN' hb _⟩
    | true =>
      have HP : Hid (changedM l l' = chTo l l' 32) := Lib.hid (by simp [changedM, hs, hs', chTo])
      go_enter Try.func31, Try.ntmps31
      go_wp2
      go_loopw [5, 6] (fun v i wr => ∃ k : Nat, k ≤ 32 ∧ i = .int .i64 k ∧ Own wr w.heap.size 3 1 v (chTo l l' k).length ((chTo l l' k).map (Value.int .i64)) ∧ Below w.heap.size w wr) (fun _ i _ => 32 - (intOf i).toNat)
      case atStart => exact ⟨0, by omega, rfl, hnil, hb0⟩
      case round =>
        obtain ⟨k, hk, rfl, hown, hb⟩ := hrel
        clear hnil hb0
        have HX := Lib.hid (chTo_next l l' k)
        have hlen := chTo_len l l' k
        by_cases hlt : k < 32
        · have hkb : decide ((k : Int) ≤ 31) = true := by simp; omega
          go_wp2_with fail
          refine (storeValid_spec a n cap l _ (h.below hb)).mono ?_; rintro e w1 ⟨rfl, hd1⟩
          rw [hs]
          have hb1 := hb.trans (hd1.below _)
          go_wp2_with fail
          refine (storeValid_spec b m cap' l' _ (h'.below hb1)).mono ?_; rintro e w2 ⟨rfl, hd2⟩
          rw [hs']
          have hb2 := hb1.trans (hd2.below _)
          have ho := (hown.drawn hd1).drawn hd2
          clear hown hb hb1 hd1 hd2
          go_wp2_with fail
          refine (l2At_spec a n cap l k _ (h.below hb2)).mono ?_; rintro e w' ⟨rfl, rfl⟩
          go_wp2_with fail
          refine (l2At_spec b m cap' l' k _ (h'.below hb2)).mono ?_; rintro e w' ⟨rfl, rfl⟩
          obtain ⟨x, hx⟩ : ∃ x, x = atM l k := ⟨_, rfl⟩
          obtain ⟨y, hy⟩ : ∃ y, y = atM l' k := ⟨_, rfl⟩
          rw [← hx, ← hy] at HX
          rw [← hx, ← hy]
          clear hx hy
          by_cases hxy : x = y
          · have HX2 : Hid (chTo l l' (k + 1) = chTo l l' k) := by rw [HX.out]; exact Lib.hid (by simp [hxy])
            have hne : (x != y) = false := by simpa using hxy
            clear hxy HX
            go_wp2
            go_roundw
            case rel => exact ⟨k + 1, by omega, by go_num, by rw [HX2.out]; exact ho, hb2⟩
            case measure => simp [intOf]; omega
          · have HX2 : Hid (chTo l l' (k + 1) = chTo l l' k ++ [(k : Int)]) := by rw [HX.out]; exact Lib.hid (by simp [hxy])
            have hne : (x != y) = true := by simpa using hxy
            clear hxy HX
            go_wp2_with (at_builtin; refine wpList_append_one rfl _ _ 41 rfl w.heap.size 3 _ (.int .i64 0) 1 8 Try.underlying41 infoIntC rfl (by decide) _ _ _ [.int .i64 (k : Int)] (by rfl) ho (by rfl) rfl ?c11 ?c21 (by decide) ?c31 ?_)
            case c11 => intro u hu; simp at hu; subst hu; rfl
            case c21 => omega
            case c31 => exact hb2.size
            intro v1 w3 ho1' hg1
            have hb3 : Below w.heap.size w w3 := (hb2.alloc hb2.size _).grown hg1 (by have := hb2.size; simp; omega) (fun k hk => (ho.1.lt k hk).1)
            clear hg1
            go_wp2
            go_roundw
            case rel => exact ⟨k + 1, by omega, by go_num, by rw [HX2.out, List.map_append, List.length_append]; exact ho1', hb3⟩
            case measure => simp [intOf]; omega
        · obtain rfl : k = 32 := by omega
          go_wp2
          go_ret
          exact ⟨_, rfl, by rw [HP.out]; exact hown, by rw [HP.out]; intro x hx; have := chTo_mem l l' 32 x hx; exact WalkArith.wf_i64 (by omega), hb⟩
end Go.Proofs.Ytmblmmbcdmmpcaa
