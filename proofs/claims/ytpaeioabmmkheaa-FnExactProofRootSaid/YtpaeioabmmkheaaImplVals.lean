/- The contracts of the program's valuesOf and entries. -/
import Derived.Test.YtpaeioabmmkheaaImplStore
import Derived.Test.YtpaeioabmmkheaaArr
namespace Go.Proofs.Ytpaeioabmmkheaa
open Go.RowKit
/-- An array and a bool, and nothing old has turned. -/
def ArrB (A : List Int) (b : Bool) (w : World) (e : Ending) (w' : World) : Prop := e = .returned (.tuple #[.agg (cellsI A), .bool b]) ∧ Below w.heap.size w w'
theorem infoArr : (Try.prog.info? 73).map (·.size) = some 32 := by kernel_rfl
/-- 32 zeros. -/
def zeros : List Int := List.replicate 32 0
theorem zeros_len : zeros.length = 32 := rfl
theorem arrOf_nil' : arrOf [] = zeros := arrOf_nil
/-- What valuesOf answers. -/
def valsM (l : List Ent) : List Int := if storeB l then arrOf l else zeros
theorem valsM_len (l : List Ent) : (valsM l).length = 32 := by unfold valsM; split; exact arrOf_len l; rfl
set_option maxHeartbeats 1000000 in
theorem valuesOf_no (a : Option Addr) (n cap : Nat) (l : List Ent) (w : World) (h : RowE w a n l) (hs : storeB l = false) :
    Calls Try.prog 56 #[.slice a n cap] w (ArrB zeros false w) := by
  have HR := Lib.hid h; clear h
  have HS := Lib.hid hs; clear hs
  go_enter Try.func56, Try.ntmps56
  go_wp2_with fail
  refine (storeValid_impl a n cap l _ (HR.out.below (((Below.refl _ _).alloc (Nat.le_refl _) _).alloc (by simp) _))).mono ?_; rintro e w1 ⟨rfl, hb⟩
  rw [HS.out]
  have hA0 : Arr w1 w.heap.size 73 zeros := (((Arr.new w 73 zeros).alloc _).after hb)
  have hA1 : Arr w1 (w.heap.size + 1) 73 zeros := by
    have := (Arr.new (w.alloc (.cells (cellsI zeros) 73)) 73 zeros).after hb
    simpa using this
  have hB : Below w.heap.size w w1 := (((Below.refl _ _).alloc (Nat.le_refl _) _).alloc (by simp) _).trans (hb.mono (by simp; omega))
  clear hb
  go_wp2_with (first | (refine wpList_load_arr rfl _ _ rfl _ (by rfl) 73 zeros hA1 _ _ Try.underlying73 infoArr ?_) | (refine wpList_store_arr rfl _ _ _ rfl _ zeros (by rfl) (by rfl) 73 _ hA0 infoArr rfl ?_))
  exact bodyPost_ret (results_arr_slot Try.results56 _ (by rfl) (.bool false) (by rfl) (hA0.setRow zeros) _ _ Try.underlying73 infoArr) rfl ⟨rfl, below_setRow hB (Nat.le_refl _) _⟩
set_option maxHeartbeats 2000000 in
theorem valuesOf_yes (a : Option Addr) (n cap : Nat) (l : List Ent) (w : World) (h : RowE w a n l) (hs : storeB l = true) :
    Calls Try.prog 56 #[.slice a n cap] w (ArrB (arrOf l) true w) := by
  have HR := Lib.hid h; clear h
  have HS := Lib.hid hs; clear hs
  have hm := HR.out.2.1
  unfold maxLen at hm
  go_enter Try.func56, Try.ntmps56
  go_wp2_with fail
  refine (storeValid_impl a n cap l _ (HR.out.below (((Below.refl _ _).alloc (Nat.le_refl _) _).alloc (by simp) _))).mono ?_; rintro e w1 ⟨rfl, hb⟩
  rw [HS.out]
  have hA0 : Arr w1 w.heap.size 73 zeros := (((Arr.new w 73 zeros).alloc _).after hb)
  have hA1 : Arr w1 (w.heap.size + 1) 73 zeros := by
    have := (Arr.new (w.alloc (.cells (cellsI zeros) 73)) 73 zeros).after hb
    simpa using this
  have hB : Below w.heap.size w w1 := (((Below.refl _ _).alloc (Nat.le_refl _) _).alloc (by simp) _).trans (hb.mono (by simp; omega))
  clear hb
  go_wp2
  go_loopw [6, 13] (fun _ i wr => ∃ k : Nat, k ≤ n ∧ i = .int .i64 k ∧ Arr wr w.heap.size 73 zeros ∧ Arr wr (w.heap.size + 1) 73 (arrOf (l.take k)) ∧ Below w.heap.size w wr) (fun _ i _ => n - (intOf i).toNat)
  case atStart => exact ⟨0, Nat.zero_le _, rfl, hA0, by simpa [arrOf_nil'] using hA1, hB⟩
  case round =>
    clear hA0 hA1 hB
    obtain ⟨k, hk, rfl, hA0, hA1, hB⟩ := hrel
    by_cases hlt : k < n
    · obtain ⟨b, off, rfl, hc⟩ := HR.out.2.2.1 (by omega)
      have hbs : b < w.heap.size := World.block_lt_of_cell? w ⟨b, off + k * 2, none⟩ (hc k hlt).1
      have hc1 := (hB.cell (p := ⟨b, off + k * 2, none⟩) hbs).trans (hc k hlt).1
      have hc2 := (hB.cell (p := ⟨b, off + k * 2 + 1, none⟩) hbs).trans (hc k hlt).2
      have hok := okAt_bd ((storeB_iff l).1 HS.out k (by rw [HR.out.1]; exact hlt))
      have HN := Lib.hid (arrOf_take ((storeB_ok l).1 HS.out) k (by rw [HR.out.1]; exact hlt))
      obtain ⟨x1, x2, -⟩ := hok
      clear hc
      obtain ⟨x, hx⟩ : ∃ x, x = (l.getD k (0, 0)).1 := ⟨_, rfl⟩
      obtain ⟨y, hy⟩ : ∃ y, y = (l.getD k (0, 0)).2 := ⟨_, rfl⟩
      rw [← hx] at hc1 x1 x2
      rw [← hy] at hc2
      rw [← hx, ← hy] at HN
      clear hx hy
      obtain ⟨A, hA⟩ : ∃ A, A = arrOf (l.take k) := ⟨_, rfl⟩
      have hAl : A.length = 32 := by rw [hA, arrOf_len]
      rw [← hA] at hA1 HN
      clear hA
      obtain ⟨m, rfl⟩ : ∃ m : Nat, x = (m : Int) := ⟨x.toNat, by omega⟩
      have hcA := hA1.cell m (by omega)
      have hfA := hA1.frozen m
      have hlt1 := hA1.lt
      go_wp2
      go_roundw
      case rel => exact ⟨k + 1, by omega, by go_num, (hA0.setOther _ _ (by simp)).alloc _, by rw [HN.out, Int.toNat_natCast]; exact (hA1.set m y).alloc _, (hB.setCell (by simp) _).alloc (by rw [size_setCell]; omega) _⟩
      case measure => simp [intOf]; omega
    · obtain rfl : k = n := by omega
      have e : l.take k = l := List.take_of_length_le (by rw [HR.out.1]; omega)
      rw [e] at hA1
      have HL := Lib.hid (arrOf_len l)
      clear e
      go_wp2_with (first | (refine wpList_load_arr rfl _ _ rfl _ (by rfl) 73 (arrOf l) hA1 _ _ Try.underlying73 (by rw [HL.out]; exact infoArr) ?_) | (refine wpList_store_arr rfl _ _ _ rfl _ (arrOf l) (by rfl) (by rfl) 73 _ hA0 (by rw [HL.out]; exact infoArr) (by rw [HL.out]; rfl) ?_))
      exact bodyPost_ret (results_arr_slot Try.results56 _ (by rfl) (.bool true) (by rfl) (hA0.setRow (arrOf l)) _ _ Try.underlying73 (by rw [HL.out]; exact infoArr)) rfl ⟨rfl, below_setRow hB (Nat.le_refl _) _⟩
/-- v owns n elements (size cells each), the cells xs, from block B on; it may be the nil slice. -/
theorem own_nil (w : World) (B : Nat) (e : TypeId) (size : Nat) : w.ownsRow B e size (.slice none 0 0) 0 [] := World.ownsRow_nil w B e size
/-- A list of pairs, new or nil. -/
def NewN (w : World) (l : List Ent) (e : Ending) (w' : World) : Prop :=
  ∃ v, e = .returned v ∧ w'.ownsRow w.heap.size 72 2 v l.length (flatE l) ∧ Below w.heap.size w w'
set_option maxHeartbeats 2000000 in
theorem entries_impl (A : List Int) (w : World) (hl : A.length = 32) :
    Calls Try.prog 58 #[.agg (cellsI A)] w (NewN w (entTo A 32)) := by
  have HL := Lib.hid hl; clear hl
  go_enter Try.func58, Try.ntmps58
  have hA := Arr.new w 73 A
  have hb0 := (Below.refl w.heap.size w).alloc (Nat.le_refl _) (.cells (cellsI A) 73)
  go_wp2_with (refine wpList_load_arr rfl _ _ rfl _ (by rfl) 73 A hA _ _ Try.underlying73 (by rw [HL.out]; exact infoArr) ?_)
  go_loopw [3, 4, 5, 7] (fun v _ _ i wr => ∃ k : Nat, k ≤ 32 ∧ i = .int .i64 k ∧ wr.ownsRow w.heap.size 72 2 v (entTo A k).length (flatE (entTo A k)) ∧ Below w.heap.size w wr) (fun _ _ _ i _ => 32 - (intOf i).toNat)
  case atStart => exact ⟨0, by omega, rfl, own_nil _ _ _ _, hb0⟩
  case round =>
    clear hA hb0
    obtain ⟨k, hk, rfl, hown, hb⟩ := hrel
    have HX := Lib.hid (entTo_next A k)
    have hlen := entTo_len A k
    by_cases hlt : k < 32
    · have hix := fun W => run_index_arr (P := Try.prog) W 73 32 3 _ Try.underlying73 Try.underlying3 rfl (by kernel_rfl) A HL.out k hlt
      obtain ⟨x, hx⟩ : ∃ x, x = A.getD k 0 := ⟨_, rfl⟩
      rw [← hx] at hix HX
      clear hx
      by_cases hx0 : x = 0
      · have HX2 : Hid (entTo A (k + 1) = entTo A k) := Lib.hid (by rw [HX.out, if_pos hx0])
        have hxb : (x != 0) = false := by simpa using hx0
        clear hx0 HX
        go_wp2
        go_roundw
        case rel => exact ⟨k + 1, by omega, by go_num, by rw [HX2.out]; exact hown, hb⟩
        case measure => simp [intOf]; omega
      · have HX2 : Hid (entTo A (k + 1) = entTo A k ++ [((k : Int), x)]) := Lib.hid (by rw [HX.out, if_neg hx0])
        have hxb : (x != 0) = true := by simpa using hx0
        clear hx0 HX
        go_wp2_with (at_builtin; refine wpList_append_one' rfl _ _ 30 rfl w.heap.size 72 _ (.agg #[.int .i64 0, .int .i64 0]) 2 16 Try.underlying30 infoEnt rfl (by decide) _ _ _ [.int .i64 (k : Int), .int .i64 x] (by rfl) hown (by rfl) rfl ?c11 ?c21 (by decide) ?c31 ?_)
        case c11 => intro u hu; simp at hu; rcases hu with rfl | rfl <;> rfl
        case c21 => omega
        case c31 => exact hb.size
        intro v1 w1 ho1' hnn hg1
        have hb1 : Below w.heap.size w w1 := (hb.alloc hb.size _).grown hg1 (by have := hb.size; simp; omega) (fun k hk => (hown.lt k hk).1)
        clear hg1
        go_wp2
        go_roundw
        case rel => exact ⟨k + 1, by omega, by go_num, by rw [HX2.out, flatE_append, List.length_append]; exact ho1', hb1⟩
        case measure => simp [intOf]; omega
    · obtain rfl : k = 32 := by omega
      go_wp2
      go_ret
      exact ⟨_, rfl, hown, hb⟩
end Go.Proofs.Ytpaeioabmmkheaa
