/- The contracts of the program's ReadVersion and LastVersions. -/
import Derived.Test.YtaaffpolmecicaaKeyA

import Derived.Test.YtaaffpolmecicaaTwo
import Derived.Test.YtaaffpolmecicaaSpecV
import Derived.Test.YtaaffpolmecicaaVerA
namespace Go.Proofs.Ytaaffpolmecicaa
open Go.RowKit
set_option linter.unusedVariables false
set_option maxRecDepth 100000 in
set_option maxHeartbeats 8000000 in
theorem readVersion_impl (a : Option Addr) (n cap : Nat) (S : List Ent) (a2 : Option Addr) (m cap2 : Nat) (L : List Ver) (key by_ : Int) (w : World) (h : RowE w a n S) (h2 : RowV w a2 m L) :
    Calls Try.prog 38 #[.slice a n cap, .slice a2 m cap2, .int .i64 key, .int .i64 by_] w (IntsB2 (readVM S L key by_) w) := by
  have H2 := Lib.hid h2; clear h2
  have HNO := Lib.hid (fun hh => readVM_no (S := S) (L := L) (key := key) (by_ := by_) hh)
  have HYES := Lib.hid (fun h1 h2 h3 h4 => readVM_yes (S := S) (L := L) (key := key) (by_ := by_) h1 h2 h3 h4)
  go_enter Try.func38, Try.ntmps38
  go_wp2_with fail
  refine (valuesOf_any a n cap S _ h).mono ?_; rintro e w1 ⟨rfl, hb1⟩
  have hA0 := Arr.new w1 106 zeros
  have HAL := Lib.hid (valsM_len S)
  have HAG : Hid (∀ k : Nat, k < 32 → storeB S = true → (valsM S).getD k 0 = atM S k) := Lib.hid (fun k hk hs => by rw [show valsM S = arrOf S by simp [valsM, hs]]; exact arrOf_get S k hk)
  obtain ⟨A, hA⟩ : ∃ A, A = valsM S := ⟨_, rfl⟩
  rw [← hA] at HAL HAG ⊢
  clear hA h
  go_upto_region 2 with (first | (refine wpList_store_arr' rfl _ _ _ rfl _ A (by rfl) (by rfl) 106 _ hA0 (by rw [HAL.out]; exact infoArr) (by rw [HAL.out]; rfl) ?_; intro w2 hA2 hg2 hz2))
  have hB2 : Below w.heap.size w w2 := (hb1.alloc hb1.size _).grown hg2 (by simp; have := hb1.size; omega) fun k hk => by cases hk; exact hb1.size
  obtain ⟨g1, hg1⟩ : ∃ g, g = w1.heap.size := ⟨_, rfl⟩
  rw [← hg1] at hA2 ⊢
  clear hA0 hg2 hz2 hb1 hg1
  go_wp2_with fail
  refine (versionsPerKey_impl a2 m cap2 L _ (H2.out.below hB2)).mono ?_; rintro e w3 ⟨vs, rfl, hK, hb3⟩
  have hB3 := hB2.trans (hb3.mono hB2.size)
  have hA3 := hA2.after hb3
  have hV0 := ArrV.new w3 96 nils
  have HL := Lib.hid hK.len
  have hone := hK.one
  clear hb3 hA2 hB2
  cases hs : storeB S with
  | false =>
    have HV := Lib.hid (HNO.out (by rw [hs]; rfl))
    clear hs HNO HYES HAG hK
    go_wp2_with (first | (refine wpList_store_arrV rfl _ _ _ rfl _ vs (by rfl) (by rfl) 96 _ hV0 (by rw [HL.out]; exact infoKeys) (by rw [HL.out]; rfl) hone ?_; intro w4 hV4 hg4 hz4))
    go_ret2
    exact ⟨by rw [HV.out]; rfl, (hB3.alloc hB3.size _).grown hg4 (by simp; have := hB3.size; omega) fun k hk => by cases hk; exact hB3.size⟩
  | true =>
    cases hs2 : versB L with
    | false =>
      have HV := Lib.hid (HNO.out (by rw [hs2]; simp))
      clear hs hs2 HNO HYES HAG hK
      go_wp2_with (first | (refine wpList_store_arrV rfl _ _ _ rfl _ vs (by rfl) (by rfl) 96 _ hV0 (by rw [HL.out]; exact infoKeys) (by rw [HL.out]; rfl) hone ?_; intro w4 hV4 hg4 hz4))
      go_ret2
      exact ⟨by rw [HV.out]; rfl, (hB3.alloc hB3.size _).grown hg4 (by simp; have := hB3.size; omega) fun k hk => by cases hk; exact hB3.size⟩
    | true =>
      cases hk : inB key 0 31 with
      | false =>
        have HV := Lib.hid (HNO.out (by rw [hk]; simp))
        have HKB := Lib.hid hk
        clear hs hs2 hk HNO HYES HAG hK
        go_wp2_with (first | (refine wpList_store_arrV rfl _ _ _ rfl _ vs (by rfl) (by rfl) 96 _ hV0 (by rw [HL.out]; exact infoKeys) (by rw [HL.out]; rfl) hone ?_; intro w4 hV4 hg4 hz4) | (go_at_call 82; refine (isKey_impl _ _).mono ?_; rintro e w' ⟨rfl, rfl⟩; rw [HKB.out]))
        go_ret2
        exact ⟨by rw [HV.out]; rfl, (hB3.alloc hB3.size _).grown hg4 (by simp; have := hB3.size; omega) fun k hk => by cases hk; exact hB3.size⟩
      | true =>
        have HKB := Lib.hid hk
        cases hb : inB by_ 0 10 with
        | false =>
          have HV := Lib.hid (HNO.out (by rw [hb]; simp))
          have HN9 : Hid (inB by_ 0 9 = false) := Lib.hid (inB_no (by have := inB_false hb; omega))
          have hn10 : (by_ != 10) = true := by have := inB_false hb; simp; omega
          clear hs hs2 hk hb HNO HYES HAG hK
          go_wp2_with (first | (refine wpList_store_arrV rfl _ _ _ rfl _ vs (by rfl) (by rfl) 96 _ hV0 (by rw [HL.out]; exact infoKeys) (by rw [HL.out]; rfl) hone ?_; intro w4 hV4 hg4 hz4) | (go_at_call 82; refine (isKey_impl _ _).mono ?_; rintro e w' ⟨rfl, rfl⟩; rw [HKB.out]) | (go_at_call 73; refine (isActionNumber_impl _ _).mono ?_; rintro e w' ⟨rfl, rfl⟩; rw [HN9.out]))
          go_ret2
          exact ⟨by rw [HV.out]; rfl, (hB3.alloc hB3.size _).grown hg4 (by simp; have := hB3.size; omega) fun k hk => by cases hk; exact hB3.size⟩
        | true =>
          have HV := Lib.hid (HYES.out hs hs2 hk hb)
          have hkb := inB_true hk
          have hbb := inB_true hb
          rw [perK_yes hs2] at hK
          have HOK := Lib.hid ((versB_ok L).1 hs2)
          obtain ⟨kk, rfl⟩ : ∃ kk : Nat, key = (kk : Int) := ⟨key.toNat, by omega⟩
          have hkk : kk < 32 := by omega
          have HAA := Lib.hid (HAG.out kk hkk hs)
          have hKV0 := fun w2 hA hg => hK.laid (T := 96) (w5 := w2) (.cells nils.toArray 96) hA hg
          have HKV := Lib.hid hKV0
          clear hs hs2 hk hb HNO HYES HAG hK hKV0 hkb
          go_upto_region 3 with (first | (refine wpList_store_arrV rfl _ _ _ rfl _ vs (by rfl) (by rfl) 96 _ hV0 (by rw [HL.out]; exact infoKeys) (by rw [HL.out]; rfl) hone ?_; intro w4 hV4 hg4 hz4))
          have hkv := HKV.out w4 hV4 hg4
          have hB4 : Below w.heap.size w w4 := (hB3.alloc hB3.size _).grown hg4 (by simp; have := hB3.size; omega) fun k hk => by cases hk; exact hB3.size
          have hA4 := (hA3.alloc (.cells nils.toArray 96)).grown hg4 (fun e => by have := hA3.lt; simp at e; omega)
          clear hV0 hV4 hg4 hz4 hone HKV hA3 hB3
          by_cases h10 : by_ = 10
          · subst h10
            have HN9 : Hid (inB 10 0 9 = false) := Lib.hid (by decide)
            clear hbb
            go_wp2_with (first | (go_at_call 82; refine (isKey_impl _ _).mono ?_; rintro e w' ⟨rfl, rfl⟩; rw [HKB.out]) | (go_at_call 73; refine (isActionNumber_impl _ _).mono ?_; rintro e w' ⟨rfl, rfl⟩; rw [HN9.out]) | (refine wpList_load_arr rfl _ _ rfl _ (by rfl) 106 A hA4 _ _ Try.underlying106 (by rw [HAL.out]; exact infoArr) ?_) | (go_at_call 83; refine (keyRead_impl _ _ _ _ A kk 10 S L _ hkv HAL.out hkk HAA.out HOK.out).mono ?_; rintro e w5 ⟨rfl, hb5⟩))
            go_ret2
            exact ⟨by rw [HV.out]; rfl, hB4.trans (hb5.mono hB4.size)⟩
          · have HN9 : Hid (inB by_ 0 9 = true) := Lib.hid (inB_yes hbb.1 (by omega))
            clear hbb h10
            go_wp2_with (first | (go_at_call 82; refine (isKey_impl _ _).mono ?_; rintro e w' ⟨rfl, rfl⟩; rw [HKB.out]) | (go_at_call 73; refine (isActionNumber_impl _ _).mono ?_; rintro e w' ⟨rfl, rfl⟩; rw [HN9.out]) | (refine wpList_load_arr rfl _ _ rfl _ (by rfl) 106 A hA4 _ _ Try.underlying106 (by rw [HAL.out]; exact infoArr) ?_) | (go_at_call 83; refine (keyRead_impl _ _ _ _ A kk by_ S L _ hkv HAL.out hkk HAA.out HOK.out).mono ?_; rintro e w5 ⟨rfl, hb5⟩))
            go_ret2
            exact ⟨by rw [HV.out]; rfl, hB4.trans (hb5.mono hB4.size)⟩
/-- A cell of another block is stored. -/
theorem KV.setOther {w : World} {B g : Nat} {T e0 : TypeId} {F : Nat → List Ver} (h : KV w B g T e0 F) (a : Addr) (v : Value) (hg : a.block ≠ g) (hB : a.block < B) : KV (w.setCell a v) B g T e0 F := by
  obtain ⟨vs, h1, h2, h3⟩ := h
  exact ⟨vs, h1.keep (Below.heap_setCell _ _ _ _ (Ne.symm hg)), h2.keep fun k hk b hb => Below.heap_setCell _ _ _ _ fun e => by have := (h2.lt hk hb).1; omega, h3⟩
theorem ent_last {S : List Ent} {L : List Ver} (hS : storeB S = true) (hL : VOk L) (A : List Int) (hA : ∀ j : Nat, j < 32 → A.getD j 0 = (readL S L j 10).1) : ∀ k, k ≤ 32 → entTo A k = lastN S L k := by
  intro k
  induction k with
  | zero => intro _; rfl
  | succ k ih =>
    intro hk
    rw [entTo_next, ih (by omega), hA k (by omega), lastN]
    have hb := (readL_bd hS hL (k : Int) 10).1
    by_cases h0 : (readL S L k 10).1 = 0
    · rw [if_pos h0, if_neg (by omega), List.append_nil]
    · rw [if_neg h0, if_pos (by omega)]
end Go.Proofs.Ytaaffpolmecicaa
