/- The contracts of the program's ReadVersion and LastVersions. -/
import Derived.Test.YtaaffpolmecicabGreatKeyA

import Derived.Test.YtaaffpolmecicabGreatTwo
import Derived.Test.YtaaffpolmecicabGreatSpecV
import Derived.Test.YtaaffpolmecicabGreatVerA
namespace Go.Proofs.YtaaffpolmecicabGreat
open Go.RowKit
set_option linter.unusedVariables false
set_option maxRecDepth 100000 in
set_option maxHeartbeats 8000000 in
theorem readVersion_impl (a : Option Addr) (n cap : Nat) (S : List Ent) (a2 : Option Addr) (m cap2 : Nat) (L : List Ver) (key by_ : Int) (w : World) (h : RowE w a n S) (h2 : RowV w a2 m L) :
    Calls Tryz.prog 23 #[.slice a n cap, .slice a2 m cap2, .int .i64 key, .int .i64 by_] w (IntsB2 (readVM S L key by_) w) := by
  have H2 := Lib.hid h2; clear h2
  have HNO := Lib.hid (fun hh => readVM_no (S := S) (L := L) (key := key) (by_ := by_) hh)
  have HYES := Lib.hid (fun h1 h2 h3 h4 => readVM_yes (S := S) (L := L) (key := key) (by_ := by_) h1 h2 h3 h4)
  go_enter Tryz.func23, Tryz.ntmps23
  go_wp2_with fail
  refine (valuesOf_any a n cap S _ h).mono ?_; rintro e w1 ⟨rfl, hb1⟩
  have hA0 := Arr.new w1 103 zeros
  have HAL := Lib.hid (valsM_len S)
  have HAG : Hid (∀ k : Nat, k < 32 → storeB S = true → (valsM S).getD k 0 = atM S k) := Lib.hid (fun k hk hs => by rw [show valsM S = arrOf S by simp [valsM, hs]]; exact arrOf_get S k hk)
  obtain ⟨A, hA⟩ : ∃ A, A = valsM S := ⟨_, rfl⟩
  rw [← hA] at HAL HAG ⊢
  clear hA h
  go_upto_region 2 with (first | (refine wpList_store_arr' rfl _ _ _ rfl _ A (by rfl) (by rfl) 103 _ hA0 (by rw [HAL.out]; exact infoArr) (by rw [HAL.out]; rfl) ?_; intro w2 hA2 hg2 hz2))
  have hB2 : Below w.heap.size w w2 := (hb1.alloc hb1.size _).grown hg2 (by simp; have := hb1.size; omega) fun k hk => by cases hk; exact hb1.size
  obtain ⟨g1, hg1⟩ : ∃ g, g = w1.heap.size := ⟨_, rfl⟩
  rw [← hg1] at hA2 ⊢
  clear hA0 hg2 hz2 hb1 hg1
  go_wp2_with fail
  refine (versionsPerKey_impl a2 m cap2 L _ (H2.out.below hB2)).mono ?_; rintro e w3 ⟨vs, rfl, hK, hb3⟩
  have hB3 := hB2.trans (hb3.mono hB2.size)
  have hA3 := hA2.after hb3
  have hV0 := ArrV.new w3 95 nils
  have HL := Lib.hid hK.len
  have hone := hK.one
  clear hb3 hA2 hB2
  cases hs : storeB S with
  | false =>
    have HV := Lib.hid (HNO.out (by rw [hs]; rfl))
    clear hs HNO HYES HAG hK
    go_wp2_with (first | (refine wpList_store_arrV rfl _ _ _ rfl _ vs (by rfl) (by rfl) 95 _ hV0 (by rw [HL.out]; exact infoKeys) (by rw [HL.out]; rfl) hone ?_; intro w4 hV4 hg4 hz4))
    go_ret2
    exact ⟨by rw [HV.out]; rfl, (hB3.alloc hB3.size _).grown hg4 (by simp; have := hB3.size; omega) fun k hk => by cases hk; exact hB3.size⟩
  | true =>
    cases hs2 : versB L with
    | false =>
      have HV := Lib.hid (HNO.out (by rw [hs2]; simp))
      clear hs hs2 HNO HYES HAG hK
      go_wp2_with (first | (refine wpList_store_arrV rfl _ _ _ rfl _ vs (by rfl) (by rfl) 95 _ hV0 (by rw [HL.out]; exact infoKeys) (by rw [HL.out]; rfl) hone ?_; intro w4 hV4 hg4 hz4))
      go_ret2
      exact ⟨by rw [HV.out]; rfl, (hB3.alloc hB3.size _).grown hg4 (by simp; have := hB3.size; omega) fun k hk => by cases hk; exact hB3.size⟩
    | true =>
      cases hk : inB key 0 31 with
      | false =>
        have HV := Lib.hid (HNO.out (by rw [hk]; simp))
        have HKB := Lib.hid hk
        clear hs hs2 hk HNO HYES HAG hK
        go_wp2_with (first | (refine wpList_store_arrV rfl _ _ _ rfl _ vs (by rfl) (by rfl) 95 _ hV0 (by rw [HL.out]; exact infoKeys) (by rw [HL.out]; rfl) hone ?_; intro w4 hV4 hg4 hz4) | (go_at_call 81; refine (isKey_impl _ _).mono ?_; rintro e w' ⟨rfl, rfl⟩; rw [HKB.out]))
        go_ret2
        exact ⟨by rw [HV.out]; rfl, (hB3.alloc hB3.size _).grown hg4 (by simp; have := hB3.size; omega) fun k hk => by cases hk; exact hB3.size⟩
      | true =>
        have HKB := Lib.hid hk
        cases hb : inB by_ 0 10 with
        | false =>
          have HV := Lib.hid (HNO.out (by rw [hb]; simp))
          have HN9 : Hid (inB by_ 0 9 = false) := Lib.hid (inB_no (by have := inB_false hb; omega))
          have hn10 : (by_ != 10) = true := by have := inB_false hb; simp; omega
          clear hs hs2 hk hb HNO HYES HAG hK
          go_wp2_with (first | (refine wpList_store_arrV rfl _ _ _ rfl _ vs (by rfl) (by rfl) 95 _ hV0 (by rw [HL.out]; exact infoKeys) (by rw [HL.out]; rfl) hone ?_; intro w4 hV4 hg4 hz4) | (go_at_call 81; refine (isKey_impl _ _).mono ?_; rintro e w' ⟨rfl, rfl⟩; rw [HKB.out]) | (go_at_call 75; refine (isActionNumber_impl _ _).mono ?_; rintro e w' ⟨rfl, rfl⟩; rw [HN9.out]))
          go_ret2
          exact ⟨by rw [HV.out]; rfl, (hB3.alloc hB3.size _).grown hg4 (by simp; have := hB3.size; omega) fun k hk => by cases hk; exact hB3.size⟩
        | true =>
          have HV := Lib.hid (HYES.out hs hs2 hk hb)
          have hkb := inB_true hk
          have hbb := inB_true hb
          rw [perK_yes hs2] at hK
          have HOK := Lib.hid ((versB_ok L).1 hs2)
          obtain ⟨kk, rfl⟩ : ∃ kk : Nat, key = (kk : Int) := ⟨key.toNat, by omega⟩
          have hkk : kk < 32 := by omega
          have HAA := Lib.hid (HAG.out kk hkk hs)
          have hKV0 := fun w2 hA hg => hK.laid (T := 95) (w5 := w2) (.cells nils.toArray 95) hA hg
          have HKV := Lib.hid hKV0
          clear hs hs2 hk hb HNO HYES HAG hK hKV0 hkb
          go_upto_region 3 with (first | (refine wpList_store_arrV rfl _ _ _ rfl _ vs (by rfl) (by rfl) 95 _ hV0 (by rw [HL.out]; exact infoKeys) (by rw [HL.out]; rfl) hone ?_; intro w4 hV4 hg4 hz4))
          have hkv := HKV.out w4 hV4 hg4
          have hB4 : Below w.heap.size w w4 := (hB3.alloc hB3.size _).grown hg4 (by simp; have := hB3.size; omega) fun k hk => by cases hk; exact hB3.size
          have hA4 := (hA3.alloc (.cells nils.toArray 95)).grown hg4 (fun e => by have := hA3.lt; simp at e; omega)
          clear hV0 hV4 hg4 hz4 hone HKV hA3 hB3
          by_cases h10 : by_ = 10
          · subst h10
            have HN9 : Hid (inB 10 0 9 = false) := Lib.hid (by decide)
            clear hbb
            go_wp2_with (first | (go_at_call 81; refine (isKey_impl _ _).mono ?_; rintro e w' ⟨rfl, rfl⟩; rw [HKB.out]) | (go_at_call 75; refine (isActionNumber_impl _ _).mono ?_; rintro e w' ⟨rfl, rfl⟩; rw [HN9.out]) | (refine wpList_load_arr rfl _ _ rfl _ (by rfl) 103 A hA4 _ _ Tryz.underlying103 (by rw [HAL.out]; exact infoArr) ?_) | (go_at_call 82; refine (keyRead_impl _ _ _ _ A kk 10 S L _ hkv HAL.out hkk HAA.out HOK.out).mono ?_; rintro e w5 ⟨rfl, hb5⟩))
            go_ret2
            exact ⟨by rw [HV.out]; rfl, hB4.trans (hb5.mono hB4.size)⟩
          · have HN9 : Hid (inB by_ 0 9 = true) := Lib.hid (inB_yes hbb.1 (by omega))
            clear hbb h10
            go_wp2_with (first | (go_at_call 81; refine (isKey_impl _ _).mono ?_; rintro e w' ⟨rfl, rfl⟩; rw [HKB.out]) | (go_at_call 75; refine (isActionNumber_impl _ _).mono ?_; rintro e w' ⟨rfl, rfl⟩; rw [HN9.out]) | (refine wpList_load_arr rfl _ _ rfl _ (by rfl) 103 A hA4 _ _ Tryz.underlying103 (by rw [HAL.out]; exact infoArr) ?_) | (go_at_call 82; refine (keyRead_impl _ _ _ _ A kk by_ S L _ hkv HAL.out hkk HAA.out HOK.out).mono ?_; rintro e w5 ⟨rfl, hb5⟩))
            go_ret2
            exact ⟨by rw [HV.out]; rfl, hB4.trans (hb5.mono hB4.size)⟩
/-- A cell of another block is stored. -/
theorem KV.setOther {w : World} {B g : Nat} {T e0 : TypeId} {F : Nat → List Ver} (h : KV w B g T e0 F) (a : Addr) (v : Value) (hg : a.block ≠ g) (hB : a.block < B) : KV (w.setCell a v) B g T e0 F := by
  obtain ⟨vs, h1, h2, h3⟩ := h
  exact ⟨vs, h1.keep (Below.heap_setCell _ _ _ _ (Ne.symm hg)), h2.keep fun k hk b hb => Below.heap_setCell _ _ _ _ fun e => by have := (h2.lt hk hb).1; omega, h3⟩
theorem ent_last {S : List Ent} {L : List Ver} (hS : storeB S = true) (hL : VOk L) (A : List Int) (hA : ∀ j : Nat, j < 32 → A.getD j 0 = (readL S L j 10).1) : ∀ k, k ≤ 32 → entTo A k = lastN S L k := by
  intro k
  induction k with
  | zero => intro _; rfl
  | succ k ih =>
    intro hk
    rw [entTo_next, ih (by omega), hA k (by omega), lastN]
    have hb := (readL_bd hS hL (k : Int) 10).1
    by_cases h0 : (readL S L k 10).1 = 0
    · rw [if_pos h0, if_neg (by omega), List.append_nil]
    · rw [if_neg h0, if_pos (by omega)]
set_option maxRecDepth 100000 in
set_option maxHeartbeats 8000000 in
theorem lastVersions_no (a : Option Addr) (n cap : Nat) (S : List Ent) (a2 : Option Addr) (m cap2 : Nat) (L : List Ver) (w : World) (h : RowE w a n S) (h2 : RowV w a2 m L) (hno : (storeB S && versB L) = false) :
    Calls Tryz.prog 24 #[.slice a n cap, .slice a2 m cap2] w (NewEN w 43 (lastVM S L)) := by
  have H2 := Lib.hid h2; clear h2
  have HV := Lib.hid (lastVM_no hno)
  have HN := Lib.hid hno
  clear hno
  go_enter Tryz.func24, Tryz.ntmps24
  go_wp2_with fail
  refine (valuesOf_any a n cap S _ h).mono ?_; rintro e w1 ⟨rfl, hb1⟩
  have hA0 := Arr.new w1 103 zeros
  have HAL := Lib.hid (valsM_len S)
  obtain ⟨A, hA⟩ : ∃ A, A = valsM S := ⟨_, rfl⟩
  rw [← hA] at HAL ⊢
  clear hA h
  go_upto_region 2 with (first | (refine wpList_store_arr' rfl _ _ _ rfl _ A (by rfl) (by rfl) 103 _ hA0 (by rw [HAL.out]; exact infoArr) (by rw [HAL.out]; rfl) ?_; intro w2 hA2 hg2 hz2))
  have hB2 : Below w.heap.size w w2 := (hb1.alloc hb1.size _).grown hg2 (by simp; have := hb1.size; omega) fun k hk => by cases hk; exact hb1.size
  obtain ⟨g1, hg1⟩ : ∃ g, g = w1.heap.size := ⟨_, rfl⟩
  rw [← hg1] at hA2 ⊢
  clear hA0 hg2 hz2 hb1 hg1
  go_wp2_with fail
  refine (versionsPerKey_impl a2 m cap2 L _ (H2.out.below hB2)).mono ?_; rintro e w3 ⟨vs, rfl, hK, hb3⟩
  have hB3 := hB2.trans (hb3.mono hB2.size)
  have hV0 := ArrV.new w3 95 nils
  have HL := Lib.hid hK.len
  have hone := hK.one
  clear hb3 hA2 hB2 hK
  cases hs : storeB S with
  | false =>
    clear hs
    go_wp2_with (first | (refine wpList_store_arrV rfl _ _ _ rfl _ vs (by rfl) (by rfl) 95 _ hV0 (by rw [HL.out]; exact infoKeys) (by rw [HL.out]; rfl) hone ?_; intro w4 hV4 hg4 hz4))
    go_ret
    rw [HV.out]
    exact ⟨_, rfl, World.ownsRow_nil _ _ _ _, fun x hx => (by cases hx), (hB3.alloc hB3.size _).grown hg4 (by simp; have := hB3.size; omega) fun k hk => by cases hk; exact hB3.size⟩
  | true =>
    cases hs2 : versB L with
    | true => exact absurd HN.out (by rw [hs, hs2]; decide)
    | false =>
      clear hs hs2
      go_wp2_with (first | (refine wpList_store_arrV rfl _ _ _ rfl _ vs (by rfl) (by rfl) 95 _ hV0 (by rw [HL.out]; exact infoKeys) (by rw [HL.out]; rfl) hone ?_; intro w4 hV4 hg4 hz4))
      go_ret
      rw [HV.out]
      exact ⟨_, rfl, World.ownsRow_nil _ _ _ _, fun x hx => (by cases hx), (hB3.alloc hB3.size _).grown hg4 (by simp; have := hB3.size; omega) fun k hk => by cases hk; exact hB3.size⟩
set_option maxRecDepth 100000 in
set_option maxHeartbeats 8000000 in
theorem lastVersions_yes (a : Option Addr) (n cap : Nat) (S : List Ent) (a2 : Option Addr) (m cap2 : Nat) (L : List Ver) (w : World) (h : RowE w a n S) (h2 : RowV w a2 m L) (hs : storeB S = true) (hs2 : versB L = true) :
    Calls Tryz.prog 24 #[.slice a n cap, .slice a2 m cap2] w (NewEN w 43 (lastVM S L)) := by
  have H2 := Lib.hid h2; clear h2
  have HV := Lib.hid (lastVM_yes hs hs2)
  have HS := Lib.hid hs
  have HS2 := Lib.hid hs2
  have HOK := Lib.hid ((versB_ok L).1 hs2)
  have HW := Lib.hid (wf_of_ok (ok_lastN hs ((versB_ok L).1 hs2)).2)
  have HEN := Lib.hid (fun A hA => ent_last hs ((versB_ok L).1 hs2) A hA 32 (Nat.le_refl _))
  clear hs hs2
  go_enter Tryz.func24, Tryz.ntmps24
  go_wp2_with fail
  refine (valuesOf_any a n cap S _ h).mono ?_; rintro e w1 ⟨rfl, hb1⟩
  rw [HS.out]
  have hA0 := Arr.new w1 103 zeros
  have HAL := Lib.hid (valsM_len S)
  have HAG : Hid (∀ k : Nat, k < 32 → (valsM S).getD k 0 = atM S k) := Lib.hid (fun k hk => by rw [show valsM S = arrOf S by simp [valsM, HS.out]]; exact arrOf_get S k hk)
  obtain ⟨A, hA⟩ : ∃ A, A = valsM S := ⟨_, rfl⟩
  rw [← hA] at HAL HAG ⊢
  clear hA h
  go_upto_region 2 with (first | (refine wpList_store_arr' rfl _ _ _ rfl _ A (by rfl) (by rfl) 103 _ hA0 (by rw [HAL.out]; exact infoArr) (by rw [HAL.out]; rfl) ?_; intro w2 hA2 hg2 hz2))
  have hB2 : Below w.heap.size w w2 := (hb1.alloc hb1.size _).grown hg2 (by simp; have := hb1.size; omega) fun k hk => by cases hk; exact hb1.size
  have hw1 := hb1.size
  obtain ⟨g1, hg1⟩ : ∃ g, g = w1.heap.size := ⟨_, rfl⟩
  rw [← hg1] at hA2 hw1 ⊢
  clear hA0 hg2 hz2 hb1 hg1
  go_wp2_with fail
  refine (versionsPerKey_impl a2 m cap2 L _ (H2.out.below hB2)).mono ?_; rintro e w3 ⟨vs, rfl, hK, hb3⟩
  rw [HS2.out]
  rw [perK_yes HS2.out] at hK
  have hB3 := hB2.trans (hb3.mono hB2.size)
  have hA3 := hA2.after hb3
  have hV0 := ArrV.new w3 95 nils
  have HL := Lib.hid hK.len
  have hone := hK.one
  have hgB := hA2.lt
  have hB0 := hB2.size
  obtain ⟨B0, hBB⟩ : ∃ B0, B0 = w2.heap.size := ⟨_, rfl⟩
  rw [← hBB] at hK hgB hB0
  have hKV0 := fun w2 hA hg => hK.laid (T := 95) (w5 := w2) (.cells nils.toArray 95) hA hg
  have HKV := Lib.hid hKV0
  clear hb3 hA2 hB2 hK hKV0 hBB
  go_upto_region 3 with (first | (refine wpList_store_arrV rfl _ _ _ rfl _ vs (by rfl) (by rfl) 95 _ hV0 (by rw [HL.out]; exact infoKeys) (by rw [HL.out]; rfl) hone ?_; intro w4 hV4 hg4 hz4))
  have hkv := HKV.out w4 hV4 hg4
  have hB4 : Below w.heap.size w w4 := (hB3.alloc hB3.size _).grown hg4 (by simp; have := hB3.size; omega) fun k hk => by cases hk; exact hB3.size
  have hA4 := (hA3.alloc (.cells nils.toArray 95)).grown hg4 (fun e => by have := hA3.lt; simp at e; omega)
  have hg13 : g1 ≠ w3.heap.size := by have := hA3.lt; omega
  obtain ⟨g2, hg2⟩ : ∃ g, g = w3.heap.size := ⟨_, rfl⟩
  rw [← hg2] at hkv hg13 ⊢
  clear hV0 hg4 hz4 hone HKV hA3 hB3 hV4 hg2
  go_wp2
  go_loopw [9, 26] (fun _ i wr => ∃ (k : Nat) (A : List Int), k ≤ 32 ∧ i = .int .i64 k ∧ A.length = 32 ∧ Hid (∀ j : Nat, j < k → A.getD j 0 = (readL S L j 10).1) ∧ Hid (∀ j : Nat, k ≤ j → j < 32 → A.getD j 0 = atM S j) ∧ Arr wr g1 103 A ∧ KV wr B0 g2 95 73 (ofK L) ∧ Below w.heap.size w wr) (fun _ i _ => 32 - (intOf i).toNat)
  case atStart => exact ⟨0, A, by omega, rfl, HAL.out, Lib.hid (fun j hj => absurd hj (Nat.not_lt_zero j)), Lib.hid (fun j _ hj => HAG.out j hj), hA4, hkv, hB4⟩
  case round =>
    clear hA4 hkv hB4 HAL HAG
    obtain ⟨k, A, hk, rfl, hAl, HLO, HHI, hA, hkv, hB⟩ := hrel
    have HAL := Lib.hid hAl
    clear hAl
    by_cases hlt : k < 32
    · have hAK := HHI.out k (Nat.le_refl _) hlt
      have hkb := readL_bd HS.out HOK.out (k : Int) 10
      have q1 : (0 : Int) ≤ (k : Int) := by omega
      have q2 : (k : Int) < 32 := by omega
      have HRK := Lib.hid (fun w' hkv' => keyRead_impl g2 B0 95 73 A k 10 S L w' hkv' HAL.out hlt hAK HOK.out)
      obtain ⟨v, hv⟩ : ∃ v, v = (readL S L (k : Int) 10).1 := ⟨_, rfl⟩
      have HVV := Lib.hid hv
      clear hAK hkb hv
      go_wp2_with (first | (refine wpList_load_arr rfl _ _ rfl _ (by rfl) 103 A hA _ _ Tryz.underlying103 (by rw [HAL.out]; exact infoArr) ?_) | (go_at_call 82; refine (HRK.out _ hkv).mono ?_; rintro e w5 ⟨rfl, hb5⟩; rw [← HVV.out]; have hA5 := hA.after hb5; have hc5 := hA5.cell k (by rw [HAL.out]; exact hlt); have hf5 := hA5.frozen k; have hkv5 := hkv.below hb5))
      have hA6 := hA5.set k v
      have hkv6 := hkv5.setOther ⟨g1, k, none⟩ (.int .i64 v) hg13 hgB
      have hB6 : Below w.heap.size w (w5.setCell ⟨g1, k, none⟩ (.int .i64 v)) := (hB.trans (hb5.mono hB.size)).setCell hw1 _
      obtain ⟨w6, hw6⟩ : ∃ w6, w6 = w5.setCell ⟨g1, k, none⟩ (.int .i64 v) := ⟨_, rfl⟩
      rw [← hw6] at hA6 hkv6 hB6 ⊢
      clear hw6 hA5 hc5 hf5 hkv5 hb5 hA hkv hB HRK
      go_roundw
      case rel => exact ⟨k + 1, A.set k v, by omega, by go_num, by rw [List.length_set]; exact HAL.out, Lib.hid (fun j hj => by
        by_cases e : j = k
        · subst e; rw [List.getD_eq_getElem?_getD, List.getElem?_set_self (by rw [HAL.out]; exact hlt)]; exact HVV.out
        · rw [List.getD_eq_getElem?_getD, List.getElem?_set_ne (Ne.symm e), ← List.getD_eq_getElem?_getD]; exact HLO.out j (by omega)), Lib.hid (fun j h1 h2 => by
        rw [List.getD_eq_getElem?_getD, List.getElem?_set_ne (by omega), ← List.getD_eq_getElem?_getD]; exact HHI.out j (by omega) h2), hA6, hkv6, hB6⟩
      case measure => simp [intOf]; omega
    · obtain rfl : k = 32 := by omega
      have HE := Lib.hid (HEN.out A HLO.out)
      go_wp2_with (first | (refine wpList_load_arr rfl _ _ rfl _ (by rfl) 103 A hA _ _ Tryz.underlying103 (by rw [HAL.out]; exact infoArr) ?_) | (go_at_call 83; refine (entries_impl A _ HAL.out).mono ?_; rintro e w5 ⟨v, rfl, ho, hb5⟩))
      go_ret
      rw [HV.out]
      rw [HE.out] at ho
      exact ⟨_, rfl, owns_mono ho hB.size, HW.out, hB.trans (hb5.mono hB.size)⟩
theorem lastVersions_impl (a : Option Addr) (n cap : Nat) (S : List Ent) (a2 : Option Addr) (m cap2 : Nat) (L : List Ver) (w : World) (h : RowE w a n S) (h2 : RowV w a2 m L) :
    Calls Tryz.prog 24 #[.slice a n cap, .slice a2 m cap2] w (NewEN w 43 (lastVM S L)) := by
  cases hh : (storeB S && versB L) with
  | false => exact lastVersions_no a n cap S a2 m cap2 L w h h2 hh
  | true =>
    rw [Bool.and_eq_true] at hh
    exact lastVersions_yes a n cap S a2 m cap2 L w h h2 hh.1 hh.2
end Go.Proofs.YtaaffpolmecicabGreat
