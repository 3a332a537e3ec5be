/- The walk of the law FnReadVersion. -/
import Derived.Test.YtncedcliklpapaaDrawVer2
import Derived.Test.YtncedcliklpapaaImplVer2
import Derived.Test.YtncedcliklpapaaTwo
import Derived.Test.YtncedcliklpapaaOne
namespace Go.Proofs.Ytncedcliklpapaa
open Go.RowKit
set_option linter.unusedVariables false
set_option linter.unusedSimpArgs false
/-- The versions of earlier actions. -/
def earlyL (L : List Ver) (by_ : Int) : List Ver := L.filter (fun x => decide (x.by_ < by_))
theorem early_next (L : List Ver) (by_ : Int) (k : Nat) (h : k < L.length) : earlyL (L.take (k + 1)) by_ = if (L.getD k noV).by_ < by_ then earlyL (L.take k) by_ ++ [L.getD k noV] else earlyL (L.take k) by_ := by
  have e : L.take (k + 1) = L.take k ++ [L.getD k noV] := by
    rw [List.take_succ_eq_append_getElem h, List.getD_eq_getElem?_getD, List.getElem?_eq_getElem h]; rfl
  unfold earlyL
  rw [e, List.filter_append]
  by_cases hc : (L.getD k noV).by_ < by_
  · rw [if_pos hc]
    simp only [List.filter_cons, List.filter_nil]
    rw [if_pos (by rw [decide_eq_true_eq]; exact hc)]
  · rw [if_neg hc]
    simp only [List.filter_cons, List.filter_nil]
    rw [if_neg (by rw [decide_eq_true_eq]; exact hc), List.append_nil]
theorem early_read {S : List Ent} {L : List Ver} (hL : versB L = true) (key by_ : Int) : versB (earlyL L by_) = true ∧ readL S (earlyL L by_) key by_ = readL S L key by_ := by
  have h1 := (versB_ok L).1 hL
  have h2 : VOk (earlyL L by_) := h1.sub List.filter_sublist
  exact ⟨(versB_ok _).2 h2, readL_congr h2 h1 rfl fun x _ hb => by simp only [earlyL, List.mem_filter, decide_eq_true_eq]; exact ⟨fun h => h.1, fun h => ⟨h, hb⟩⟩⟩
theorem early_len (L : List Ver) (by_ : Int) (k : Nat) : (earlyL (L.take k) by_).length ≤ L.length := by
  refine Nat.le_trans (List.length_filter_le _ _) ?_
  rw [List.length_take]; omega
/-- What the law asks of the numbers that are read. -/
theorem read_parts {S : List Ent} {L : List Ver} {key by_ : Int} : readVM S L key by_ = (-1, -1) ∨
    (storeB S = true ∧ versB L = true ∧ inB key 0 31 = true ∧ inB by_ 0 10 = true ∧ readVM S L key by_ = readL S L key by_ ∧ 0 ≤ (readL S L key by_).1 ∧ (readL S L key by_).2 < by_ ∧ ((readL S L key by_).2 < 0 → (readL S L key by_).1 = valueM S key) ∧ readVM S (earlyL L by_) key by_ = readL S L key by_) := by
  cases h1 : storeB S with
  | false => exact .inl (readVM_no (by rw [h1]; rfl))
  | true =>
    cases h2 : versB L with
    | false => exact .inl (readVM_no (by rw [h1, h2]; rfl))
    | true =>
      cases h3 : inB key 0 31 with
      | false => exact .inl (readVM_no (by rw [h1, h2, h3]; rfl))
      | true =>
        cases h4 : inB by_ 0 10 with
        | false => exact .inl (readVM_no (by rw [h1, h2, h3, h4]; rfl))
        | true =>
          obtain ⟨b1, b2, b3, b4, b5⟩ := readL_bd h1 ((versB_ok L).1 h2) key by_
          have hb := inB_true h4
          obtain ⟨e1, e2⟩ := early_read (S := S) h2 key by_
          refine .inr ⟨rfl, rfl, rfl, rfl, readVM_yes h1 h2 h3 h4, b1.1, b4 hb.1, fun h => ?_, by rw [readVM_yes h1 e1 h3 h4, e2]⟩
          rw [b5 h]; unfold valueM; rw [h1, h3]; rfl
set_option maxHeartbeats 4000000 in
theorem lawReadVersion (a : Option Addr) (len cap : Nat) (z : List Int) (w : World) (h : RowB w a len z) (hc : a = none → cap = 0) (hlc : len ≤ cap) :
    Calls Try.prog 4 #[.slice a len cap] w (LawTrue w) := by
  by_cases hs : len ≤ 1048576
  · have hs' : ¬ (1048576 : Int) < (len : Int) := by omega
    go_enter Try.func4, Try.ntmps4
    go_wp2_with fail
    refine (drawReadVersion_any a len cap z w h hlc).mono ?_; rintro e w1 ⟨g0, c0, S, g, c, L, key, by_, rfl, hrS, hr, hcc, hSl, hl3, hk, hbk, hb1⟩
    clear h hs hs' hc hlc
    obtain ⟨n, hn⟩ : ∃ n, n = L.length := ⟨_, rfl⟩
    have HL := Lib.hid hn.symm
    obtain ⟨m, hm⟩ : ∃ m, m = S.length := ⟨_, rfl⟩
    rw [← hn] at hr hcc hl3 ⊢
    rw [← hm] at hrS hSl ⊢
    clear hn hm
    have HP := Lib.hid (read_parts (S := S) (L := L) (key := key) (by_ := by_))
    obtain ⟨zz, hz⟩ : ∃ zz, readVM S L key by_ = zz := ⟨_, rfl⟩
    rw [hz] at HP
    have HZ := Lib.hid hz
    clear hz
    obtain ⟨z1, z2⟩ := zz
    have hv1 : (z1 != z1) = false := by simp
    have hv2 : (z2 != z2) = false := by simp
    go_wp2_with fail
    refine (readVersion_impl _ m c0 S _ n c L key by_ _ hrS hr).mono ?_; rintro e w2 ⟨rfl, hb2'⟩
    rw [HZ.out]
    have hrS2 := hrS.below hb2'
    have hr2 := hr.below hb2'
    have hb2 := hb1.trans (hb2'.mono hb1.size)
    clear hrS hr hb1 hb2'
    go_wp2_with fail
    refine (readVersion_spec _ m c0 S _ n c L key by_ _ hrS2 hr2).mono ?_; rintro e w3 ⟨rfl, hb3'⟩
    rw [HZ.out]
    have hrS3 := hrS2.below hb3'
    have hr3 := hr2.below hb3'
    have hb3 := hb2.trans (hb3'.mono hb2.size)
    clear hrS2 hr2 hb2 hb3'
    rcases HP.out with hp | ⟨-, -, -, -, hp, hp0, hp1, hp2, hp3⟩
    · simp only [Prod.mk.injEq] at hp
      obtain ⟨rfl, rfl⟩ := hp
      clear hrS3 hr3
      go_wp2_with fail
      refine (alive_any _).mono ?_; rintro e w5 ⟨rfl, hb5'⟩
      go_wp2
      go_ret
      exact ⟨rfl, hb3.trans (hb5'.mono hb3.size)⟩
    · rw [← hp] at hp0 hp1 hp2 hp3
      simp only at hp0 hp1 hp2
      have hz0 : decide (z1 < 0) = false := by simp; omega
      have HP1 := Lib.hid hp1
      have HP2 := Lib.hid hp2
      have HP3 := Lib.hid hp3
      have hE0 : Own (w3.alloc (.cells #[] 28)) w3.heap.size 28 3 (.slice (some ⟨w3.heap.size, 0, none⟩) 0 0) (earlyL (L.take 0) by_).length (flatV (earlyL (L.take 0) by_)) := own_lit 28 3 #[] 0 (Nat.le_refl _) (by simp) rfl
      have hbl := (Below.refl w3.heap.size w3).alloc (Nat.le_refl _) (.cells #[] 28)
      have HE0 := Lib.hid (And.intro hE0 hbl)
      have HR := Lib.hid hr3
      have HRS := Lib.hid hrS3
      have HB := Lib.hid hb3
      have HWF := Lib.hid hr3.2.2.2
      clear hp hp0 hp1 hp2 hp3 HP hE0 hbl hr3 hrS3 hb3
      go_wp2
      go_loopw [11, 12] (fun q i wr => ∃ k : Nat, k ≤ n ∧ i = .int .i64 k ∧ Own wr w3.heap.size 28 3 q (earlyL (L.take k) by_).length (flatV (earlyL (L.take k) by_)) ∧ Below w3.heap.size w3 wr) (fun _ i _ => n - (intOf i).toNat)
      case atStart => exact ⟨0, Nat.zero_le _, rfl, HE0.out.1, HE0.out.2⟩
      case round =>
        clear HE0
        obtain ⟨k, hk2, rfl, ho, hb⟩ := hrel
        by_cases hlt : k < n
        · obtain ⟨d0, d1, d2⟩ := (HR.out.below hb).cells hlt
          have HN := Lib.hid (early_next L by_ k (by rw [HL.out]; exact hlt))
          have hel := early_len L by_ k
          rw [HL.out] at hel
          obtain ⟨D, hD⟩ : ∃ D, D = earlyL (L.take k) by_ := ⟨_, rfl⟩
          obtain ⟨x, hx⟩ : ∃ x, x = L.getD k noV := ⟨_, rfl⟩
          rw [← hD] at ho hel HN
          rw [← hx] at d0 d1 d2 HN
          clear hx hD
          obtain ⟨p, q, r⟩ := x
          simp only [Nat.zero_add] at d0 d1 d2 HN
          obtain ⟨gX, cX, hvX, -, -⟩ := ho.slice
          subst hvX
          have hsz := hb.size
          cases e1 : decide (q < by_) with
          | false =>
            have HF : Hid (earlyL (L.take (k + 1)) by_ = D) := Lib.hid (by rw [HN.out, if_neg (by simpa using e1)])
            have HO := Lib.hid ho
            clear HN ho
            go_wp2
            go_roundw
            case rel => exact ⟨k + 1, by omega, by go_num, by rw [HF.out]; exact HO.out, hb⟩
            case measure => simp [intOf]; omega
          | true =>
            have HF : Hid (earlyL (L.take (k + 1)) by_ = D ++ [⟨p, q, r⟩]) := Lib.hid (by rw [HN.out, if_pos (by simpa using e1)])
            clear HN
            go_wp2_with (at_builtin; refine wpList_append_one rfl _ _ 23 rfl w3.heap.size 28 _ (.agg #[.int .i64 0, .int .i64 0, .int .i64 0]) 3 24 Try.underlying23 infoVer rfl (by decide) _ _ _ [.int .i64 p, .int .i64 q, .int .i64 r] (by rfl) ho (by rfl) rfl ?c1 ?c2 (by decide) ?c3 ?_)
            case c1 => exact celV_one ⟨p, q, r⟩
            case c2 => omega
            case c3 => exact hsz
            intro v4 w4 ho4 hg4
            have hb4 : Below w3.heap.size w3 w4 := (hb.alloc hb.size _).grown hg4 (by simp; omega) (fun k hk => (ho.1.lt k hk).1)
            have HO : Hid (Own w4 w3.heap.size 28 3 v4 (D ++ [(⟨p, q, r⟩ : Ver)]).length (flatV (D ++ [⟨p, q, r⟩]))) := Lib.hid (by rw [List.length_append, flatV_append]; exact ho4)
            clear ho ho4 hg4 hb d0 d1 d2
            go_wp2
            go_roundw
            case rel => exact ⟨k + 1, by omega, by go_num, by rw [HF.out]; exact HO.out, hb4⟩
            case measure => simp [intOf]; omega
        · obtain rfl : k = n := by omega
          have e : L.take k = L := List.take_of_length_le (by rw [HL.out]; omega)
          rw [e] at ho
          obtain ⟨gE, cE, rfl, -, -, hrE, -⟩ := rowV_of_own ho (by have := early_len L by_ k; rw [e, HL.out] at this; omega) (fun x hx => HWF.out x (List.mem_filter.1 hx).1)
          have hrS4 := HRS.out.below hb
          have hb4 := HB.out.trans (hb.mono HB.out.size)
          clear ho e hb
          go_wp2_with fail
          refine (readVersion_impl _ m c0 S _ _ cE (earlyL L by_) key by_ _ hrS4 hrE).mono ?_; rintro e w5 ⟨rfl, hb5'⟩
          rw [HP3.out]
          have hrS5 := hrS4.below hb5'
          have hb5 := hb4.trans (hb5'.mono hb4.size)
          have hq1 : decide (z2 < by_) = true := by have := HP1.out; simp; exact this
          have hq2 : (z1 == z1) = true := by simp
          have hq3 : (z2 == z2) = true := by simp
          clear hrS4 hb4 hb5' hrE
          by_cases hz2 : 0 ≤ z2
          · have hq4 : decide (0 ≤ z2) = true := by simp; exact hz2
            clear hrS5
            go_wp2
            go_ret
            exact ⟨rfl, hb5⟩
          · have hq4 : decide (0 ≤ z2) = false := by simp; omega
            have HV := Lib.hid (HP2.out (by omega)).symm
            go_wp2_with fail
            refine (valueAt_impl _ m c0 S key _ hrS5).mono ?_; rintro e w6 ⟨rfl, hb6'⟩
            rw [HV.out]
            have hb6 := hb5.trans (hb6'.mono hb5.size)
            go_wp2
            go_ret
            exact ⟨rfl, hb6⟩
  · have hs' : (1048576 : Int) < (len : Int) := by omega
    clear h hlc
    go_enter Try.func4, Try.ntmps4
    go_wp2
    go_ret
    exact ⟨rfl, Below.refl _ _⟩
end Go.Proofs.Ytncedcliklpapaa
