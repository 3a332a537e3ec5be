/- The walk of the law FnLayerStore. -/
import Derived.Test.YtcaombogffmopaaLawStoreLExact
import Derived.Test.YtcaombogffmopaaLawFork
namespace Go.Proofs.Ytcaombogffmopaa
open Go.RowKit
set_option linter.unusedVariables false
theorem storeM_no {S : List Ent} {L : List Lay} {n : Int} (h : (storeB S && layersB L && inB n (-1) ((L.length : Int) - 1)) = false) : layerStoreM S L n = [] := by
  rw [layerStoreM_eq, h]; rfl
set_option maxRecDepth 100000 in
set_option maxHeartbeats 1000000 in
theorem lawLayerStore (a : Option Addr) (len cap : Nat) (z : List Int) (w : World) (h : RowB w a len z) (hc : a = none → cap = 0) (hlc : len ≤ cap) :
    Calls Try.prog 7 #[.slice a len cap] w (LawTrue w) := by
  by_cases hs : len ≤ 1048576
  · have hs' : ¬ (1048576 : Int) < (len : Int) := by omega
    go_enter Try.func7, Try.ntmps7
    go_wp2_with fail
    refine (drawLayerStore_any a len cap z w h hlc).mono ?_; rintro e w1 ⟨s, S, v, L, n, rfl, ⟨gs, cs, rfl, hrs, hsl⟩, ⟨av, cv, rfl, hrl, hnil, hlen, hsm⟩, hn0, hn1, hb1⟩
    have hl20 := hsm.1
    clear h hs hs' hsm hnil
    go_wp2_with fail
    refine (layerStore_impl _ _ _ _ cs cv S L n _ hrs hrl hlen).mono ?_; rintro e w2 ⟨vx, rfl, hox, hwx, hb2'⟩
    have hb2 := hb1.trans (hb2'.mono hb1.size)
    have hrs2 := hrs.below hb2'
    have hrl2 := hrl.below hb2'
    have hpl := storeM_len S L n
    obtain ⟨P, hP⟩ : ∃ P, P = layerStoreM S L n := ⟨_, rfl⟩
    have HP := Lib.hid hP
    rw [← hP] at hox hwx hpl
    clear hP
    obtain ⟨gx, cx, rfl, hrx, -⟩ := rowE_of_owns hox (by omega) hwx
    clear hrs hrl hb2' hox
    go_wp2_with fail
    refine (layerStore_spec _ _ _ _ cs cv S L n _ hrs2 hrl2).mono ?_; rintro e w3 ⟨vy, rfl, hoy, hwy, hb3'⟩
    have hb3 := hb2.trans (hb3'.mono hb2.size)
    rw [← HP.out] at hoy hwy
    obtain ⟨gy, cy, rfl, -, hry⟩ := rowE_of_own hoy (by omega) hwy
    have hrs3 := hrs2.below hb3'
    have hrl3 := hrl2.below hb3'
    have hrx3 := hrx.below hb3'
    clear hrs2 hrl2 hrx hb3' hoy hb2
    go_wp2_with fail
    refine (sameStore_same _ _ _ cx cy P _ hrx3 hry).mono ?_; rintro e w4 ⟨rfl, hd4⟩
    have hb4 := hb3.trans (hd4.below _)
    have hrs4 := hrs3.below (hd4.below w3.heap.size)
    have hrl4 := hrl3.below (hd4.below w3.heap.size)
    have hrx4 := hrx3.below (hd4.below w3.heap.size)
    clear hrs3 hrl3 hrx3 hry hd4 hb3
    go_wp2_with fail
    refine (storeValid_spec _ _ cs S _ hrs4).mono ?_; rintro e w5 ⟨rfl, hd5⟩
    have hb5 := hb4.trans (hd5.below _)
    have hrs5 := hrs4.below (hd5.below w4.heap.size)
    have hrl5 := hrl4.below (hd5.below w4.heap.size)
    have hrx5 := hrx4.below (hd5.below w4.heap.size)
    clear hrs4 hrl4 hrx4 hd5 hb4
    cases hS : storeB S with
    | false =>
      have HE : Hid (P.length = 0) := Lib.hid (by rw [HP.out, storeM_no (by rw [hS]; rfl)]; rfl)
      rw [HE.out]
      clear hS
      go_wp2_with fail
      refine (alive_any _).mono ?_; rintro e w6 ⟨rfl, hb6⟩
      go_wp2
      go_ret
      exact ⟨rfl, hb5.trans (hb6.mono hb5.size)⟩
    | true =>
      have HS := Lib.hid hS
      clear hS
      go_wp2_with fail
      refine (layersValid_spec _ _ cv L _ hrl5).mono ?_; rintro e w6 ⟨rfl, hd6⟩
      have hb6 := hb5.trans (hd6.below _)
      have hrs6 := hrs5.below (hd6.below w5.heap.size)
      have hrl6 := hrl5.below (hd6.below w5.heap.size)
      have hrx6 := hrx5.below (hd6.below w5.heap.size)
      clear hrs5 hrl5 hrx5 hd6 hb5
      cases hL : layersB L with
      | false =>
        have HE : Hid (P.length = 0) := Lib.hid (by rw [HP.out, storeM_no (by rw [hL, HS.out]; rfl)]; rfl)
        rw [HE.out]
        clear hL
        go_wp2_with fail
        refine (alive_any _).mono ?_; rintro e w7 ⟨rfl, hb7⟩
        go_wp2
        go_ret
        exact ⟨rfl, hb6.trans (hb7.mono hb6.size)⟩
      | true =>
        have HL := Lib.hid hL
        clear hL
        by_cases hlow : n < -1
        · have HE : Hid (P.length = 0) := Lib.hid (by rw [HP.out, storeM_no (by rw [HS.out, HL.out, inB_no (n := n) (by omega)]; rfl)]; rfl)
          rw [HE.out]
          go_wp2_with fail
          refine (alive_any _).mono ?_; rintro e w7 ⟨rfl, hb7⟩
          go_wp2
          go_ret
          exact ⟨rfl, hb6.trans (hb7.mono hb6.size)⟩
        · by_cases hhigh : (L.length : Int) ≤ n
          · have HE : Hid (P.length = 0) := Lib.hid (by rw [HP.out, storeM_no (by rw [HS.out, HL.out, inB_no (n := n) (by omega)]; rfl)]; rfl)
            rw [HE.out]
            go_wp2_with fail
            refine (alive_any _).mono ?_; rintro e w7 ⟨rfl, hb7⟩
            go_wp2
            go_ret
            exact ⟨rfl, hb6.trans (hb7.mono hb6.size)⟩
          · have hlb : decide (n < -1) = false := by simp; omega
            have hhb : decide ((L.length : Int) ≤ n) = false := by simp; omega
            have HPV : Hid (storeB P = true) := Lib.hid (by rw [HP.out]; exact (storeB_ok _).2 (store_valid HS.out HL.out (by omega) (by omega)).2)
            by_cases hneg : n < 0
            · obtain rfl : n = -1 := by omega
              have HPS : Hid (P = S) := Lib.hid (by rw [HP.out]; exact store_base HS.out HL.out)
              have hrs7 : RowE w6 (some ⟨gs, 0, none⟩) S.length P := by rw [HPS.out]; exact hrs6
              have hlPS : P.length = S.length := by rw [HPS.out]
              rw [hlPS] at hrx6 ⊢
              clear hlPS hlow hhigh hneg
              go_wp2_with fail
              refine (sameStore_same _ _ _ cx cs P _ hrx6 hrs7).mono ?_; rintro e w7 ⟨rfl, hd7⟩
              go_wp2
              go_ret
              exact ⟨rfl, hb6.trans (hd7.below _)⟩
            · obtain ⟨nn, rfl⟩ : ∃ nn : Nat, n = (nn : Int) := ⟨n.toNat, by omega⟩
              have hnL : nn < L.length := by omega
              obtain ⟨b, off, rfl, hcc⟩ := hrl6.2.2.1 (by omega)
              obtain ⟨c1, xw, c2, hsl2⟩ := hcc nn hnL
              have hbB : b < w6.heap.size := World.block_lt_of_cell? w6 ⟨b, off + nn * 2, none⟩ c1
              have HCH := Lib.hid (changed_written HS.out HL.out hnL)
              obtain ⟨y, hy⟩ : ∃ y, y = (L.getD nn (0, [])).1 := ⟨_, rfl⟩
              obtain ⟨ws, hws⟩ : ∃ ws, ws = (L.getD nn (0, [])).2 := ⟨_, rfl⟩
              rw [← hy] at c1 HCH
              rw [← hws] at hsl2 HCH
              rw [← HP.out] at HCH
              clear hcc hy hws hlow hhigh hneg
              go_wp2_with fail
              refine (layerStore_impl _ _ _ _ cs cv S L y _ hrs6 hrl6 hlen).mono ?_; rintro e w7 ⟨v7, rfl, ho7, hw7, hb7'⟩
              have hb7 := hb6.trans (hb7'.mono hb6.size)
              have hq := storeM_len S L y
              obtain ⟨Q, hQ⟩ : ∃ Q, Q = layerStoreM S L y := ⟨_, rfl⟩
              rw [← hQ] at ho7 hw7 hq HCH
              clear hQ
              obtain ⟨g7, c7, rfl, hr7, -⟩ := rowE_of_owns ho7 (by omega) hw7
              have hrx7 := hrx6.below hb7'
              have c17 := (hb7'.cell (p := ⟨b, off + nn * 2, none⟩) hbB).trans c1
              have c27 := (hb7'.cell (p := ⟨b, off + nn * 2 + 1, none⟩) hbB).trans c2
              have hsl7 := hsl2.below hb7'
              have hbB7 : b < w7.heap.size := Nat.lt_of_lt_of_le hbB hb7'.size
              clear hrs6 hrl6 hrx6 ho7 hb7' c1 c2 hsl2 hb6 hbB
              go_wp2_with fail
              refine (changedKeys_impl _ _ _ _ c7 cx Q P _ hr7 hrx7).mono ?_; rintro e w8 ⟨v8, rfl, ho8, hw8, hb8'⟩
              have hb8 := hb7.trans (hb8'.mono hb7.size)
              have hkl : (changedM Q P).length ≤ 32 := by
                unfold changedM; split
                · exact Nat.le_trans (List.length_filter_le _ _) (by simp)
                · simp
              obtain ⟨K, hK⟩ : ∃ K, K = changedM Q P := ⟨_, rfl⟩
              rw [← hK] at ho8 hw8 hkl HCH
              clear hK
              obtain ⟨g8, c8, rfl, hr8⟩ := rowI_of_owns ho8 (by unfold maxLen; omega) hw8
              have hrx8 := hrx7.below hb8'
              have c28 := (hb8'.cell (p := ⟨b, off + nn * 2 + 1, none⟩) hbB7).trans c27
              obtain ⟨aw, nw, cw, rfl, hrw, -, -⟩ := hsl7.below hb8'
              have hbB8 : b < w8.heap.size := Nat.lt_of_lt_of_le hbB7 hb8'.size
              have hnw := hrw.1
              clear hrx7 hr7 ho8 hb8' c17 c27 hsl7 hb7 hbB7
              have HKI := Lib.hid (fun k hk => HCH.out (K.getD k 0) (getD_mem K k hk))
              clear HCH
              go_wp2_with fail
              go_loopw [8] (fun i wr => ∃ k : Nat, k ≤ K.length ∧ i = .int .i64 k ∧ Below w8.heap.size w8 wr) (fun i _ => K.length - (intOf i).toNat)
              case atStart => exact ⟨0, Nat.zero_le _, rfl, Below.refl _ _⟩
              case round =>
                obtain ⟨k, hk, rfl, hbr⟩ := hrel
                have hbw := hb8.trans (hbr.mono hb8.size)
                by_cases hlt : k < K.length
                · have hfnd := hasTo_all (HKI.out k hlt)
                  rw [hnw] at hfnd
                  have HFND := Lib.hid hfnd
                  obtain ⟨bk, ok, rfl, hck⟩ := hr8.2.2.1 (by omega)
                  have hkc0 := hck k hlt
                  have hbK : bk < w8.heap.size := World.block_lt_of_cell? w8 ⟨bk, ok + k, none⟩ hkc0
                  obtain ⟨key, hkey⟩ : ∃ key, key = K.getD k 0 := ⟨_, rfl⟩
                  rw [← hkey] at hkc0 HFND
                  clear hkey hck hfnd
                  have HRW := Lib.hid hrw
                  have hnwm := hrw.2.1
                  unfold maxLen at hnwm
                  clear hrw hnw
                  go_wp2_with fail
                  obtain ⟨wo, hwo⟩ : ∃ wo, wo = wr := ⟨wr, rfl⟩
                  subst hwo
                  go_loopw [9, 10] (fun o i wr => ∃ j : Nat, j ≤ nw ∧ i = .int .i64 j ∧ o = .bool (hasTo ws key j) ∧ Below w8.heap.size w8 wr) (fun _ i _ => nw - (intOf i).toNat)
                  case atStart => exact ⟨0, Nat.zero_le _, rfl, by rw [hasTo_zero], hbr⟩
                  case round =>
                    clear hbr hbw
                    obtain ⟨j, hj, rfl, rfl, hbr⟩ := hrel
                    have c2r := (hbr.cell (p := ⟨b, off + nn * 2 + 1, none⟩) hbB8).trans c28
                    by_cases hjn : j < nw
                    · have hkc := (hbr.cell (p := ⟨bk, ok + k, none⟩) hbK).trans hkc0
                      obtain ⟨bw, ow, rfl, hcw⟩ := HRW.out.2.2.1 (by omega)
                      have hbW : bw < w8.heap.size := World.block_lt_of_cell? w8 ⟨bw, ow + j * 2, none⟩ (hcw j hjn).1
                      have hkw := (hbr.cell (p := ⟨bw, ow + j * 2, none⟩) hbW).trans (hcw j hjn).1
                      have HNX := Lib.hid (hasTo_next ws key j (by rw [HRW.out.1]; exact hjn))
                      obtain ⟨p, hp⟩ : ∃ p, p = (ws.getD j (0, 0)).1 := ⟨_, rfl⟩
                      rw [← hp] at hkw HNX
                      clear hp hcw
                      cases hf : hasTo ws key j with
                      | true =>
                        have HN2 : Hid (hasTo ws key (j + 1) = true) := Lib.hid (by rw [HNX.out, hf]; rfl)
                        clear hf HNX
                        go_wp2
                        go_quiet (fail)
                        go_wp2
                        go_roundw
                        case rel => exact ⟨j + 1, by omega, by go_num, by rw [HN2.out], below_drewN' hbr _⟩
                        case measure => simp [intOf]; omega
                      | false =>
                        have HN2 : Hid (hasTo ws key (j + 1) = (p == key)) := Lib.hid (by rw [HNX.out, hf]; simp)
                        clear hf HNX
                        go_wp2
                        go_quiet (fail)
                        go_wp2
                        go_roundw
                        case rel => exact ⟨j + 1, by omega, by go_num, by rw [HN2.out], below_drewN' hbr _⟩
                        case measure => simp [intOf]; omega
                    · obtain rfl : j = nw := by omega
                      rw [HFND.out]
                      go_wp2
                      go_roundw
                      case rel => exact ⟨k + 1, by omega, by go_num, hbr⟩
                      case measure => simp [intOf]; omega
                · have hrxr := hrx8.below hbr
                  go_wp2_with fail
                  refine (storeValid_impl _ _ cx P _ hrxr).mono ?_; rintro e w9 ⟨rfl, hb9⟩
                  have hb9' := hbw.trans (hb9.mono hbw.size)
                  rw [HPV.out]
                  go_wp2
                  go_ret
                  exact ⟨rfl, hb9'⟩
  · have hs' : (1048576 : Int) < (len : Int) := by omega
    clear h hlc
    go_enter Try.func7, Try.ntmps7
    go_wp2
    go_ret
    exact ⟨rfl, Below.refl _ _⟩
end Go.Proofs.Ytcaombogffmopaa
