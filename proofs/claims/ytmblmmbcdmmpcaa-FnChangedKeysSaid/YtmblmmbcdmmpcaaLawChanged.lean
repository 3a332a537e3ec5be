/- The walk of the law FnChangedKeys. -/
import Derived.Test.YtmblmmbcdmmpcaaLawPut
import Derived.Test.YtmblmmbcdmmpcaaSpecChanged
import Derived.Test.YtmblmmbcdmmpcaaImplChanged
import Derived.Test.YtmblmmbcdmmpcaaSameInts
import Derived.Test.YtmblmmbcdmmpcaaConvI
import Derived.Deep.RegionWith
namespace Go.Proofs.Ytmblmmbcdmmpcaa
open Go.RowKit
set_option linter.unusedVariables false
theorem changedM_len' (a b : List Ent) : (changedM a b).length ≤ 32 := by
  unfold changedM; split
  · exact Nat.le_trans (List.length_filter_le _ _) (by simp)
  · simp
theorem changedM_comm (a b : List Ent) : changedM a b = changedM b a := by
  unfold changedM
  by_cases h1 : storeB a = true <;> by_cases h2 : storeB b = true <;> simp [h1, h2]
  exact List.filter_congr fun x _ => by simp [eq_comm]
theorem changedM_self (a : List Ent) : changedM a a = [] := by unfold changedM; split <;> simp
/-- The values of b put one after the other. -/
def putAll (a b : List Ent) (ks : List Int) : List Ent := ks.foldl (fun s key => putRaw key (atM b key) s) a
theorem putAll_snoc (a b : List Ent) (ks : List Int) (k : Int) : putAll a b (ks ++ [k]) = putRaw k (atM b k) (putAll a b ks) := by simp [putAll]
theorem putAll_ok {a b : List Ent} (ha : Ok a) (hb : Ok b) : ∀ ks : List Int, (∀ k ∈ ks, 0 ≤ k ∧ k ≤ 31) → Ok (putAll a b ks) := by
  intro ks
  suffices h : ∀ (ks : List Int) (s : List Ent), Ok s → (∀ k ∈ ks, 0 ≤ k ∧ k ≤ 31) → Ok (ks.foldl (fun s key => putRaw key (atM b key) s) s) from h ks a ha
  intro ks; induction ks with
  | nil => intro s hs _; exact hs
  | cons k r ih =>
    intro s hs hk
    have hk0 := hk k (by simp)
    have hbb := atM_bd hb.2 k
    exact ih _ (ok_put hs hk0.1 hk0.2 hbb.1 hbb.2) (fun q hq => hk q (List.mem_cons_of_mem _ hq))
theorem putAll_at (b : List Ent) (k : Int) : ∀ (ks : List Int) (s : List Ent), atM (ks.foldl (fun s key => putRaw key (atM b key) s) s) k = if k ∈ ks then atM b k else atM s k := by
  intro ks; induction ks with
  | nil => intro s; simp
  | cons q r ih =>
    intro s
    simp only [List.foldl_cons]
    rw [ih, atM_put]
    by_cases h1 : k ∈ r
    · simp [h1]
    · by_cases h2 : k = q
      · subst h2; simp [h1]
      · simp [h1, h2]
theorem mem_changedM {a b : List Ent} (ha : storeB a = true) (hb : storeB b = true) (k : Int) (h0 : 0 ≤ k) (h1 : k ≤ 31) : k ∈ changedM a b ↔ atM a k ≠ atM b k := by
  unfold changedM
  rw [ha, hb]
  simp only [Bool.and_self, if_true, List.mem_filter, List.mem_map, List.mem_range, decide_eq_true_eq]
  constructor
  · rintro ⟨_, h⟩; exact h
  · intro h; exact ⟨⟨k.toNat, by omega, by omega⟩, h⟩
theorem changedM_bd (a b : List Ent) : ∀ k ∈ changedM a b, 0 ≤ k ∧ k ≤ 31 := by
  intro k hk
  unfold changedM at hk
  split at hk
  · obtain ⟨j, hj, rfl⟩ := List.mem_map.1 (List.mem_filter.1 hk).1
    have := List.mem_range.1 hj
    omega
  · cases hk
theorem putAll_changed {a b : List Ent} (ha : storeB a = true) (hb : storeB b = true) : putAll a b (changedM a b) = b := by
  have oa := (storeB_ok a).1 ha
  have ob := (storeB_ok b).1 hb
  refine ok_ext _ _ (putAll_ok oa ob _ (changedM_bd a b)) ob fun k h0 h1 => ?_
  rw [putAll, putAll_at]
  by_cases h : k ∈ changedM a b
  · rw [if_pos h]
  · rw [if_neg h]
    by_cases heq : atM a k = atM b k
    · exact heq
    · exact absurd ((mem_changedM ha hb k h0 h1).2 heq) h
set_option maxHeartbeats 4000000 in
theorem lawChangedKeys (a : Option Addr) (len cap : Nat) (z : List Int) (w : World) (h : RowB w a len z) (hc : a = none → cap = 0) (hlc : len ≤ cap) :
    Calls Try.prog 7 #[.slice a len cap] w (LawTrue w) := by
  by_cases hs : len ≤ 1048576
  · have hs' : ¬ (1048576 : Int) < (len : Int) := by omega
    go_enter Try.func7, Try.ntmps7
    go_wp2_with fail
    refine (drawChangedKeys_any a len cap z w h hlc).mono ?_; rintro e w1 ⟨v, v', l, l', rfl, hown, hwf, hlen, hown', hwf', hlen', hb1⟩
    obtain ⟨g, c, rfl, hg, hr⟩ := rowE_of_own hown (by omega) hwf
    obtain ⟨g', c', rfl, hg', hr'⟩ := rowE_of_own hown' (by omega) hwf'
    clear h hs hs' hown hown' hlc
    have hpl := changedM_len' l l'
    have HBD := Lib.hid (changedM_bd l l')
    have HCM := Lib.hid (changedM_comm l l')
    have HME := Lib.hid (fun ha hb => putAll_changed (a := l) (b := l') ha hb)
    go_wp2_with fail
    refine (changedKeys_impl _ _ _ _ c c' l l' _ hr hr').mono ?_; rintro e w2 ⟨vx, rfl, hox, hwx, hb2'⟩
    obtain ⟨gx, cx, rfl, hrx⟩ := rowI_of_owns hox (by unfold maxLen; omega) hwx
    have hr2 := hr.below hb2'
    have hr2' := hr'.below hb2'
    have hb2 := hb1.trans (hb2'.mono hb1.size)
    clear hr hr' hox hb2' hb1
    go_wp2_with fail
    refine (changedKeys_spec _ _ _ _ c c' l l' _ hr2 hr2').mono ?_; rintro e w3 ⟨vy, rfl, hoy, hwy, hb3'⟩
    obtain ⟨gy, cy, rfl, -, -, hry⟩ := rowI_of_own hoy (by omega) hwy
    have hr3 := hr2.below hb3'
    have hr3' := hr2'.below hb3'
    have hrx3 := hrx.below hb3'
    have hb3 := hb2.trans (hb3'.mono hb2.size)
    clear hr2 hr2' hrx hoy hb3' hb2
    go_wp2_with fail
    refine (sameInts_same _ _ _ cx cy _ _ hrx3 hry).mono ?_; rintro e w4 ⟨rfl, hb4'⟩
    have hr4 := hr3.below hb4'
    have hr4' := hr3'.below hb4'
    have hrx4 := hrx3.below hb4'
    have hb4 := hb3.trans (hb4'.mono hb3.size)
    clear hr3 hr3' hrx3 hry hb4' hb3 hwy
    go_wp2_with fail
    refine (changedKeys_impl _ _ _ _ c' c l' l _ hr4' hr4).mono ?_; rintro e w5 ⟨vz, rfl, hoz, hwz, hb5'⟩
    rw [← HCM.out] at hoz hwz
    obtain ⟨gz, cz, rfl, hrz⟩ := rowI_of_owns hoz (by unfold maxLen; omega) hwz
    have hr5 := hr4.below hb5'
    have hr5' := hr4'.below hb5'
    have hrx5 := hrx4.below hb5'
    have hb5 := hb4.trans (hb5'.mono hb4.size)
    clear hr4 hr4' hrx4 hoz hb5' hb4
    go_wp2_with fail
    refine (sameInts_same _ _ _ cx cz _ _ hrx5 hrz).mono ?_; rintro e w6 ⟨rfl, hb6'⟩
    have hr6 := hr5.below hb6'
    have hr6' := hr5'.below hb6'
    have hrx6 := hrx5.below hb6'
    have hb6 := hb5.trans (hb6'.mono hb5.size)
    clear hr5 hr5' hrx5 hrz hb6' hb5 hwz
    go_wp2_with fail
    refine (storeValid_spec _ _ c l _ hr6).mono ?_; rintro e w7 ⟨rfl, hd7⟩
    have hr7 := hr6.below (hd7.below _)
    have hr7' := hr6'.below (hd7.below _)
    have hrx7 := hrx6.below (hd7.below _)
    have hb7 := hb6.trans (hd7.below _)
    clear hr6 hr6' hrx6 hd7 hb6
    cases hsa : storeB l with
    | false =>
      have hx0 : changedM l l' = [] := by simp [changedM, hsa]
      rw [hx0]
      have hq : ((([] : List Int).length : Int) == 0) = true := rfl
      go_wp2_with fail
      refine (alive_any _).mono ?_; rintro e w8 ⟨rfl, hb8⟩
      go_wp2
      go_ret
      exact ⟨rfl, hb7.trans (hb8.mono hb7.size)⟩
    | true =>
      go_wp2_with fail
      refine (storeValid_spec _ _ c' l' _ hr7').mono ?_; rintro e w8 ⟨rfl, hd8⟩
      have hr8 := hr7.below (hd8.below _)
      have hr8' := hr7'.below (hd8.below _)
      have hrx8 := hrx7.below (hd8.below _)
      have hb8 := hb7.trans (hd8.below _)
      clear hr7 hr7' hrx7 hd8 hb7
      cases hsb : storeB l' with
      | false =>
        have hx0 : changedM l l' = [] := by simp [changedM, hsb]
        rw [hx0]
        have hq : ((([] : List Int).length : Int) == 0) = true := rfl
        go_wp2_with fail
        refine (alive_any _).mono ?_; rintro e w9 ⟨rfl, hb9⟩
        go_wp2
        go_ret
        exact ⟨rfl, hb8.trans (hb9.mono hb8.size)⟩
      | true =>
        have HSA := Lib.hid hsa
        have HSB := Lib.hid hsb
        have HFin := Lib.hid (HME.out hsa hsb)
        clear hsa hsb HCM HME
        obtain ⟨ks, hks⟩ : ∃ ks, ks = changedM l l' := ⟨_, rfl⟩
        rw [← hks] at hpl HBD hrx8 hwx HFin ⊢
        clear hks
        have hown0 : Own (w8.alloc (.cells #[] 27)) w8.heap.size 27 2 (.slice (some ⟨w8.heap.size, 0, none⟩) 0 0) 0 [] := own_lit 27 2 #[] 0 (Nat.le_refl _) (by simp) rfl
        have hnews := (hr8.below ((Below.refl w8.heap.size w8).alloc (Nat.le_refl _) (.cells #[] 27))).news
        go_wp2_with (at_builtin; refine wpList_append_rows (by first | rfl | simp [Region.wanted, yielded]) _ _ 23 rfl w8.heap.size 27 (.agg #[.int .i64 0, .int .i64 0]) 2 16 Try.underlying23 infoEnt rfl (by decide) _ _ _ (flatE l) (by rfl) hown0 (some ⟨g, 0, none⟩) l.length c (by rfl) (fun h => by cases h) ?f2 hnews (flatE_oneCell l) ?f5 (by decide) ?f6 ?_)
        case f2 => exact flatE_len l
        case f5 => omega
        case f6 => simp
        intro v9 w9 ho9 hg9
        have hb9' : Below w8.heap.size w8 w9 := ((Below.refl w8.heap.size w8).alloc (Nat.le_refl _) _).grown hg9 (by simp) (fun k hk => (hown0.1.lt k hk).1)
        try simp only [Nat.zero_add, List.nil_append] at ho9
        have hr9' := hr8'.below hb9'
        have hr9 := hr8.below hb9'
        have hrx9 := hrx8.below hb9'
        have hb9 := hb8.trans (hb9'.mono hb8.size)
        clear hg9 hnews hown0 hr8 hr8' hrx8 hb9'
        have hs89 : w.heap.size ≤ w8.heap.size := hb8.size
        clear hb8
        go_wp2_with fail
        go_loopw [6, 7] (fun v i wr => ∃ k : Nat, k ≤ ks.length ∧ i = .int .i64 k ∧ wr.ownsRow w.heap.size 27 2 v (putAll l l' (ks.take k)).length (flatE (putAll l l' (ks.take k))) ∧ WfE (putAll l l' (ks.take k)) ∧ Below w9.heap.size w9 wr) (fun _ i _ => ks.length - (intOf i).toNat)
        case atStart => exact ⟨0, by omega, rfl, (ho9.mono hs89).1, hwf, Below.refl _ _⟩
        case round =>
          obtain ⟨k, hk, rfl, hown, hwfS, hbr⟩ := hrel
          clear ho9
          have hokS : Ok (putAll l l' (ks.take k)) := putAll_ok ((storeB_ok l).1 HSA.out) ((storeB_ok l').1 HSB.out) _ (fun q hq => HBD.out q (List.mem_of_mem_take hq))
          have hsS := (storeB_ok _).2 hokS
          have h32 := store_len hsS
          have hrr' := hr9'.below hbr
          have hrrx := hrx9.below hbr
          have hbw := hb9.trans (hbr.mono hb9.size)
          by_cases hlt : k < ks.length
          · have hkey := HBD.out _ (getD_mem ks k hlt)
            have hvb := valueM_ok HSB.out hkey.1 hkey.2
            have hab := atM_bd ((storeB_ok l').1 HSB.out).2 (ks.getD k 0)
            have hput : putM (putAll l l' (ks.take k)) (ks.getD k 0) (atM l' (ks.getD k 0)) = (putAll l l' (ks.take (k + 1)), true) := by
              rw [putM, if_pos hsS, inB_yes hkey.1 hkey.2, inB_yes hab.1 hab.2, take_snoc ks k hlt, putAll_snoc]; rfl
            have hnext : Ok (putAll l l' (ks.take (k + 1))) := putAll_ok ((storeB_ok l).1 HSA.out) ((storeB_ok l').1 HSB.out) _ (fun q hq => HBD.out q (List.mem_of_mem_take hq))
            have h32' := store_len ((storeB_ok _).2 hnext)
            obtain ⟨bx, ox, he, hcell⟩ := hrrx.2.2.1 (by omega)
            subst he
            have hcx : wr.cell? ⟨bx, ox + k, none⟩ = some (.int .i64 (ks.getD k 0)) := hcell k hlt
            have hbx : bx < wr.heap.size := World.block_lt_of_cell? wr _ hcx
            clear hcell
            have HPUT := Lib.hid hput
            have HVB := Lib.hid hvb
            obtain ⟨key, hkd⟩ : ∃ key, key = ks.getD k 0 := ⟨_, rfl⟩
            rw [← hkd] at hkey hab hcx HPUT HVB
            clear hkd hput hvb hokS hsS hnext
            obtain ⟨S, hS⟩ : ∃ S, S = putAll l l' (ks.take k) := ⟨_, rfl⟩
            rw [← hS] at hown hwfS h32 HPUT
            clear hS
            obtain ⟨S', hS'⟩ : ∃ S', S' = putAll l l' (ks.take (k + 1)) := ⟨_, rfl⟩
            rw [← hS'] at h32' HPUT
            have HS' := Lib.hid hS'
            clear hS'
            obtain ⟨gs, cs, hvs, hrs, -⟩ := rowE_of_owns hown (by omega) hwfS
            rw [hvs]
            clear hvs hown
            obtain ⟨av, hav⟩ : ∃ av, av = atM l' key := ⟨_, rfl⟩
            rw [← hav] at hab HPUT HVB
            clear hav
            go_wp2_with fail
            go_region_with (first | (go_at_call 19; refine (valueAt_impl _ _ c' l' key _ (show RowE wr.drew _ _ l' from hrr')).mono ?_; rintro e w10 ⟨rfl, hd10⟩; rw [HVB.out]; have hcx10 : w10.cell? ⟨bx, ox + k, none⟩ = some (.int .i64 key) := (hd10.cell (p := ⟨bx, ox + k, none⟩) hbx).trans hcx; have hrs10 : RowE w10 gs S.length S := RowE.below (show RowE wr.drew _ _ S from hrs) hd10; have hb10 : Below wr.heap.size wr w10 := (Below.refl _ wr).drew.trans hd10) | (go_at_call 22; refine (putValue_impl _ _ cs S key av _ hrs10).mono ?_; rintro e w11 ⟨vn, rfl, hon, hwn, hb11⟩; rw [HPUT.out] at hon hwn; rw [HPUT.out]; simp only at hon hwn ⊢))
            all_goals
              have hsz := Nat.le_trans hbw.size hb10.size
              have hfin := hbr.trans ((hb10.trans (hb11.mono hb10.size)).mono hbr.size)
              go_wp2
              go_roundw
              case rel => exact ⟨k + 1, by omega, by go_num, by rw [← HS'.out]; exact owns_mono hon hsz, by rw [← HS'.out]; exact hwn, hfin⟩
              case measure => simp [intOf]; omega
          · have hkk : ks.take k = ks := List.take_of_length_le (by omega)
            rw [hkk, HFin.out] at hown hwfS
            obtain ⟨gs, cs, hvs, hrs, -⟩ := rowE_of_owns hown (by omega) hwfS
            rw [hvs]
            have hraa := hr9.below hbr
            have HS0 := Lib.hid (changedM_self l)
            clear hvs hown hkk hokS hsS hr9 hr9' hrx9
            go_wp2_with fail
            refine (sameStore_same _ _ _ cs c' l' _ hrs hrr').mono ?_; rintro e w10 ⟨rfl, hd10⟩
            have hb10 := hbw.trans (hd10.below _)
            have hra := hraa.below (hd10.below _)
            go_wp2_with fail
            refine (changedKeys_impl _ _ _ _ c c l l _ hra hra).mono ?_; rintro e w11 ⟨vn, rfl, hon, hwn, hb11⟩
            rw [HS0.out] at hon hwn
            obtain ⟨gn, cn, hvn, -⟩ := rowI_of_owns hon (by unfold maxLen; simp) hwn
            rw [hvn]
            have hq : ((([] : List Int).length : Int) == 0) = true := rfl
            go_wp2
            go_ret
            exact ⟨rfl, hb10.trans (hb11.mono hb10.size)⟩
  · have hs' : (1048576 : Int) < (len : Int) := by omega
    clear h hlc
    go_enter Try.func7, Try.ntmps7
    go_wp2
    go_ret
    exact ⟨rfl, Below.refl _ _⟩
end Go.Proofs.Ytmblmmbcdmmpcaa
