/- The walk of the law FnBlockTreeValid (gen17/). -/
import Derived.Test.YtnojhgckinibgaaGreatDrT
import Derived.Test.YtnojhgckinibgaaGreatTrX
import Derived.Test.YtnojhgckinibgaaGreatOne
import Derived.Test.YtnojhgckinibgaaGreatRegJ
import Derived.Test.YtnojhgckinibgaaGreatRegT
import Derived.Test.YtnojhgckinibgaaGreatTrFP
import Derived.Test.YtnojhgckinibgaaGreatSpecTr2
namespace Go.Proofs.YtnojhgckinibgaaGreat
open Go.RowKit
set_option linter.unusedVariables false
set_option linter.unusedSimpArgs false
set_option maxRecDepth 100000 in
set_option maxHeartbeats 8000000 in
theorem lawBlockTreeValid (a:Option Addr) (len cap:Nat) (z:List Int) (w:World) (h:RowB w a len z) (hc:a=none→cap=0) (hlc:len≤cap) :
  Calls Tryz.prog 3 #[.slice a len cap] w (LawTrue w):=by
 by_cases hs:len≤1048576
 · have hs':¬ (1048576:Int) < (len:Int):=by omega
   go_enter Tryz.func3,Tryz.ntmps3
   go_wp2_with fail
   refine (drawBlockTreeValid_any a len cap z w h hlc).mono ?_;rintro e w1 ⟨b1,m1,d1,b2,m2,d2,b3,m3,d3,t,rfl,hrd,hsm,hb1⟩
   have HRD:=Lib.hid hrd
   have HSM:=Lib.hid hsm
   have HB1:=Lib.hid hb1
   clear h hs hs' hc hlc hrd hb1 hsm
   go_upto_region 4 with (fail)
   generalize hw2:World.alloc _ _=w2
   have hb2:Below w1.heap.size w1 w2:=by rw [← hw2];exact (Below.refl _ _).alloc (Nat.le_refl _) _
   have hX2:TrAt w2 w1.heap.size (.slice b1 m1 d1) (.slice b2 m2 d2) (.slice b3 m3 d3):=by rw [← hw2];exact trAt_new w1 _ _ _ _
   have HK:=Lib.hid (fun (W:World) (hb:Below w2.heap.size w2 W)=>(⟨hX2.below hb,HRD.out W (hb2.trans (hb.mono hb2.size)),HB1.out.trans ((hb2.trans (hb.mono hb2.size)).mono HB1.out.size)⟩:TrAt W w1.heap.size (.slice b1 m1 d1) (.slice b2 m2 d2) (.slice b3 m3 d3)∧TreRd W (.slice b1 m1 d1) (.slice b2 m2 d2) (.slice b3 m3 d3) t∧Below w.heap.size w W))
   have HLN:=Lib.hid (treRd_len (HK.out w2 (Below.refl _ _)).2.1)
   obtain ⟨Z,hZe⟩:∃ Z,Z=w1.heap.size:=⟨_,rfl⟩
   rw [← hZe] at HK ⊢
   clear hw2 hb2 hX2 hZe HRD HB1
   obtain ⟨ok,hok⟩:∃ ok,ok=treB t:=⟨_,rfl⟩
   have HN:=Lib.hid hok
   have hcc:(ok != ok)=false:=by cases ok <;> rfl
   clear hok
   obtain ⟨⟨z0,z1,z2,-,-,-⟩,hr2,-⟩:=HK.out w2 (Below.refl _ _)
   have HC:=Lib.hid (blockTreeValid_impl _ _ _ t w2 hr2)
   rw [← HN.out] at HC
   clear hr2
   go_wp2_with fail
   refine HC.out.mono ?_;rintro en w3 ⟨rfl,hb3⟩
   have HB3:=Lib.hid hb3
   clear z0 z1 z2 HC hb3
   obtain ⟨⟨z0,z1,z2,-,-,-⟩,hr3,-⟩:=HK.out w3 HB3.out
   have HC:=Lib.hid (blockTreeValid_spec _ _ _ t w3 hr3)
   rw [← HN.out] at HC
   clear hr3
   go_wp2_with fail
   refine HC.out.mono ?_;rintro en w4 ⟨rfl,hb4⟩
   have HB4:=Lib.hid (HB3.out.trans (hb4.mono HB3.out.size))
   clear z0 z1 z2 HC hb4 HB3
   obtain ⟨⟨z0,z1,z2,-,-,-⟩,-,-⟩:=HK.out w4 HB4.out
   obtain ⟨k,hk⟩:∃ k,m2=k+1:=⟨m2 - 1,by have:=HLN.out;have:=HSM.out.one;omega⟩
   subst hk
   have h14:k < 14:=by have:=HLN.out;have:=HSM.out.most;omega
   have hwk:IntKind.i64.wrap (((k+1:Nat):Int) - 1)=(k:Int):=(by rw [show (((k+1:Nat):Int) - 1)=(k:Int) by omega];exact IntWalk.i64_in _ (by omega))
   have hwk2:IntKind.i64.wrap (k:Int)=(k:Int):=IntWalk.i64_in _ (by omega)
   have HC3:=Lib.hid (fun (W:World) (hb:Below w4.heap.size w4 W)=>(by have h:=blockTreeValid_impl _ _ _ _ W (treRd_none (HK.out W (HB4.out.trans (hb.mono HB4.out.size))).2.1);rw [treB_none] at h;exact h:Calls Tryz.prog 16 #[.agg #[.slice b1 m1 d1,.slice none 0 0,.slice none 0 0]] W (BoolB false W)))
   have HEND:=Lib.hid (fun (W:World) (hb:Below w4.heap.size w4 W)=>(HK.out W (HB4.out.trans (hb.mono HB4.out.size))).2.2)
   unfold BoolB at HC3
   cases ok with
   | false =>
    go_upto_region 8 with (fail)
    clear z0 z1 z2
    refine wp_region_light (by kernel_rfl) (fun lz fz wz=>Vals [(0,21,(.bool false)),(1,22,(.bool true)),(2,23,(.bool true)),(5,26,(.bool true)),(6,27,(.bool true)),(19,40,(.bool true)),(20,41,(.bool true)),(21,42,(.pointer (some ⟨Z,0,none⟩))),(22,43,(.slice b1 m1 d1)),(23,44,(.agg #[.slice b1 m1 d1,.slice none 0 0,.slice none 0 0])),(24,45,(.bool false)),(25,46,(.bool true)),(26,47,(.bool true)),(27,48,(.bool true)),(28,49,(.bool true)),(29,50,(.bool true)),(30,2,(.bool true))] lz fz∧Facts w4 [] lz fz wz) 51 rfl [21,22,23,24,25,26,27,28,29,30,31,32,33,34,35,36,37,38,39,40,41,42,43,44,45,46,47,48,49,50,2] (by kernel_rfl) (by kernel_rfl) (by kernel_rfl) (fun f=>⟨Vals.nothing _ f,Facts.nothing _ _ f⟩) ?_ ?_
    · intro i hi
      rcases (by have:i < 31:=hi;omega:i=0∨i=1∨i=2∨i=3∨i=4∨i=5∨i=6∨i=7∨i=8∨i=9∨i=10∨i=11∨i=12∨i=13∨i=14∨i=15∨i=16∨i=17∨i=18∨i=19∨i=20∨i=21∨i=22∨i=23∨i=24∨i=25∨i=26∨i=27∨i=28∨i=29∨i=30) with rfl | rfl | rfl | rfl | rfl | rfl | rfl | rfl | rfl | rfl | rfl | rfl | rfl | rfl | rfl | rfl | rfl | rfl | rfl | rfl | rfl | rfl | rfl | rfl | rfl | rfl | rfl | rfl | rfl | rfl | rfl
      all_goals (clear hi;intro o ho lz fz w' A ⟨hv,hr⟩ hli ha hA K hK;obtain rfl:=Option.some.inj ho;clear ho)
      · have g4:=slot_out hA 4 _ (by decide) (by decide) rfl
        simp only [List.getD_cons_succ,List.getD_cons_zero] at g4
        have gg4:=slot_get g4
        rw [if_pos (by rfl)]
        have hF:=hK (.bool false) w' ⟨hv.step 0 21 _ (by simp),hr.step 0 21 _ (Below.refl _ _) (by simp)⟩
        clear hv hr ha hK hA hli
        go_simp
        exact hF
      · have g21:=si hA 21 (hv.at 0 rfl (ha 0 (by simp [aftersOf,Region.binds])))
        have gg21:=slot_get g21
        rw [if_pos (by rfl)]
        have hF:=hK (.bool true) w' ⟨hv.step 1 22 _ (by simp),hr.step 1 22 _ (Below.refl _ _) (by simp)⟩
        clear hv hr ha hK hA hli
        go_simp
        exact hF
      · have g22:=si hA 22 (hv.at 1 rfl (ha 1 (by simp [aftersOf,Region.binds])))
        have gg22:=slot_get g22
        rw [if_pos (by rfl)]
        have hF:=hK (.bool true) w' ⟨hv.step 2 23 _ (by simp),hr.step 2 23 _ (Below.refl _ _) (by simp)⟩
        clear hv hr ha hK hA hli
        go_simp
        exact hF
      iterate 2
       · have g23:=si hA 23 (hv.at 2 rfl (ha 2 (by simp [aftersOf,Region.binds])))
         have gw:=slot_bool g23
         rw [if_neg (by simp [Region.wanted,yielded,gw])]
         exact hK undef w' ⟨hv.step _ _ _ (by simp),hr.step _ _ _ (Below.refl _ _) (by simp)⟩
      · have g23:=si hA 23 (hv.at 2 rfl (ha 2 (by simp [aftersOf,Region.binds])))
        have gg23:=slot_get g23
        rw [if_pos (by rfl)]
        have hF:=hK (.bool true) w' ⟨hv.step 5 26 _ (by simp),hr.step 5 26 _ (Below.refl _ _) (by simp)⟩
        clear hv hr ha hK hA hli
        go_simp
        exact hF
      · have g26:=si hA 26 (hv.at 3 rfl (ha 5 (by simp [aftersOf,Region.binds])))
        have gg26:=slot_get g26
        rw [if_pos (by rfl)]
        have hF:=hK (.bool true) w' ⟨hv.step 6 27 _ (by simp),hr.step 6 27 _ (Below.refl _ _) (by simp)⟩
        clear hv hr ha hK hA hli
        go_simp
        exact hF
      iterate 12
       · have g27:=si hA 27 (hv.at 4 rfl (ha 6 (by simp [aftersOf,Region.binds])))
         have gw:=slot_bool g27
         rw [if_neg (by simp [Region.wanted,yielded,gw])]
         exact hK undef w' ⟨hv.step _ _ _ (by simp),hr.step _ _ _ (Below.refl _ _) (by simp)⟩
      · have g27:=si hA 27 (hv.at 4 rfl (ha 6 (by simp [aftersOf,Region.binds])))
        have gg27:=slot_get g27
        rw [if_pos (by rfl)]
        have hF:=hK (.bool true) w' ⟨hv.step 19 40 _ (by simp),hr.step 19 40 _ (Below.refl _ _) (by simp)⟩
        clear hv hr ha hK hA hli
        go_simp
        exact hF
      · have g40:=si hA 40 (hv.at 5 rfl (ha 19 (by simp [aftersOf,Region.binds])))
        have gg40:=slot_get g40
        rw [if_pos (by rfl)]
        have hF:=hK (.bool true) w' ⟨hv.step 20 41 _ (by simp),hr.step 20 41 _ (Below.refl _ _) (by simp)⟩
        clear hv hr ha hK hA hli
        go_simp
        exact hF
      · have g3:=slot_out hA 3 _ (by decide) (by decide) rfl
        simp only [List.getD_cons_succ,List.getD_cons_zero] at g3
        have g41:=si hA 41 (hv.at 6 rfl (ha 20 (by simp [aftersOf,Region.binds])))
        have gg3:=slot_get g3
        have gg41:=slot_get g41
        rw [if_pos (by simp [Region.wanted,yielded,slot_bool g41])]
        have hF:=hK (.pointer (some ⟨Z,0,none⟩)) w' ⟨hv.step 21 42 _ (by simp),hr.step 21 42 _ (Below.refl _ _) (by simp)⟩
        clear hv hr ha hK hA hli
        go_simp
        exact hF
      · have g42:=si hA 42 (hv.at 7 rfl (ha 21 (by simp [aftersOf,Region.binds])))
        have g41:=si hA 41 (hv.at 6 rfl (ha 20 (by simp [aftersOf,Region.binds])))
        have gg42:=slot_get g42
        have gg41:=slot_get g41
        rw [if_pos (by simp [Region.wanted,yielded,slot_bool g41])]
        obtain ⟨z0,z1,z2,-,-,-⟩:=(HK.out w' (HB4.out.trans (hr.1.mono HB4.out.size))).1
        have hF:=hK (.slice b1 m1 d1) w' ⟨hv.step 22 43 _ (by simp),hr.step 22 43 _ (Below.refl _ _) (by simp)⟩
        clear hv hr ha hK hA hli
        go_simp
        exact hF
      · have g43:=si hA 43 (hv.at 8 rfl (ha 22 (by simp [aftersOf,Region.binds])))
        have g41:=si hA 41 (hv.at 6 rfl (ha 20 (by simp [aftersOf,Region.binds])))
        have gg43:=slot_get g43
        have gg41:=slot_get g41
        rw [if_pos (by simp [Region.wanted,yielded,slot_bool g41])]
        have hF:=hK (.agg #[.slice b1 m1 d1,.slice none 0 0,.slice none 0 0]) w' ⟨hv.step 23 44 _ (by simp),hr.step 23 44 _ (Below.refl _ _) (by simp)⟩
        clear hv hr ha hK hA hli
        go_simp
        exact hF
      · have g44:=si hA 44 (hv.at 9 rfl (ha 23 (by simp [aftersOf,Region.binds])))
        have g41:=si hA 41 (hv.at 6 rfl (ha 20 (by simp [aftersOf,Region.binds])))
        have gg44:=slot_get g44
        have gg41:=slot_get g41
        rw [if_pos (by simp [Region.wanted,yielded,slot_bool g41])]
        clear hA
        go_simp
        refine (HC3.out w' hr.1).mono ?_
        rintro e9 w9 ⟨rfl,hb9⟩
        exact hK (.bool false) w9 ⟨hv.step 24 45 _ (by simp),hr.step 24 45 _ hb9 (by simp)⟩
      · have g45:=si hA 45 (hv.at 10 rfl (ha 24 (by simp [aftersOf,Region.binds])))
        have g41:=si hA 41 (hv.at 6 rfl (ha 20 (by simp [aftersOf,Region.binds])))
        have gg45:=slot_get g45
        have gg41:=slot_get g41
        rw [if_pos (by simp [Region.wanted,yielded,slot_bool g41])]
        have hF:=hK (.bool true) w' ⟨hv.step 25 46 _ (by simp),hr.step 25 46 _ (Below.refl _ _) (by simp)⟩
        clear hv hr ha hK hA hli
        go_simp
        exact hF
      · have g41:=si hA 41 (hv.at 6 rfl (ha 20 (by simp [aftersOf,Region.binds])))
        have g46:=si hA 46 (hv.at 11 rfl (ha 25 (by simp [aftersOf,Region.binds])))
        have gg41:=slot_get g41
        have gg46:=slot_get g46
        rw [if_pos (by rfl)]
        have hF:=hK (.bool true) w' ⟨hv.step 26 47 _ (by simp),hr.step 26 47 _ (Below.refl _ _) (by simp)⟩
        clear hv hr ha hK hA hli
        go_simp
        exact hF
      · have g47:=si hA 47 (hv.at 12 rfl (ha 26 (by simp [aftersOf,Region.binds])))
        have gg47:=slot_get g47
        rw [if_pos (by rfl)]
        have hF:=hK (.bool true) w' ⟨hv.step 27 48 _ (by simp),hr.step 27 48 _ (Below.refl _ _) (by simp)⟩
        clear hv hr ha hK hA hli
        go_simp
        exact hF
      · have g48:=si hA 48 (hv.at 13 rfl (ha 27 (by simp [aftersOf,Region.binds])))
        have gg48:=slot_get g48
        rw [if_pos (by simp [Region.wanted,yielded,slot_bool g48])]
        clear hA
        go_simp
        refine (alive_any w').mono ?_
        rintro e9 w9 ⟨rfl,hb9⟩
        exact hK (.bool true) w9 ⟨hv.step 28 49 _ (by simp),hr.step 28 49 _ hb9 (by simp)⟩
      · have g48:=si hA 48 (hv.at 13 rfl (ha 27 (by simp [aftersOf,Region.binds])))
        have g49:=si hA 49 (hv.at 14 rfl (ha 28 (by simp [aftersOf,Region.binds])))
        have gg48:=slot_get g48
        have gg49:=slot_get g49
        rw [if_pos (by rfl)]
        have hF:=hK (.bool true) w' ⟨hv.step 29 50 _ (by simp),hr.step 29 50 _ (Below.refl _ _) (by simp)⟩
        clear hv hr ha hK hA hli
        go_simp
        exact hF
      · have g50:=si hA 50 (hv.at 15 rfl (ha 29 (by simp [aftersOf,Region.binds])))
        have gg50:=slot_get g50
        rw [if_pos (by rfl)]
        have hF:=hK (.bool true) w' ⟨hv.step 30 2 _ (by simp),hr.step 30 2 _ (Below.refl _ _) (by simp)⟩
        clear hv hr ha hK hA hli
        go_simp
        exact hF
    · intro lz fz w5 hall ⟨hv,hq⟩
      have h2:=hv.at 16 rfl (hall 30 (by decide))
      have hbR:=hq.1
      clear hv hq hall
      simp only [mixF,List.contains_cons,List.contains_nil]
      go_simp
      have HBF:=Lib.hid (HEND.out w5 hbR)
      clear hbR
      go_wp2
      go_ret
      exact ⟨by first | rfl | exact congrArg Ending.returned h2,HBF.out⟩
   | true =>
    by_cases hk0:k=0
    · subst hk0
      go_upto_region 8 with (fail)
      clear z0 z1 z2
      refine wp_region_light (by kernel_rfl) (fun lz fz wz=>Vals [(0,21,(.bool true)),(1,22,(.bool false)),(2,23,(.bool false)),(3,24,(.int .i64 0)),(4,25,(.bool true)),(5,26,(.bool true)),(6,27,(.bool true)),(19,40,(.bool true)),(20,41,(.bool true)),(21,42,(.pointer (some ⟨Z,0,none⟩))),(22,43,(.slice b1 m1 d1)),(23,44,(.agg #[.slice b1 m1 d1,.slice none 0 0,.slice none 0 0])),(24,45,(.bool false)),(25,46,(.bool true)),(26,47,(.bool true)),(27,48,(.bool true)),(28,49,(.bool true)),(29,50,(.bool true)),(30,2,(.bool true))] lz fz∧Facts w4 [] lz fz wz) 51 rfl [21,22,23,24,25,26,27,28,29,30,31,32,33,34,35,36,37,38,39,40,41,42,43,44,45,46,47,48,49,50,2] (by kernel_rfl) (by kernel_rfl) (by kernel_rfl) (fun f=>⟨Vals.nothing _ f,Facts.nothing _ _ f⟩) ?_ ?_
      · intro i hi
        rcases (by have:i < 31:=hi;omega:i=0∨i=1∨i=2∨i=3∨i=4∨i=5∨i=6∨i=7∨i=8∨i=9∨i=10∨i=11∨i=12∨i=13∨i=14∨i=15∨i=16∨i=17∨i=18∨i=19∨i=20∨i=21∨i=22∨i=23∨i=24∨i=25∨i=26∨i=27∨i=28∨i=29∨i=30) with rfl | rfl | rfl | rfl | rfl | rfl | rfl | rfl | rfl | rfl | rfl | rfl | rfl | rfl | rfl | rfl | rfl | rfl | rfl | rfl | rfl | rfl | rfl | rfl | rfl | rfl | rfl | rfl | rfl | rfl | rfl
        all_goals (clear hi;intro o ho lz fz w' A ⟨hv,hr⟩ hli ha hA K hK;obtain rfl:=Option.some.inj ho;clear ho)
        · have g4:=slot_out hA 4 _ (by decide) (by decide) rfl
          simp only [List.getD_cons_succ,List.getD_cons_zero] at g4
          have gg4:=slot_get g4
          rw [if_pos (by rfl)]
          have hF:=hK (.bool true) w' ⟨hv.step 0 21 _ (by simp),hr.step 0 21 _ (Below.refl _ _) (by simp)⟩
          clear hv hr ha hK hA hli
          go_simp
          exact hF
        · have g21:=si hA 21 (hv.at 0 rfl (ha 0 (by simp [aftersOf,Region.binds])))
          have gg21:=slot_get g21
          rw [if_pos (by rfl)]
          have hF:=hK (.bool false) w' ⟨hv.step 1 22 _ (by simp),hr.step 1 22 _ (Below.refl _ _) (by simp)⟩
          clear hv hr ha hK hA hli
          go_simp
          exact hF
        · have g22:=si hA 22 (hv.at 1 rfl (ha 1 (by simp [aftersOf,Region.binds])))
          have gg22:=slot_get g22
          rw [if_pos (by rfl)]
          have hF:=hK (.bool false) w' ⟨hv.step 2 23 _ (by simp),hr.step 2 23 _ (Below.refl _ _) (by simp)⟩
          clear hv hr ha hK hA hli
          go_simp
          exact hF
        · have g5:=slot_out hA 5 _ (by decide) (by decide) rfl
          simp only [List.getD_cons_succ,List.getD_cons_zero] at g5
          have g23:=si hA 23 (hv.at 2 rfl (ha 2 (by simp [aftersOf,Region.binds])))
          have gg5:=slot_get g5
          have gg23:=slot_get g23
          rw [if_pos (by simp [Region.wanted,yielded,slot_bool g23])]
          have hF:=hK (.int .i64 0) w' ⟨hv.step 3 24 _ (by simp),hr.step 3 24 _ (Below.refl _ _) (by simp)⟩
          clear hv hr ha hK hA hli
          go_simp
          exact hF
        · have g24:=si hA 24 (hv.at 3 rfl (ha 3 (by simp [aftersOf,Region.binds])))
          have g23:=si hA 23 (hv.at 2 rfl (ha 2 (by simp [aftersOf,Region.binds])))
          have gg24:=slot_get g24
          have gg23:=slot_get g23
          rw [if_pos (by simp [Region.wanted,yielded,slot_bool g23])]
          have hF:=hK (.bool true) w' ⟨hv.step 4 25 _ (by simp),hr.step 4 25 _ (Below.refl _ _) (by simp)⟩
          clear hv hr ha hK hA hli
          go_simp
          exact hF
        · have g23:=si hA 23 (hv.at 2 rfl (ha 2 (by simp [aftersOf,Region.binds])))
          have g25:=si hA 25 (hv.at 4 rfl (ha 4 (by simp [aftersOf,Region.binds])))
          have gg23:=slot_get g23
          have gg25:=slot_get g25
          rw [if_pos (by rfl)]
          have hF:=hK (.bool true) w' ⟨hv.step 5 26 _ (by simp),hr.step 5 26 _ (Below.refl _ _) (by simp)⟩
          clear hv hr ha hK hA hli
          go_simp
          exact hF
        · have g26:=si hA 26 (hv.at 5 rfl (ha 5 (by simp [aftersOf,Region.binds])))
          have gg26:=slot_get g26
          rw [if_pos (by rfl)]
          have hF:=hK (.bool true) w' ⟨hv.step 6 27 _ (by simp),hr.step 6 27 _ (Below.refl _ _) (by simp)⟩
          clear hv hr ha hK hA hli
          go_simp
          exact hF
        iterate 12
         · have g27:=si hA 27 (hv.at 6 rfl (ha 6 (by simp [aftersOf,Region.binds])))
           have gw:=slot_bool g27
           rw [if_neg (by simp [Region.wanted,yielded,gw])]
           exact hK undef w' ⟨hv.step _ _ _ (by simp),hr.step _ _ _ (Below.refl _ _) (by simp)⟩
        · have g27:=si hA 27 (hv.at 6 rfl (ha 6 (by simp [aftersOf,Region.binds])))
          have gg27:=slot_get g27
          rw [if_pos (by rfl)]
          have hF:=hK (.bool true) w' ⟨hv.step 19 40 _ (by simp),hr.step 19 40 _ (Below.refl _ _) (by simp)⟩
          clear hv hr ha hK hA hli
          go_simp
          exact hF
        · have g40:=si hA 40 (hv.at 7 rfl (ha 19 (by simp [aftersOf,Region.binds])))
          have gg40:=slot_get g40
          rw [if_pos (by rfl)]
          have hF:=hK (.bool true) w' ⟨hv.step 20 41 _ (by simp),hr.step 20 41 _ (Below.refl _ _) (by simp)⟩
          clear hv hr ha hK hA hli
          go_simp
          exact hF
        · have g3:=slot_out hA 3 _ (by decide) (by decide) rfl
          simp only [List.getD_cons_succ,List.getD_cons_zero] at g3
          have g41:=si hA 41 (hv.at 8 rfl (ha 20 (by simp [aftersOf,Region.binds])))
          have gg3:=slot_get g3
          have gg41:=slot_get g41
          rw [if_pos (by simp [Region.wanted,yielded,slot_bool g41])]
          have hF:=hK (.pointer (some ⟨Z,0,none⟩)) w' ⟨hv.step 21 42 _ (by simp),hr.step 21 42 _ (Below.refl _ _) (by simp)⟩
          clear hv hr ha hK hA hli
          go_simp
          exact hF
        · have g42:=si hA 42 (hv.at 9 rfl (ha 21 (by simp [aftersOf,Region.binds])))
          have g41:=si hA 41 (hv.at 8 rfl (ha 20 (by simp [aftersOf,Region.binds])))
          have gg42:=slot_get g42
          have gg41:=slot_get g41
          rw [if_pos (by simp [Region.wanted,yielded,slot_bool g41])]
          obtain ⟨z0,z1,z2,-,-,-⟩:=(HK.out w' (HB4.out.trans (hr.1.mono HB4.out.size))).1
          have hF:=hK (.slice b1 m1 d1) w' ⟨hv.step 22 43 _ (by simp),hr.step 22 43 _ (Below.refl _ _) (by simp)⟩
          clear hv hr ha hK hA hli
          go_simp
          exact hF
        · have g43:=si hA 43 (hv.at 10 rfl (ha 22 (by simp [aftersOf,Region.binds])))
          have g41:=si hA 41 (hv.at 8 rfl (ha 20 (by simp [aftersOf,Region.binds])))
          have gg43:=slot_get g43
          have gg41:=slot_get g41
          rw [if_pos (by simp [Region.wanted,yielded,slot_bool g41])]
          have hF:=hK (.agg #[.slice b1 m1 d1,.slice none 0 0,.slice none 0 0]) w' ⟨hv.step 23 44 _ (by simp),hr.step 23 44 _ (Below.refl _ _) (by simp)⟩
          clear hv hr ha hK hA hli
          go_simp
          exact hF
        · have g44:=si hA 44 (hv.at 11 rfl (ha 23 (by simp [aftersOf,Region.binds])))
          have g41:=si hA 41 (hv.at 8 rfl (ha 20 (by simp [aftersOf,Region.binds])))
          have gg44:=slot_get g44
          have gg41:=slot_get g41
          rw [if_pos (by simp [Region.wanted,yielded,slot_bool g41])]
          clear hA
          go_simp
          refine (HC3.out w' hr.1).mono ?_
          rintro e9 w9 ⟨rfl,hb9⟩
          exact hK (.bool false) w9 ⟨hv.step 24 45 _ (by simp),hr.step 24 45 _ hb9 (by simp)⟩
        · have g45:=si hA 45 (hv.at 12 rfl (ha 24 (by simp [aftersOf,Region.binds])))
          have g41:=si hA 41 (hv.at 8 rfl (ha 20 (by simp [aftersOf,Region.binds])))
          have gg45:=slot_get g45
          have gg41:=slot_get g41
          rw [if_pos (by simp [Region.wanted,yielded,slot_bool g41])]
          have hF:=hK (.bool true) w' ⟨hv.step 25 46 _ (by simp),hr.step 25 46 _ (Below.refl _ _) (by simp)⟩
          clear hv hr ha hK hA hli
          go_simp
          exact hF
        · have g41:=si hA 41 (hv.at 8 rfl (ha 20 (by simp [aftersOf,Region.binds])))
          have g46:=si hA 46 (hv.at 13 rfl (ha 25 (by simp [aftersOf,Region.binds])))
          have gg41:=slot_get g41
          have gg46:=slot_get g46
          rw [if_pos (by rfl)]
          have hF:=hK (.bool true) w' ⟨hv.step 26 47 _ (by simp),hr.step 26 47 _ (Below.refl _ _) (by simp)⟩
          clear hv hr ha hK hA hli
          go_simp
          exact hF
        · have g47:=si hA 47 (hv.at 14 rfl (ha 26 (by simp [aftersOf,Region.binds])))
          have gg47:=slot_get g47
          rw [if_pos (by rfl)]
          have hF:=hK (.bool true) w' ⟨hv.step 27 48 _ (by simp),hr.step 27 48 _ (Below.refl _ _) (by simp)⟩
          clear hv hr ha hK hA hli
          go_simp
          exact hF
        · have g48:=si hA 48 (hv.at 15 rfl (ha 27 (by simp [aftersOf,Region.binds])))
          have gg48:=slot_get g48
          rw [if_pos (by simp [Region.wanted,yielded,slot_bool g48])]
          clear hA
          go_simp
          refine (alive_any w').mono ?_
          rintro e9 w9 ⟨rfl,hb9⟩
          exact hK (.bool true) w9 ⟨hv.step 28 49 _ (by simp),hr.step 28 49 _ hb9 (by simp)⟩
        · have g48:=si hA 48 (hv.at 15 rfl (ha 27 (by simp [aftersOf,Region.binds])))
          have g49:=si hA 49 (hv.at 16 rfl (ha 28 (by simp [aftersOf,Region.binds])))
          have gg48:=slot_get g48
          have gg49:=slot_get g49
          rw [if_pos (by rfl)]
          have hF:=hK (.bool true) w' ⟨hv.step 29 50 _ (by simp),hr.step 29 50 _ (Below.refl _ _) (by simp)⟩
          clear hv hr ha hK hA hli
          go_simp
          exact hF
        · have g50:=si hA 50 (hv.at 17 rfl (ha 29 (by simp [aftersOf,Region.binds])))
          have gg50:=slot_get g50
          rw [if_pos (by rfl)]
          have hF:=hK (.bool true) w' ⟨hv.step 30 2 _ (by simp),hr.step 30 2 _ (Below.refl _ _) (by simp)⟩
          clear hv hr ha hK hA hli
          go_simp
          exact hF
      · intro lz fz w5 hall ⟨hv,hq⟩
        have h2:=hv.at 18 rfl (hall 30 (by decide))
        have hbR:=hq.1
        clear hv hq hall
        simp only [mixF,List.contains_cons,List.contains_nil]
        go_simp
        have HBF:=Lib.hid (HEND.out w5 hbR)
        clear hbR
        go_wp2
        go_ret
        exact ⟨by first | rfl | exact congrArg Ending.returned h2,HBF.out⟩
    · have hke:((k:Int) == 0)=false:=by simp;omega
      have hb3:m3=k+1:=by have h1:=((treB_iff t).1 HN.out.symm).len;have h2:=HLN.out;omega
      subst hb3
      have HCAP:Hid (k≤d2∧k≤d3):=Lib.hid (by have:=HLN.out;omega)
      have HC2:=Lib.hid (fun (W:World) (hb:Below w4.heap.size w4 W)=>(by have h:=blockTreeValid_impl _ _ _ _ W (treRd_cut (m:=k) (HK.out W (HB4.out.trans (hb.mono HB4.out.size))).2.1 (by omega) (by omega));rw [treB_cut HN.out.symm (by omega) (by have:=HLN.out;omega)] at h;exact h:Calls Tryz.prog 16 #[.agg #[.slice b1 m1 d1,.slice b2 k d2,.slice b3 k d3]] W (BoolB true W)))
      unfold BoolB at HC2
      go_upto_region 8 with (fail)
      clear z0 z1 z2
      refine wp_region_light (by kernel_rfl) (fun lz fz wz=>Vals [(0,21,(.bool true)),(1,22,(.bool false)),(2,23,(.bool false)),(3,24,(.int .i64 (k:Int))),(4,25,(.bool false)),(5,26,(.bool false)),(6,27,(.bool false)),(7,28,(.pointer (some ⟨Z,0,none⟩))),(8,29,(.slice b1 m1 d1)),(9,30,(.pointer (some ⟨Z,1,none⟩))),(10,31,(.slice b2 (k+1) d2)),(11,32,(.int .i64 (k:Int))),(12,33,(.slice b2 k d2)),(13,34,(.pointer (some ⟨Z,2,none⟩))),(14,35,(.slice b3 (k+1) d3)),(15,36,(.int .i64 (k:Int))),(16,37,(.slice b3 k d3)),(17,38,(.agg #[.slice b1 m1 d1,.slice b2 k d2,.slice b3 k d3])),(18,39,(.bool true)),(19,40,(.bool true)),(20,41,(.bool true)),(21,42,(.pointer (some ⟨Z,0,none⟩))),(22,43,(.slice b1 m1 d1)),(23,44,(.agg #[.slice b1 m1 d1,.slice none 0 0,.slice none 0 0])),(24,45,(.bool false)),(25,46,(.bool true)),(26,47,(.bool true)),(27,48,(.bool true)),(28,49,(.bool true)),(29,50,(.bool true)),(30,2,(.bool true))] lz fz∧Facts w4 [] lz fz wz) 51 rfl [21,22,23,24,25,26,27,28,29,30,31,32,33,34,35,36,37,38,39,40,41,42,43,44,45,46,47,48,49,50,2] (by kernel_rfl) (by kernel_rfl) (by kernel_rfl) (fun f=>⟨Vals.nothing _ f,Facts.nothing _ _ f⟩) ?_ ?_
      · intro i hi
        rcases (by have:i < 31:=hi;omega:i=0∨i=1∨i=2∨i=3∨i=4∨i=5∨i=6∨i=7∨i=8∨i=9∨i=10∨i=11∨i=12∨i=13∨i=14∨i=15∨i=16∨i=17∨i=18∨i=19∨i=20∨i=21∨i=22∨i=23∨i=24∨i=25∨i=26∨i=27∨i=28∨i=29∨i=30) with rfl | rfl | rfl | rfl | rfl | rfl | rfl | rfl | rfl | rfl | rfl | rfl | rfl | rfl | rfl | rfl | rfl | rfl | rfl | rfl | rfl | rfl | rfl | rfl | rfl | rfl | rfl | rfl | rfl | rfl | rfl
        all_goals (clear hi;intro o ho lz fz w' A ⟨hv,hr⟩ hli ha hA K hK;obtain rfl:=Option.some.inj ho;clear ho)
        · have g4:=slot_out hA 4 _ (by decide) (by decide) rfl
          simp only [List.getD_cons_succ,List.getD_cons_zero] at g4
          have gg4:=slot_get g4
          rw [if_pos (by rfl)]
          have hF:=hK (.bool true) w' ⟨hv.step 0 21 _ (by simp),hr.step 0 21 _ (Below.refl _ _) (by simp)⟩
          clear hv hr ha hK hA hli
          go_simp
          exact hF
        · have g21:=si hA 21 (hv.at 0 rfl (ha 0 (by simp [aftersOf,Region.binds])))
          have gg21:=slot_get g21
          rw [if_pos (by rfl)]
          have hF:=hK (.bool false) w' ⟨hv.step 1 22 _ (by simp),hr.step 1 22 _ (Below.refl _ _) (by simp)⟩
          clear hv hr ha hK hA hli
          go_simp
          exact hF
        · have g22:=si hA 22 (hv.at 1 rfl (ha 1 (by simp [aftersOf,Region.binds])))
          have gg22:=slot_get g22
          rw [if_pos (by rfl)]
          have hF:=hK (.bool false) w' ⟨hv.step 2 23 _ (by simp),hr.step 2 23 _ (Below.refl _ _) (by simp)⟩
          clear hv hr ha hK hA hli
          go_simp
          exact hF
        · have g5:=slot_out hA 5 _ (by decide) (by decide) rfl
          simp only [List.getD_cons_succ,List.getD_cons_zero] at g5
          have g23:=si hA 23 (hv.at 2 rfl (ha 2 (by simp [aftersOf,Region.binds])))
          have gg5:=slot_get g5
          have gg23:=slot_get g23
          rw [if_pos (by simp [Region.wanted,yielded,slot_bool g23])]
          have hF:=hK (.int .i64 (k:Int)) w' ⟨hv.step 3 24 _ (by simp),hr.step 3 24 _ (Below.refl _ _) (by simp)⟩
          clear hv hr ha hK hA hli
          go_simp
          exact hF
        · have g24:=si hA 24 (hv.at 3 rfl (ha 3 (by simp [aftersOf,Region.binds])))
          have g23:=si hA 23 (hv.at 2 rfl (ha 2 (by simp [aftersOf,Region.binds])))
          have gg24:=slot_get g24
          have gg23:=slot_get g23
          rw [if_pos (by simp [Region.wanted,yielded,slot_bool g23])]
          have hF:=hK (.bool false) w' ⟨hv.step 4 25 _ (by simp),hr.step 4 25 _ (Below.refl _ _) (by simp)⟩
          clear hv hr ha hK hA hli
          go_simp
          exact hF
        · have g23:=si hA 23 (hv.at 2 rfl (ha 2 (by simp [aftersOf,Region.binds])))
          have g25:=si hA 25 (hv.at 4 rfl (ha 4 (by simp [aftersOf,Region.binds])))
          have gg23:=slot_get g23
          have gg25:=slot_get g25
          rw [if_pos (by rfl)]
          have hF:=hK (.bool false) w' ⟨hv.step 5 26 _ (by simp),hr.step 5 26 _ (Below.refl _ _) (by simp)⟩
          clear hv hr ha hK hA hli
          go_simp
          exact hF
        · have g26:=si hA 26 (hv.at 5 rfl (ha 5 (by simp [aftersOf,Region.binds])))
          have gg26:=slot_get g26
          rw [if_pos (by rfl)]
          have hF:=hK (.bool false) w' ⟨hv.step 6 27 _ (by simp),hr.step 6 27 _ (Below.refl _ _) (by simp)⟩
          clear hv hr ha hK hA hli
          go_simp
          exact hF
        · have g3:=slot_out hA 3 _ (by decide) (by decide) rfl
          simp only [List.getD_cons_succ,List.getD_cons_zero] at g3
          have g27:=si hA 27 (hv.at 6 rfl (ha 6 (by simp [aftersOf,Region.binds])))
          have gg3:=slot_get g3
          have gg27:=slot_get g27
          rw [if_pos (by simp [Region.wanted,yielded,slot_bool g27])]
          have hF:=hK (.pointer (some ⟨Z,0,none⟩)) w' ⟨hv.step 7 28 _ (by simp),hr.step 7 28 _ (Below.refl _ _) (by simp)⟩
          clear hv hr ha hK hA hli
          go_simp
          exact hF
        · have g28:=si hA 28 (hv.at 7 rfl (ha 7 (by simp [aftersOf,Region.binds])))
          have g27:=si hA 27 (hv.at 6 rfl (ha 6 (by simp [aftersOf,Region.binds])))
          have gg28:=slot_get g28
          have gg27:=slot_get g27
          rw [if_pos (by simp [Region.wanted,yielded,slot_bool g27])]
          obtain ⟨z0,z1,z2,-,-,-⟩:=(HK.out w' (HB4.out.trans (hr.1.mono HB4.out.size))).1
          have hF:=hK (.slice b1 m1 d1) w' ⟨hv.step 8 29 _ (by simp),hr.step 8 29 _ (Below.refl _ _) (by simp)⟩
          clear hv hr ha hK hA hli
          go_simp
          exact hF
        · have g3:=slot_out hA 3 _ (by decide) (by decide) rfl
          simp only [List.getD_cons_succ,List.getD_cons_zero] at g3
          have g27:=si hA 27 (hv.at 6 rfl (ha 6 (by simp [aftersOf,Region.binds])))
          have gg3:=slot_get g3
          have gg27:=slot_get g27
          rw [if_pos (by simp [Region.wanted,yielded,slot_bool g27])]
          have hF:=hK (.pointer (some ⟨Z,1,none⟩)) w' ⟨hv.step 9 30 _ (by simp),hr.step 9 30 _ (Below.refl _ _) (by simp)⟩
          clear hv hr ha hK hA hli
          go_simp
          exact hF
        · have g30:=si hA 30 (hv.at 9 rfl (ha 9 (by simp [aftersOf,Region.binds])))
          have g27:=si hA 27 (hv.at 6 rfl (ha 6 (by simp [aftersOf,Region.binds])))
          have gg30:=slot_get g30
          have gg27:=slot_get g27
          rw [if_pos (by simp [Region.wanted,yielded,slot_bool g27])]
          obtain ⟨z0,z1,z2,-,-,-⟩:=(HK.out w' (HB4.out.trans (hr.1.mono HB4.out.size))).1
          have hF:=hK (.slice b2 (k+1) d2) w' ⟨hv.step 10 31 _ (by simp),hr.step 10 31 _ (Below.refl _ _) (by simp)⟩
          clear hv hr ha hK hA hli
          go_simp
          exact hF
        · have g5:=slot_out hA 5 _ (by decide) (by decide) rfl
          simp only [List.getD_cons_succ,List.getD_cons_zero] at g5
          have g27:=si hA 27 (hv.at 6 rfl (ha 6 (by simp [aftersOf,Region.binds])))
          have gg5:=slot_get g5
          have gg27:=slot_get g27
          rw [if_pos (by simp [Region.wanted,yielded,slot_bool g27])]
          have hF:=hK (.int .i64 (k:Int)) w' ⟨hv.step 11 32 _ (by simp),hr.step 11 32 _ (Below.refl _ _) (by simp)⟩
          clear hv hr ha hK hA hli
          go_simp
          exact hF
        · have g31:=si hA 31 (hv.at 10 rfl (ha 10 (by simp [aftersOf,Region.binds])))
          have g32:=si hA 32 (hv.at 11 rfl (ha 11 (by simp [aftersOf,Region.binds])))
          have g27:=si hA 27 (hv.at 6 rfl (ha 6 (by simp [aftersOf,Region.binds])))
          have gg31:=slot_get g31
          have gg32:=slot_get g32
          have gg27:=slot_get g27
          rw [if_pos (by simp [Region.wanted,yielded,slot_bool g27])]
          have hL:=HCAP.out
          have hF:=hK (.slice b2 k d2) w' ⟨hv.step 12 33 _ (by simp),hr.step 12 33 _ (Below.refl _ _) (by simp)⟩
          clear hv hr ha hK hA hli
          go_simp
          exact hF
        · have g3:=slot_out hA 3 _ (by decide) (by decide) rfl
          simp only [List.getD_cons_succ,List.getD_cons_zero] at g3
          have g27:=si hA 27 (hv.at 6 rfl (ha 6 (by simp [aftersOf,Region.binds])))
          have gg3:=slot_get g3
          have gg27:=slot_get g27
          rw [if_pos (by simp [Region.wanted,yielded,slot_bool g27])]
          have hF:=hK (.pointer (some ⟨Z,2,none⟩)) w' ⟨hv.step 13 34 _ (by simp),hr.step 13 34 _ (Below.refl _ _) (by simp)⟩
          clear hv hr ha hK hA hli
          go_simp
          exact hF
        · have g34:=si hA 34 (hv.at 13 rfl (ha 13 (by simp [aftersOf,Region.binds])))
          have g27:=si hA 27 (hv.at 6 rfl (ha 6 (by simp [aftersOf,Region.binds])))
          have gg34:=slot_get g34
          have gg27:=slot_get g27
          rw [if_pos (by simp [Region.wanted,yielded,slot_bool g27])]
          obtain ⟨z0,z1,z2,-,-,-⟩:=(HK.out w' (HB4.out.trans (hr.1.mono HB4.out.size))).1
          have hF:=hK (.slice b3 (k+1) d3) w' ⟨hv.step 14 35 _ (by simp),hr.step 14 35 _ (Below.refl _ _) (by simp)⟩
          clear hv hr ha hK hA hli
          go_simp
          exact hF
        · have g5:=slot_out hA 5 _ (by decide) (by decide) rfl
          simp only [List.getD_cons_succ,List.getD_cons_zero] at g5
          have g27:=si hA 27 (hv.at 6 rfl (ha 6 (by simp [aftersOf,Region.binds])))
          have gg5:=slot_get g5
          have gg27:=slot_get g27
          rw [if_pos (by simp [Region.wanted,yielded,slot_bool g27])]
          have hF:=hK (.int .i64 (k:Int)) w' ⟨hv.step 15 36 _ (by simp),hr.step 15 36 _ (Below.refl _ _) (by simp)⟩
          clear hv hr ha hK hA hli
          go_simp
          exact hF
        · have g35:=si hA 35 (hv.at 14 rfl (ha 14 (by simp [aftersOf,Region.binds])))
          have g36:=si hA 36 (hv.at 15 rfl (ha 15 (by simp [aftersOf,Region.binds])))
          have g27:=si hA 27 (hv.at 6 rfl (ha 6 (by simp [aftersOf,Region.binds])))
          have gg35:=slot_get g35
          have gg36:=slot_get g36
          have gg27:=slot_get g27
          rw [if_pos (by simp [Region.wanted,yielded,slot_bool g27])]
          have hL:=HCAP.out
          have hF:=hK (.slice b3 k d3) w' ⟨hv.step 16 37 _ (by simp),hr.step 16 37 _ (Below.refl _ _) (by simp)⟩
          clear hv hr ha hK hA hli
          go_simp
          exact hF
        · have g29:=si hA 29 (hv.at 8 rfl (ha 8 (by simp [aftersOf,Region.binds])))
          have g33:=si hA 33 (hv.at 12 rfl (ha 12 (by simp [aftersOf,Region.binds])))
          have g37:=si hA 37 (hv.at 16 rfl (ha 16 (by simp [aftersOf,Region.binds])))
          have g27:=si hA 27 (hv.at 6 rfl (ha 6 (by simp [aftersOf,Region.binds])))
          have gg29:=slot_get g29
          have gg33:=slot_get g33
          have gg37:=slot_get g37
          have gg27:=slot_get g27
          rw [if_pos (by simp [Region.wanted,yielded,slot_bool g27])]
          have hF:=hK (.agg #[.slice b1 m1 d1,.slice b2 k d2,.slice b3 k d3]) w' ⟨hv.step 17 38 _ (by simp),hr.step 17 38 _ (Below.refl _ _) (by simp)⟩
          clear hv hr ha hK hA hli
          go_simp
          exact hF
        · have g38:=si hA 38 (hv.at 17 rfl (ha 17 (by simp [aftersOf,Region.binds])))
          have g27:=si hA 27 (hv.at 6 rfl (ha 6 (by simp [aftersOf,Region.binds])))
          have gg38:=slot_get g38
          have gg27:=slot_get g27
          rw [if_pos (by simp [Region.wanted,yielded,slot_bool g27])]
          clear hA
          go_simp
          refine (HC2.out w' hr.1).mono ?_
          rintro e9 w9 ⟨rfl,hb9⟩
          exact hK (.bool true) w9 ⟨hv.step 18 39 _ (by simp),hr.step 18 39 _ hb9 (by simp)⟩
        · have g27:=si hA 27 (hv.at 6 rfl (ha 6 (by simp [aftersOf,Region.binds])))
          have g39:=si hA 39 (hv.at 18 rfl (ha 18 (by simp [aftersOf,Region.binds])))
          have gg27:=slot_get g27
          have gg39:=slot_get g39
          rw [if_pos (by rfl)]
          have hF:=hK (.bool true) w' ⟨hv.step 19 40 _ (by simp),hr.step 19 40 _ (Below.refl _ _) (by simp)⟩
          clear hv hr ha hK hA hli
          go_simp
          exact hF
        · have g40:=si hA 40 (hv.at 19 rfl (ha 19 (by simp [aftersOf,Region.binds])))
          have gg40:=slot_get g40
          rw [if_pos (by rfl)]
          have hF:=hK (.bool true) w' ⟨hv.step 20 41 _ (by simp),hr.step 20 41 _ (Below.refl _ _) (by simp)⟩
          clear hv hr ha hK hA hli
          go_simp
          exact hF
        · have g3:=slot_out hA 3 _ (by decide) (by decide) rfl
          simp only [List.getD_cons_succ,List.getD_cons_zero] at g3
          have g41:=si hA 41 (hv.at 20 rfl (ha 20 (by simp [aftersOf,Region.binds])))
          have gg3:=slot_get g3
          have gg41:=slot_get g41
          rw [if_pos (by simp [Region.wanted,yielded,slot_bool g41])]
          have hF:=hK (.pointer (some ⟨Z,0,none⟩)) w' ⟨hv.step 21 42 _ (by simp),hr.step 21 42 _ (Below.refl _ _) (by simp)⟩
          clear hv hr ha hK hA hli
          go_simp
          exact hF
        · have g42:=si hA 42 (hv.at 21 rfl (ha 21 (by simp [aftersOf,Region.binds])))
          have g41:=si hA 41 (hv.at 20 rfl (ha 20 (by simp [aftersOf,Region.binds])))
          have gg42:=slot_get g42
          have gg41:=slot_get g41
          rw [if_pos (by simp [Region.wanted,yielded,slot_bool g41])]
          obtain ⟨z0,z1,z2,-,-,-⟩:=(HK.out w' (HB4.out.trans (hr.1.mono HB4.out.size))).1
          have hF:=hK (.slice b1 m1 d1) w' ⟨hv.step 22 43 _ (by simp),hr.step 22 43 _ (Below.refl _ _) (by simp)⟩
          clear hv hr ha hK hA hli
          go_simp
          exact hF
        · have g43:=si hA 43 (hv.at 22 rfl (ha 22 (by simp [aftersOf,Region.binds])))
          have g41:=si hA 41 (hv.at 20 rfl (ha 20 (by simp [aftersOf,Region.binds])))
          have gg43:=slot_get g43
          have gg41:=slot_get g41
          rw [if_pos (by simp [Region.wanted,yielded,slot_bool g41])]
          have hF:=hK (.agg #[.slice b1 m1 d1,.slice none 0 0,.slice none 0 0]) w' ⟨hv.step 23 44 _ (by simp),hr.step 23 44 _ (Below.refl _ _) (by simp)⟩
          clear hv hr ha hK hA hli
          go_simp
          exact hF
        · have g44:=si hA 44 (hv.at 23 rfl (ha 23 (by simp [aftersOf,Region.binds])))
          have g41:=si hA 41 (hv.at 20 rfl (ha 20 (by simp [aftersOf,Region.binds])))
          have gg44:=slot_get g44
          have gg41:=slot_get g41
          rw [if_pos (by simp [Region.wanted,yielded,slot_bool g41])]
          clear hA
          go_simp
          refine (HC3.out w' hr.1).mono ?_
          rintro e9 w9 ⟨rfl,hb9⟩
          exact hK (.bool false) w9 ⟨hv.step 24 45 _ (by simp),hr.step 24 45 _ hb9 (by simp)⟩
        · have g45:=si hA 45 (hv.at 24 rfl (ha 24 (by simp [aftersOf,Region.binds])))
          have g41:=si hA 41 (hv.at 20 rfl (ha 20 (by simp [aftersOf,Region.binds])))
          have gg45:=slot_get g45
          have gg41:=slot_get g41
          rw [if_pos (by simp [Region.wanted,yielded,slot_bool g41])]
          have hF:=hK (.bool true) w' ⟨hv.step 25 46 _ (by simp),hr.step 25 46 _ (Below.refl _ _) (by simp)⟩
          clear hv hr ha hK hA hli
          go_simp
          exact hF
        · have g41:=si hA 41 (hv.at 20 rfl (ha 20 (by simp [aftersOf,Region.binds])))
          have g46:=si hA 46 (hv.at 25 rfl (ha 25 (by simp [aftersOf,Region.binds])))
          have gg41:=slot_get g41
          have gg46:=slot_get g46
          rw [if_pos (by rfl)]
          have hF:=hK (.bool true) w' ⟨hv.step 26 47 _ (by simp),hr.step 26 47 _ (Below.refl _ _) (by simp)⟩
          clear hv hr ha hK hA hli
          go_simp
          exact hF
        · have g47:=si hA 47 (hv.at 26 rfl (ha 26 (by simp [aftersOf,Region.binds])))
          have gg47:=slot_get g47
          rw [if_pos (by rfl)]
          have hF:=hK (.bool true) w' ⟨hv.step 27 48 _ (by simp),hr.step 27 48 _ (Below.refl _ _) (by simp)⟩
          clear hv hr ha hK hA hli
          go_simp
          exact hF
        · have g48:=si hA 48 (hv.at 27 rfl (ha 27 (by simp [aftersOf,Region.binds])))
          have gg48:=slot_get g48
          rw [if_pos (by simp [Region.wanted,yielded,slot_bool g48])]
          clear hA
          go_simp
          refine (alive_any w').mono ?_
          rintro e9 w9 ⟨rfl,hb9⟩
          exact hK (.bool true) w9 ⟨hv.step 28 49 _ (by simp),hr.step 28 49 _ hb9 (by simp)⟩
        · have g48:=si hA 48 (hv.at 27 rfl (ha 27 (by simp [aftersOf,Region.binds])))
          have g49:=si hA 49 (hv.at 28 rfl (ha 28 (by simp [aftersOf,Region.binds])))
          have gg48:=slot_get g48
          have gg49:=slot_get g49
          rw [if_pos (by rfl)]
          have hF:=hK (.bool true) w' ⟨hv.step 29 50 _ (by simp),hr.step 29 50 _ (Below.refl _ _) (by simp)⟩
          clear hv hr ha hK hA hli
          go_simp
          exact hF
        · have g50:=si hA 50 (hv.at 29 rfl (ha 29 (by simp [aftersOf,Region.binds])))
          have gg50:=slot_get g50
          rw [if_pos (by rfl)]
          have hF:=hK (.bool true) w' ⟨hv.step 30 2 _ (by simp),hr.step 30 2 _ (Below.refl _ _) (by simp)⟩
          clear hv hr ha hK hA hli
          go_simp
          exact hF
      · intro lz fz w5 hall ⟨hv,hq⟩
        have h2:=hv.at 30 rfl (hall 30 (by decide))
        have hbR:=hq.1
        clear hv hq hall
        simp only [mixF,List.contains_cons,List.contains_nil]
        go_simp
        have HBF:=Lib.hid (HEND.out w5 hbR)
        clear hbR
        go_wp2
        go_ret
        exact ⟨by first | rfl | exact congrArg Ending.returned h2,HBF.out⟩
 · have hs':(1048576:Int) < (len:Int):=by omega
   clear h hlc
   go_enter Tryz.func3,Tryz.ntmps3
   go_wp2
   go_ret
   exact ⟨rfl,Below.refl _ _⟩
end Go.Proofs.YtnojhgckinibgaaGreat
