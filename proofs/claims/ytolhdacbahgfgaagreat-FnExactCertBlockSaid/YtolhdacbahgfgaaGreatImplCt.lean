/- The contracts of the program's CertValid,CertCounts,JoinCerts,and what they call (gen18/cert.py). -/
import Derived.Test.YtolhdacbahgfgaaGreatCertMath
import Derived.Test.YtolhdacbahgfgaaGreatImplVw
import Derived.Test.YtolhdacbahgfgaaGreatTwo
import Derived.Deep.Cut
namespace Go.Proofs.YtolhdacbahgfgaaGreat
open Go.RowKit
set_option linter.unusedVariables false
set_option linter.unusedSimpArgs false
theorem areMembers_impl (n:Int) (w:World) :
  Calls Tryz.prog 101 #[.int .i64 n] w fun e w'=>e = .returned (.bool (inB n 0 15))∧w=w':=by
 by_cases h1:0≤n
 · by_cases h2:n≤15
   · rw [inB_yes h1 h2]
     have h3:decide (n < 16)=true:=by simp;omega
     go_enter Tryz.func101,Tryz.ntmps101
     go_wp2
     go_ret
     exact ⟨rfl,rfl⟩
   · rw [inB_no (by omega)]
     have h3:decide (n < 16)=false:=by simp;omega
     go_enter Tryz.func101,Tryz.ntmps101
     go_wp2
     go_ret
     exact ⟨rfl,rfl⟩
 · rw [inB_no (by omega)]
   go_enter Tryz.func101,Tryz.ntmps101
   go_wp2
   go_ret
   exact ⟨rfl,rfl⟩
theorem onesCount64_any (n:Int) (w:World) (h0:0≤n) (h1:n≤15) :
  Calls Tryz.prog 125 #[.int .u64 n] w fun e w'=>e = .returned (.int .i64 (manyM n))∧w=w':=by
 rcases (by omega:n=0∨n=1∨n=2∨n=3∨n=4∨n=5∨n=6∨n=7∨n=8∨n=9∨n=10∨n=11∨n=12∨n=13∨n=14∨n=15) with rfl | rfl | rfl | rfl | rfl | rfl | rfl | rfl | rfl | rfl | rfl | rfl | rfl | rfl | rfl | rfl
 all_goals
  go_enter Tryz.func125,Tryz.ntmps125
  go_wp2
  go_ret
  exact ⟨by kernel_rfl,rfl⟩
theorem onesCount_any (n:Int) (w:World) (h0:0≤n) (h1:n≤15) :
  Calls Tryz.prog 102 #[.int .u64 n] w fun e w'=>e = .returned (.int .i64 (manyM n))∧w=w':=by
 have HC:=Lib.hid (onesCount64_any n w h0 h1)
 go_enter Tryz.func102,Tryz.ntmps102
 go_wp2_with fail
 refine HC.out.mono ?_;rintro e w' ⟨rfl,rfl⟩
 go_wp2_with fail
 go_ret
 exact ⟨rfl,rfl⟩
theorem areQuorum_impl (n:Int) (w:World) (h0:0≤n) (h1:n≤15) :
  Calls Tryz.prog 59 #[.int .i64 n] w fun e w'=>e = .returned (.bool (decide (3≤manyM n)))∧w=w':=by
 have HC:=Lib.hid (onesCount_any n w h0 h1)
 go_enter Tryz.func59,Tryz.ntmps59
 go_wp2_with fail
 refine HC.out.mono ?_
 rintro e w' ⟨rfl,rfl⟩
 go_wp2_with fail
 go_ret
 exact ⟨by simp,rfl⟩
set_option maxHeartbeats 1000000 in
theorem certValid_impl (s v g:Int) (w:World) :
  Calls Tryz.prog 58 #[.agg #[.int .i64 s,.int .i64 v,.int .i64 g]] w (BoolB (crtB ⟨s,v,g⟩) w):=by
 have HB:=Lib.hid ((Below.refl w.heap.size w).alloc (Nat.le_refl _) (.cells #[.int .i64 s,.int .i64 v,.int .i64 g] 36))
 cases e0:inB s 0 1000002 with
 | false =>
  have HE:Hid (crtB ⟨s,v,g⟩=false):=Lib.hid (by simp [crtB,e0])
  go_enter Tryz.func58,Tryz.ntmps58
  go_wp2_with (first | (go_at_call 97;refine (isSum_impl _ _).mono ?_;rintro e w' ⟨rfl,rfl⟩) | (go_at_call 99;refine (isView_impl _ _).mono ?_;rintro e w' ⟨rfl,rfl⟩) | (go_at_call 101;refine (areMembers_impl _ _).mono ?_;rintro e w' ⟨rfl,rfl⟩))
  go_ret
  exact ⟨by rw [HE.out];rfl,HB.out⟩
 | true =>
 cases e1:inB v 0 1000 with
 | false =>
  have HE:Hid (crtB ⟨s,v,g⟩=false):=Lib.hid (by simp [crtB,e1])
  go_enter Tryz.func58,Tryz.ntmps58
  go_wp2_with (first | (go_at_call 97;refine (isSum_impl _ _).mono ?_;rintro e w' ⟨rfl,rfl⟩) | (go_at_call 99;refine (isView_impl _ _).mono ?_;rintro e w' ⟨rfl,rfl⟩) | (go_at_call 101;refine (areMembers_impl _ _).mono ?_;rintro e w' ⟨rfl,rfl⟩))
  go_ret
  exact ⟨by rw [HE.out];rfl,HB.out⟩
 | true =>
 have HE:Hid (crtB ⟨s,v,g⟩=inB g 0 15):=Lib.hid (by simp [crtB,e0,e1])
 go_enter Tryz.func58,Tryz.ntmps58
 go_wp2_with (first | (go_at_call 97;refine (isSum_impl _ _).mono ?_;rintro e w' ⟨rfl,rfl⟩) | (go_at_call 99;refine (isView_impl _ _).mono ?_;rintro e w' ⟨rfl,rfl⟩) | (go_at_call 101;refine (areMembers_impl _ _).mono ?_;rintro e w' ⟨rfl,rfl⟩))
 go_ret
 exact ⟨by rw [HE.out];rfl,HB.out⟩
set_option maxHeartbeats 1000000 in
theorem certCounts_impl (s v g:Int) (w:World) :
  Calls Tryz.prog 27 #[.agg #[.int .i64 s,.int .i64 v,.int .i64 g]] w (BoolB (cntB ⟨s,v,g⟩) w):=by
 have HB:=Lib.hid ((Below.refl w.heap.size w).alloc (Nat.le_refl _) (.cells #[.int .i64 s,.int .i64 v,.int .i64 g] 36))
 have HG:=Lib.hid (trAt_new w 36 (.int .i64 s) (.int .i64 v) (.int .i64 g))
 obtain ⟨x,hx⟩:∃ x,x=crtB ⟨s,v,g⟩:=⟨_,rfl⟩
 have HX:=Lib.hid hx.symm
 clear hx
 cases x with
 | false =>
  have HE:Hid (cntB ⟨s,v,g⟩=false):=Lib.hid (cntB_no HX.out)
  go_enter Tryz.func27,Tryz.ntmps27
  go_wp2_with fail
  refine (certValid_impl s v g _).mono ?_;rintro e w1 ⟨rfl,hb1⟩
  rw [HX.out]
  obtain ⟨c0,c1,c2,-⟩:=HG.out.below hb1
  have HB1:=Lib.hid (HB.out.trans (hb1.mono HB.out.size))
  clear hb1
  go_wp2_with fail
  go_ret
  exact ⟨by rw [HE.out];rfl,HB1.out⟩
 | true =>
  have HE:Hid (cntB ⟨s,v,g⟩=decide (3≤manyM g)):=Lib.hid (cntB_yes HX.out)
  have HS:=Lib.hid (crtB_true HX.out).2.2
  go_enter Tryz.func27,Tryz.ntmps27
  go_wp2_with fail
  refine (certValid_impl s v g _).mono ?_;rintro e w1 ⟨rfl,hb1⟩
  rw [HX.out]
  obtain ⟨c0,c1,c2,-⟩:=HG.out.below hb1
  have HB1:=Lib.hid (HB.out.trans (hb1.mono HB.out.size))
  clear hb1
  go_wp2_with fail
  refine (areQuorum_impl g _ HS.out.1 HS.out.2).mono ?_;rintro e w2 ⟨rfl,rfl⟩
  go_wp2_with fail
  go_ret
  exact ⟨by rw [HE.out];rfl,HB1.out⟩
end Go.Proofs.YtolhdacbahgfgaaGreat
