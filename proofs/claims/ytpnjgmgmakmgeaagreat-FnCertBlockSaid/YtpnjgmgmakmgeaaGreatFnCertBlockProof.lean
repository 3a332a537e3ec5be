/- FnCertBlock: for every input the Go function loop.example/blockexecutor/laws.FnCertBlock returns true and its arguments read afterwards as before; no conditions. -/
import Derived.Test.YtpnjgmgmakmgeaaGreatTrM
import Derived.Test.YtpnjgmgmakmgeaaGreatCore
import Derived.Test.YtpnjgmgmakmgeaaGreatSpecAct
import Derived.Test.YtpnjgmgmakmgeaaGreatTwo
import Derived.Deep.Cut
import Derived.Test.YtpnjgmgmakmgeaaGreatImplVw
import Derived.Test.YtpnjgmgmakmgeaaGreatRegJ
import Derived.Test.YtpnjgmgmakmgeaaGreatRegO
import Derived.Test.YtpnjgmgmakmgeaaGreatDrT
import Derived.Test.YtpnjgmgmakmgeaaGreatSpB
import Derived.Lib.MinMax
import Derived.Test.YtpnjgmgmakmgeaaGreatImT
import Derived.Test.YtpnjgmgmakmgeaaGreatSpecTr2
import Derived.Test.YtpnjgmgmakmgeaaGreatTrX
import Derived.Test.YtpnjgmgmakmgeaaGreatOne
import Derived.Test.YtpnjgmgmakmgeaaGreatConv
import Derived.WalkKit
import Derived.ProofKit
import Derived.OpenShut
import Derived.ShutString
import Derived.ChangeOld
import Derived.Below
namespace Go.Proofs.YtpnjgmgmakmgeaaGreat
open Go.RowKit
set_option linter.unusedVariables false
structure Crt where
 sum:Int
 view:Int
 sig:Int
def crtB (c:Crt):Bool:=inB c.sum 0 1000002 && inB c.view 0 1000 && inB c.sig 0 15
def manyM (n:Int):Int:=n % 2+n / 2 % 2+n / 4 % 2+n / 8 % 2
def cntB (c:Crt):Bool:=crtB c && decide (3≤manyM c.sig)
theorem crtB_true {c:Crt} (h:crtB c=true):(0≤c.sum∧c.sum≤1000002)∧(0≤c.view∧c.view≤1000)∧(0≤c.sig∧c.sig≤15):=by
 simp only [crtB,Bool.and_eq_true] at h
 exact ⟨inB_true h.1.1,inB_true h.1.2,inB_true h.2⟩
theorem cntB_no {c:Crt} (h:crtB c=false):cntB c=false:=by simp [cntB,h]
theorem cntB_yes {c:Crt} (h:crtB c=true):cntB c=decide (3≤manyM c.sig):=by simp [cntB,h]
def Crt.v (c:Crt):Value:=.agg #[.int .i64 c.sum,.int .i64 c.view,.int .i64 c.sig]
theorem results_crt {fn:Func} {p:Tmp} (h:fn.results=#[.cell p 29]) (tmps:Array Value) {F:World} {Z:Nat} (hp:tmps.getD p undef = .pointer (some ⟨Z,0,none⟩)) {v1 v2 v3:Value} (hc:TrAt F Z v1 v2 v3):(results fn tmps).run Tryz.prog F = .ok (.agg #[v1,v2,v3]) F:=by
 have hp':tmps[p]?.getD undef = .pointer (some ⟨Z,0,none⟩):=by simpa using hp
 obtain ⟨c0,c1,c2,-⟩:=hc
 simp [results,h,hp',asAddr,go_sem,c0,c1,c2]
end Go.Proofs.YtpnjgmgmakmgeaaGreat
namespace Go.Proofs.YtpnjgmgmakmgeaaGreat
open Go.RowKit
set_option linter.unusedVariables false
theorem upd_wipe (w:World) (R:Nat):Upd R w { w with heap:=w.heap.setIfInBounds R (.cells #[] 0 (0,0)) } :=
 ⟨rfl,rfl,rfl,by simp,fun q hq hr=>by
  have hne:R≠q:=fun e=>hr (by rw [e])
  simp [hne]⟩
theorem tre_ne {w:World} {R b off n c:Nat} {v1 v3:Value} {t:Tre} (h:∀ W,Upd R w W→TreRd W v1 (.slice (some ⟨b,off,none⟩) n c) v3 t) (hn:0 < n):b≠R:=by
 intro e
 subst e
 obtain ⟨-,⟨a2,n2,c2,e2,r2,-,-⟩,-⟩:=h _ (upd_wipe w b)
 simp only [Value.slice.injEq] at e2
 obtain ⟨rfl,rfl,rfl⟩:=e2
 obtain ⟨b',off',e3,hb⟩:=r2.at 0 hn
 simp only [Option.some.injEq,Addr.mk.injEq] at e3
 obtain ⟨rfl,rfl,-⟩:=e3
 have h0:=hb.c0
 have hl:b < w.heap.size:=by
  obtain ⟨-,⟨a2,n2,c2,e2,r2,-,-⟩,-⟩:=h _ (Upd.refl _ w)
  simp only [Value.slice.injEq] at e2
  obtain ⟨rfl,rfl,rfl⟩:=e2
  obtain ⟨b',off',e3,hb⟩:=r2.at 0 hn
  simp only [Option.some.injEq,Addr.mk.injEq] at e3
  obtain ⟨rfl,rfl,-⟩:=e3
  exact hb.lt
 simp [World.cell?,hl] at h0
def BkHold (R:Nat) (w:World) (b o:Nat) (x:Blk) (a:Option Addr) (n c:Nat):Prop :=
 ∀ W,Upd R w W→(W.cell? ⟨b,o,none⟩=some (.int .i64 x.bef)∧W.cell? ⟨b,o+1,none⟩=some (.int .i64 x.hgt)∧W.cell? ⟨b,o+2,none⟩=some (.int .i64 x.view)∧W.cell? ⟨b,o+3,none⟩=some (.slice a n c)∧W.cell? ⟨b,o+4,none⟩=some (.int .i64 x.root)∧W.cell? ⟨b,o+5,none⟩=some (.int .i64 x.effs))∧RowA W a n x.acts
theorem tre_hold {w:World} {R b off n c:Nat} {v1 v3:Value} {t:Tre} (h:∀ W,Upd R w W→TreRd W v1 (.slice (some ⟨b,off,none⟩) n c) v3 t) (k:Nat) (hk:k < n):∃ a m e,BkHold R w b (off+k*6) (t.blocks.getD k noBlk) a m e:=by
 have hne:=tre_ne h (by omega)
 have hat:∀ W,Upd R w W→BkIn W b (off+k*6) (t.blocks.getD k noBlk):=by
  intro W hu
  obtain ⟨-,⟨a2,n2,c2,e2,r2,-,-⟩,-⟩:=h W hu
  simp only [Value.slice.injEq] at e2
  obtain ⟨rfl,rfl,rfl⟩:=e2
  obtain ⟨b',off',e3,hb⟩:=r2.at k hk
  simp only [Option.some.injEq,Addr.mk.injEq] at e3
  obtain ⟨rfl,rfl,-⟩:=e3
  exact hb
 obtain ⟨v,hv,a,m,e,rfl,-⟩:=(hat w (Upd.refl _ _)).c3
 refine ⟨a,m,e,fun W hu=>?_⟩
 have hb:=hat W hu
 obtain ⟨v',hv',a',m',e',rfl,ra,-⟩:=hb.c3
 have h3:=hu.cell hv hne
 rw [hv'] at h3
 simp only [Option.some.injEq,Value.slice.injEq] at h3
 obtain ⟨rfl,rfl,rfl⟩:=h3
 exact ⟨⟨hb.c0,hb.c1,hb.c2,hv',hb.c4,hb.c5⟩,ra⟩
end Go.Proofs.YtpnjgmgmakmgeaaGreat
namespace Go.Proofs.YtpnjgmgmakmgeaaGreat
open Go.RowKit
set_option linter.unusedVariables false
set_option linter.unusedSimpArgs false
def partM (n:Int):Nat→Int
 | 0=>0
 | 1=>n % 2
 | 2=>n % 2+n / 2 % 2
 | 3=>n % 2+n / 2 % 2+n / 4 % 2
 | _=>manyM n
theorem l15Many_spec (n:Int) (w:World) (h0:0≤n) (h1:n≤15) :
  Calls Tryz.prog 129 #[.int .i64 n] w fun e w'=>e = .returned (.int .i64 (manyM n))∧w=w':=by
 go_enter Tryz.func129,Tryz.ntmps129
 go_wp2
 go_loopw [3,4] (fun a i wr=>∃ k:Nat,k≤4∧i = .int .i64 k∧a = .int .i64 (partM n k)∧wr=w) (fun _ i _=>4 - (intOf i).toNat)
 case atStart=>exact ⟨0,by omega,rfl,rfl,rfl⟩
 case round =>
  obtain ⟨k,hk,rfl,rfl,rfl⟩:=hrel
  rcases (by omega:k=0∨k=1∨k=2∨k=3∨k=4) with rfl | rfl | rfl | rfl | rfl
  · simp only [partM]
    go_wp2
    go_roundw
    case rel=>exact ⟨1,by omega,rfl,by simp [partM],by first | rfl | trivial⟩
    case measure=>simp [intOf]
  · simp only [partM]
    go_wp2
    go_roundw
    case rel=>exact ⟨2,by omega,rfl,by simp [partM],by first | rfl | trivial⟩
    case measure=>simp [intOf]
  · simp only [partM]
    go_wp2
    go_roundw
    case rel=>exact ⟨3,by omega,rfl,by simp [partM],by first | rfl | trivial⟩
    case measure=>simp [intOf]
  · simp only [partM]
    go_wp2
    go_roundw
    case rel=>exact ⟨4,by omega,rfl,by simp [partM,manyM],by first | rfl | trivial⟩
    case measure=>simp [intOf]
  · simp only [partM]
    go_wp2
    go_ret
    exact ⟨rfl,rfl⟩
set_option maxHeartbeats 1000000 in
theorem certValid_spec (s v g:Int) (w:World) :
  Calls Tryz.prog 128 #[.agg #[.int .i64 s,.int .i64 v,.int .i64 g]] w (BoolB (crtB ⟨s,v,g⟩) w):=by
 have HB:=Lib.hid ((Below.refl w.heap.size w).alloc (Nat.le_refl _) (.cells #[.int .i64 s,.int .i64 v,.int .i64 g] 29))
 cases e0:inB s 0 1000002 with
 | false =>
  have HE:Hid (crtB ⟨s,v,g⟩=false):=Lib.hid (by simp [crtB,e0])
  go_enter Tryz.func128,Tryz.ntmps128
  go_wp2_with (first | (go_at_call 84;refine (l1In_spec_hid _ _ _ _).mono ?_;rintro e w' ⟨rfl,rfl⟩))
  go_ret
  exact ⟨by rw [HE.out];rfl,HB.out⟩
 | true =>
 cases e1:inB v 0 1000 with
 | false =>
  have HE:Hid (crtB ⟨s,v,g⟩=false):=Lib.hid (by simp [crtB,e1])
  go_enter Tryz.func128,Tryz.ntmps128
  go_wp2_with (first | (go_at_call 84;refine (l1In_spec_hid _ _ _ _).mono ?_;rintro e w' ⟨rfl,rfl⟩))
  go_ret
  exact ⟨by rw [HE.out];rfl,HB.out⟩
 | true =>
 have HE:Hid (crtB ⟨s,v,g⟩=inB g 0 15):=Lib.hid (by simp [crtB,e0,e1])
 go_enter Tryz.func128,Tryz.ntmps128
 go_wp2_with (first | (go_at_call 84;refine (l1In_spec_hid _ _ _ _).mono ?_;rintro e w' ⟨rfl,rfl⟩))
 go_ret
 exact ⟨by rw [HE.out];rfl,HB.out⟩
set_option maxHeartbeats 1000000 in
theorem certCounts_spec (s v g:Int) (w:World) :
  Calls Tryz.prog 71 #[.agg #[.int .i64 s,.int .i64 v,.int .i64 g]] w (BoolB (cntB ⟨s,v,g⟩) w):=by
 have HB:=Lib.hid ((Below.refl w.heap.size w).alloc (Nat.le_refl _) (.cells #[.int .i64 s,.int .i64 v,.int .i64 g] 29))
 have HG:=Lib.hid (trAt_new w 29 (.int .i64 s) (.int .i64 v) (.int .i64 g))
 obtain ⟨x,hx⟩:∃ x,x=crtB ⟨s,v,g⟩:=⟨_,rfl⟩
 have HX:=Lib.hid hx.symm
 clear hx
 cases x with
 | false =>
  have HE:Hid (cntB ⟨s,v,g⟩=false):=Lib.hid (cntB_no HX.out)
  go_enter Tryz.func71,Tryz.ntmps71
  go_wp2_with fail
  refine (certValid_spec s v g _).mono ?_;rintro e w1 ⟨rfl,hb1⟩
  rw [HX.out]
  obtain ⟨c0,c1,c2,-⟩:=HG.out.below hb1
  have HB1:=Lib.hid (HB.out.trans (hb1.mono HB.out.size))
  clear hb1
  go_wp2_with fail
  go_ret
  exact ⟨by rw [HE.out];rfl,HB1.out⟩
 | true =>
  have HE:Hid (cntB ⟨s,v,g⟩=decide (3≤manyM g)):=Lib.hid (cntB_yes HX.out)
  have HS:=Lib.hid (crtB_true HX.out).2.2
  go_enter Tryz.func71,Tryz.ntmps71
  go_wp2_with fail
  refine (certValid_spec s v g _).mono ?_;rintro e w1 ⟨rfl,hb1⟩
  rw [HX.out]
  obtain ⟨c0,c1,c2,-⟩:=HG.out.below hb1
  have HB1:=Lib.hid (HB.out.trans (hb1.mono HB.out.size))
  clear hb1
  go_wp2_with fail
  refine (l15Many_spec g _ HS.out.1 HS.out.2).mono ?_;rintro e w2 ⟨rfl,rfl⟩
  go_wp2_with fail
  go_ret
  exact ⟨by rw [HE.out];rfl,HB1.out⟩
end Go.Proofs.YtpnjgmgmakmgeaaGreat
namespace Go.Proofs.YtpnjgmgmakmgeaaGreat
open Go.RowKit
set_option linter.unusedVariables false
set_option linter.unusedSimpArgs false
theorem areMembers_impl (n:Int) (w:World) :
  Calls Tryz.prog 138 #[.int .i64 n] w fun e w'=>e = .returned (.bool (inB n 0 15))∧w=w':=by
 by_cases h1:0≤n
 · by_cases h2:n≤15
   · rw [inB_yes h1 h2]
     have h3:decide (n < 16)=true:=by simp;omega
     go_enter Tryz.func138,Tryz.ntmps138
     go_wp2
     go_ret
     exact ⟨rfl,rfl⟩
   · rw [inB_no (by omega)]
     have h3:decide (n < 16)=false:=by simp;omega
     go_enter Tryz.func138,Tryz.ntmps138
     go_wp2
     go_ret
     exact ⟨rfl,rfl⟩
 · rw [inB_no (by omega)]
   go_enter Tryz.func138,Tryz.ntmps138
   go_wp2
   go_ret
   exact ⟨rfl,rfl⟩
theorem onesCount64_any (n:Int) (w:World) (h0:0≤n) (h1:n≤15) :
  Calls Tryz.prog 168 #[.int .u64 n] w fun e w'=>e = .returned (.int .i64 (manyM n))∧w=w':=by
 rcases (by omega:n=0∨n=1∨n=2∨n=3∨n=4∨n=5∨n=6∨n=7∨n=8∨n=9∨n=10∨n=11∨n=12∨n=13∨n=14∨n=15) with rfl | rfl | rfl | rfl | rfl | rfl | rfl | rfl | rfl | rfl | rfl | rfl | rfl | rfl | rfl | rfl
 all_goals
  go_enter Tryz.func168,Tryz.ntmps168
  go_wp2
  go_ret
  exact ⟨by kernel_rfl,rfl⟩
theorem onesCount_any (n:Int) (w:World) (h0:0≤n) (h1:n≤15) :
  Calls Tryz.prog 139 #[.int .u64 n] w fun e w'=>e = .returned (.int .i64 (manyM n))∧w=w':=by
 have HC:=Lib.hid (onesCount64_any n w h0 h1)
 go_enter Tryz.func139,Tryz.ntmps139
 go_wp2_with fail
 refine HC.out.mono ?_;rintro e w' ⟨rfl,rfl⟩
 go_wp2_with fail
 go_ret
 exact ⟨rfl,rfl⟩
theorem areQuorum_impl (n:Int) (w:World) (h0:0≤n) (h1:n≤15) :
  Calls Tryz.prog 77 #[.int .i64 n] w fun e w'=>e = .returned (.bool (decide (3≤manyM n)))∧w=w':=by
 have HC:=Lib.hid (onesCount_any n w h0 h1)
 go_enter Tryz.func77,Tryz.ntmps77
 go_wp2_with fail
 refine HC.out.mono ?_
 rintro e w' ⟨rfl,rfl⟩
 go_wp2_with fail
 go_ret
 exact ⟨by simp,rfl⟩
set_option maxHeartbeats 1000000 in
theorem certValid_impl (s v g:Int) (w:World) :
  Calls Tryz.prog 76 #[.agg #[.int .i64 s,.int .i64 v,.int .i64 g]] w (BoolB (crtB ⟨s,v,g⟩) w):=by
 have HB:=Lib.hid ((Below.refl w.heap.size w).alloc (Nat.le_refl _) (.cells #[.int .i64 s,.int .i64 v,.int .i64 g] 29))
 cases e0:inB s 0 1000002 with
 | false =>
  have HE:Hid (crtB ⟨s,v,g⟩=false):=Lib.hid (by simp [crtB,e0])
  go_enter Tryz.func76,Tryz.ntmps76
  go_wp2_with (first | (go_at_call 134;refine (isSum_impl _ _).mono ?_;rintro e w' ⟨rfl,rfl⟩) | (go_at_call 136;refine (isView_impl _ _).mono ?_;rintro e w' ⟨rfl,rfl⟩) | (go_at_call 138;refine (areMembers_impl _ _).mono ?_;rintro e w' ⟨rfl,rfl⟩))
  go_ret
  exact ⟨by rw [HE.out];rfl,HB.out⟩
 | true =>
 cases e1:inB v 0 1000 with
 | false =>
  have HE:Hid (crtB ⟨s,v,g⟩=false):=Lib.hid (by simp [crtB,e1])
  go_enter Tryz.func76,Tryz.ntmps76
  go_wp2_with (first | (go_at_call 134;refine (isSum_impl _ _).mono ?_;rintro e w' ⟨rfl,rfl⟩) | (go_at_call 136;refine (isView_impl _ _).mono ?_;rintro e w' ⟨rfl,rfl⟩) | (go_at_call 138;refine (areMembers_impl _ _).mono ?_;rintro e w' ⟨rfl,rfl⟩))
  go_ret
  exact ⟨by rw [HE.out];rfl,HB.out⟩
 | true =>
 have HE:Hid (crtB ⟨s,v,g⟩=inB g 0 15):=Lib.hid (by simp [crtB,e0,e1])
 go_enter Tryz.func76,Tryz.ntmps76
 go_wp2_with (first | (go_at_call 134;refine (isSum_impl _ _).mono ?_;rintro e w' ⟨rfl,rfl⟩) | (go_at_call 136;refine (isView_impl _ _).mono ?_;rintro e w' ⟨rfl,rfl⟩) | (go_at_call 138;refine (areMembers_impl _ _).mono ?_;rintro e w' ⟨rfl,rfl⟩))
 go_ret
 exact ⟨by rw [HE.out];rfl,HB.out⟩
set_option maxHeartbeats 1000000 in
theorem certCounts_impl (s v g:Int) (w:World) :
  Calls Tryz.prog 20 #[.agg #[.int .i64 s,.int .i64 v,.int .i64 g]] w (BoolB (cntB ⟨s,v,g⟩) w):=by
 have HB:=Lib.hid ((Below.refl w.heap.size w).alloc (Nat.le_refl _) (.cells #[.int .i64 s,.int .i64 v,.int .i64 g] 29))
 have HG:=Lib.hid (trAt_new w 29 (.int .i64 s) (.int .i64 v) (.int .i64 g))
 obtain ⟨x,hx⟩:∃ x,x=crtB ⟨s,v,g⟩:=⟨_,rfl⟩
 have HX:=Lib.hid hx.symm
 clear hx
 cases x with
 | false =>
  have HE:Hid (cntB ⟨s,v,g⟩=false):=Lib.hid (cntB_no HX.out)
  go_enter Tryz.func20,Tryz.ntmps20
  go_wp2_with fail
  refine (certValid_impl s v g _).mono ?_;rintro e w1 ⟨rfl,hb1⟩
  rw [HX.out]
  obtain ⟨c0,c1,c2,-⟩:=HG.out.below hb1
  have HB1:=Lib.hid (HB.out.trans (hb1.mono HB.out.size))
  clear hb1
  go_wp2_with fail
  go_ret
  exact ⟨by rw [HE.out];rfl,HB1.out⟩
 | true =>
  have HE:Hid (cntB ⟨s,v,g⟩=decide (3≤manyM g)):=Lib.hid (cntB_yes HX.out)
  have HS:=Lib.hid (crtB_true HX.out).2.2
  go_enter Tryz.func20,Tryz.ntmps20
  go_wp2_with fail
  refine (certValid_impl s v g _).mono ?_;rintro e w1 ⟨rfl,hb1⟩
  rw [HX.out]
  obtain ⟨c0,c1,c2,-⟩:=HG.out.below hb1
  have HB1:=Lib.hid (HB.out.trans (hb1.mono HB.out.size))
  clear hb1
  go_wp2_with fail
  refine (areQuorum_impl g _ HS.out.1 HS.out.2).mono ?_;rintro e w2 ⟨rfl,rfl⟩
  go_wp2_with fail
  go_ret
  exact ⟨by rw [HE.out];rfl,HB1.out⟩
end Go.Proofs.YtpnjgmgmakmgeaaGreat
namespace Go.Proofs.YtpnjgmgmakmgeaaGreat
open Go.RowKit
set_option linter.unusedVariables false
structure BxJ (w0:World) (a s d:Nat) (v1 v2 v3:Value) (l:Nat→Bool) (f:Nat→Value) (w:World):Prop where
 bel:Below w0.heap.size w0 w
 dep:l s=true→l a=true
 box:l a=true→∃ b u1 u2 u3,f d = .pointer (some ⟨b,0,none⟩)∧w0.heap.size≤b∧TrAt w b u1 u2 u3∧(l s=true→u1=v1∧u2=v2∧u3=v3)
theorem BxJ.nothing (w0:World) (a s d:Nat) (v1 v2 v3:Value) (f:Nat→Value):BxJ w0 a s d v1 v2 v3 (fun _=>false) f w0.drew :=
 ⟨(Below.refl _ _).drew,fun h=>(by cases h),fun h=>(by cases h)⟩
theorem BxJ.still {w0 w w':World} {a s d:Nat} {v1 v2 v3:Value} {l:Nat→Bool} {f:Nat→Value} (h:BxJ w0 a s d v1 v2 v3 l f w) (i e:Nat) (v:Value) (hb:Below w.heap.size w w') (ha:(a == i)=false) (hs:(s == i)=false) (he:(e == d)=false) :
  BxJ w0 a s d v1 v2 v3 (fun j=>j == i || l j) (fun x=>if some e=some x then v else f x) w':=by
 refine ⟨h.bel.trans (hb.mono h.bel.size),fun hh=>?_,fun hh=>?_⟩
 · simp only [hs,ha,Bool.false_or] at hh ⊢;exact h.dep hh
 · simp only [ha,Bool.false_or] at hh
   obtain ⟨b,u1,u2,u3,e1,e2,e3,e4⟩:=h.box hh
   have hd:¬ (some e=some d):=by simp;intro x;subst x;simp at he
   refine ⟨b,u1,u2,u3,by simp only [if_neg hd];exact e1,e2,e3.below hb,fun hh2=>?_⟩
   simp only [hs,Bool.false_or] at hh2
   exact e4 hh2
theorem BxJ.make {w0 w:World} {a s d:Nat} {v1 v2 v3:Value} {l:Nat→Bool} {f:Nat→Value} (h:BxJ w0 a s d v1 v2 v3 l f w) (hla:l a=false) (u1 u2 u3:Value) (T:TypeId) (has:(s == a)=false) :
  BxJ w0 a s d v1 v2 v3 (fun j=>j == a || l j) (fun x=>if some d=some x then .pointer (some ⟨w.heap.size,0,none⟩) else f x) (w.alloc (.cells #[u1,u2,u3] T)):=by
 have hls:l s=false:=by cases e:l s with | false=>rfl | true=>rw [h.dep e] at hla;cases hla
 refine ⟨h.bel.alloc h.bel.size _,fun hh=>by simp,fun _=>⟨w.heap.size,u1,u2,u3,by simp,h.bel.size,trAt_new w T u1 u2 u3,fun hh=>?_⟩⟩
 simp only [has,Bool.false_or,hls] at hh;cases hh
theorem BxJ.store {w0 w:World} {a s d b:Nat} {v1 v2 v3 u1 u2 u3:Value} {l:Nat→Bool} {f:Nat→Value} (h:BxJ w0 a s d v1 v2 v3 l f w) (hla:l a=true) (he:f d = .pointer (some ⟨b,0,none⟩)) (hb:w0.heap.size≤b) (ht:TrAt w b u1 u2 u3) (hw:Below w0.heap.size w0 (set3b w b v1 v2 v3)) (v:Value) :
  BxJ w0 a s d v1 v2 v3 (fun j=>j == s || l j) (fun x=>if none=some x then v else f x) (set3b w b v1 v2 v3) :=
 ⟨hw,fun _=>by simp [hla],fun _=>⟨b,v1,v2,v3,by simpa using he,hb,ht.set3b v1 v2 v3,fun _=>⟨rfl,rfl,rfl⟩⟩⟩
theorem set3b_below {w0 w:World} {b:Nat} (h:Below w0.heap.size w0 w) (hb:w0.heap.size≤b) (v1 v2 v3:Value):Below w0.heap.size w0 (set3b w b v1 v2 v3) :=
 ((h.setCell (p:=⟨b,0,none⟩) hb v1).setCell (p:=⟨b,1,none⟩) hb v2).setCell (p:=⟨b,2,none⟩) hb v3
end Go.Proofs.YtpnjgmgmakmgeaaGreat
namespace Go.Proofs.YtpnjgmgmakmgeaaGreat
open Go.RowKit
set_option linter.unusedVariables false
set_option linter.unusedSimpArgs false
def WdIx (R m:Nat):Wd R:=⟨fun v _=>∃ k:Nat,v = .int .i64 (k:Int)∧k < m,fun _ _ _ h _=>h⟩
def WdPl (R b off m:Nat):Wd R:=⟨fun v _=>∃ k:Nat,v = .pointer (some ⟨b,off+k*6,none⟩)∧k < m,fun _ _ _ h _=>h⟩
def WdBk (R:Nat) (w:World) (b off m:Nat) (t:Tre):Wd R:=⟨fun v _=>∃ (k:Nat) (a:Option Addr) (n c:Nat),v = .agg #[.int .i64 (t.blocks.getD k noBlk).bef,.int .i64 (t.blocks.getD k noBlk).hgt,.int .i64 (t.blocks.getD k noBlk).view,.slice a n c,.int .i64 (t.blocks.getD k noBlk).root,.int .i64 (t.blocks.getD k noBlk).effs]∧k < m∧BkHold R w b (off+k*6) (t.blocks.getD k noBlk) a n c,fun _ _ _ h _=>h⟩
def WdC (R:Nat) (s v:Int):Wd R:=⟨fun u _=>∃ x:Int,u = .agg #[.int .i64 s,.int .i64 v,.int .i64 x]∧0≤x∧x≤15,fun _ _ _ h _=>h⟩
def WdCb (R:Nat) (w0:World):Wd R:=⟨fun v w=>∃ Z,v = .pointer (some ⟨Z,0,none⟩)∧w0.heap.size≤Z∧R < Z∧TrAt w Z (.int .i64 0) (.int .i64 0) (.int .i64 0),
 fun v w w' ⟨Z,h1,h2,h3,h4⟩ hu=>⟨Z,h1,h2,h3,h4.upd hu (by omega)⟩⟩
def DrawCt (w:World) (R P c:Nat) (en:Ending) (w':World):Prop :=
 ∃ s v g,en = .returned (.agg #[.int .i64 s,.int .i64 v,.int .i64 g])∧(-1≤s∧s≤1000003)∧(-1≤v∧v≤1001)∧(-1≤g∧g≤16)∧Rd w' R (P+c)∧Upd R w w'
set_option maxRecDepth 100000 in
set_option maxHeartbeats 8000000 in
theorem l20Cert_any (R P:Nat) (n:Int) (b1:Option Addr) (m1 d1:Nat) (b2:Option Addr) (m2 d2:Nat) (b3:Option Addr) (m3 d3:Nat) (t:Tre) (w:World) (h:Rd w R P) (hP:P≤400000) (hn0:0≤n) (hn:n≤1000) (htr:∀ W,Upd R w W→TreRd W (.slice b1 m1 d1) (.slice b2 m2 d2) (.slice b3 m3 d3) t) (hm0:1≤m2) (hm1:m2≤14) :
  Calls Tryz.prog 68 #[.pointer (some ⟨R,0,none⟩),.agg #[.slice b1 m1 d1,.slice b2 m2 d2,.slice b3 m3 d3],.int .i64 n] w (DrawCt w R P 7):=by
 obtain ⟨b,off,rfl⟩:∃ b off,b2=some ⟨b,off,none⟩:=by
  obtain ⟨-,⟨a2,n2,c2,e2,r2,-,-⟩,-⟩:=htr w (Upd.refl _ _)
  simp only [Value.slice.injEq] at e2
  obtain ⟨rfl,rfl,rfl⟩:=e2
  obtain ⟨b',off',e3,-⟩:=r2.at 0 (by omega)
  exact ⟨b',off',e3⟩
 have hRw:=h.lt
 have hu0:Upd R w ((w.alloc (.cells #[.slice b1 m1 d1,.slice (some ⟨b,off,none⟩) m2 d2,.slice b3 m3 d3] 27)).alloc (.cells #[.int .i64 0,.int .i64 0,.int .i64 0] 29)):=((Upd.refl _ _).alloc _).alloc _
 have hG0:=(trAt_new w 27 (.slice b1 m1 d1) (.slice (some ⟨b,off,none⟩) m2 d2) (.slice b3 m3 d3)).below ((Below.refl _ _).alloc (Nat.le_refl _) (.cells #[.int .i64 0,.int .i64 0,.int .i64 0] 29))
 have hE0:=trAt_new (w.alloc (.cells #[.slice b1 m1 d1,.slice (some ⟨b,off,none⟩) m2 d2,.slice b3 m3 d3] 27)) 29 (.int .i64 0) (.int .i64 0) (.int .i64 0)
 rw [World.size_alloc] at hE0
 have hr2:Rd ((w.alloc (.cells #[.slice b1 m1 d1,.slice (some ⟨b,off,none⟩) m2 d2,.slice b3 m3 d3] 27)).alloc (.cells #[.int .i64 0,.int .i64 0,.int .i64 0] 29)) R P:=(h.alloc _).alloc _
 have hz0:((w.alloc (.cells #[.slice b1 m1 d1,.slice (some ⟨b,off,none⟩) m2 d2,.slice b3 m3 d3] 27)).alloc (.cells #[.int .i64 0,.int .i64 0,.int .i64 0] 29)).heap.size=w.heap.size+1+1:=by simp
 obtain ⟨w2,hw2⟩:∃ W1,W1=(w.alloc (.cells #[.slice b1 m1 d1,.slice (some ⟨b,off,none⟩) m2 d2,.slice b3 m3 d3] 27)).alloc (.cells #[.int .i64 0,.int .i64 0,.int .i64 0] 29):=⟨_,rfl⟩
 have HW2:=Lib.hid hw2
 rw [← hw2] at hu0 hG0 hE0 hr2 hz0
 clear hw2 h
 have HHD:=Lib.hid (tre_hold (w:=w2) (R:=R) (fun W hu=>htr W (hu0.trans hu)))
 obtain ⟨G,hG⟩:∃ G,G=w.heap.size:=⟨_,rfl⟩
 have HGE:=Lib.hid hG
 rw [← hG] at hG0 hE0 hz0
 have HBX:=Lib.hid (fun (W:World) (hu:Upd R w2 W)=>hG0.upd hu (by omega))
 have HEX:=Lib.hid (fun (W:World) (hu:Upd R w2 W)=>hE0.upd hu (by omega))
 have HU0:=Lib.hid hu0
 obtain ⟨P2,hP2⟩:∃ p,p=P:=⟨_,rfl⟩
 have HP2:=Lib.hid hP2
 rw [← hP2] at hr2 hP
 have hRG:R < G:=by omega
 clear hu0 hG0 hE0 htr hP2
 go_enter Tryz.func68,Tryz.ntmps68
 go_upto_region 1 with (fail)
 rw [← HW2.out]
 clear HW2
 rw [← hG]
 clear hG
 refine wp_region_light (by kernel_rfl) (StoJ (fun lz fz wz=>WdJ R w2 (P2) [(6,1)] [(0,9,Wd.is R (.pointer (some ⟨G,1,none⟩))),(1,10,Wd.is R (.slice (some ⟨b,off,none⟩) m2 d2)),(2,11,Wd.is R (.pointer (some ⟨R,0,none⟩))),(3,12,Wd.is R (.pointer (some ⟨G,1,none⟩))),(4,13,Wd.is R (.slice (some ⟨b,off,none⟩) m2 d2)),(5,14,Wd.is R (.int .i64 (m2:Int))),(6,15,WdIx R m2),(7,16,WdPl R b off m2),(8,17,WdBk R w2 b off m2 t),(9,7,WdBox R w2)] lz fz wz∧ClJ [(1,[0]),(4,[3]),(5,[4]),(6,[2,5]),(7,[1,6]),(8,[7])] lz) (fun lz fz wz=>(∀ i,i < 10→lz i=true)∧∃ Zb k a n c,fz 7 = .pointer (some ⟨Zb,0,none⟩)∧w2.heap.size≤Zb∧BkAt wz Zb (.int .i64 (t.blocks.getD k noBlk).bef) (.int .i64 (t.blocks.getD k noBlk).hgt) (.int .i64 (t.blocks.getD k noBlk).view) (.slice a n c) (.int .i64 (t.blocks.getD k noBlk).root) (.int .i64 (t.blocks.getD k noBlk).effs)∧k < m2∧BkHold R w2 b (off+k*6) (t.blocks.getD k noBlk) a n c∧Upd R w2 wz∧Rd wz R (P2+1)) 10) 67 rfl [9,10,11,12,13,14,15,16,17,7] (by kernel_rfl) (by kernel_rfl) (by kernel_rfl) (fun f=>StoJ.nothing ⟨WdJ.nothing _ _ f hr2,ClJ.nothing _⟩) ?_ ?_
 · intro i hi
   rcases (by have:i < 11:=hi;omega:i=0∨i=1∨i=2∨i=3∨i=4∨i=5∨i=6∨i=7∨i=8∨i=9∨i=10) with rfl | rfl | rfl | rfl | rfl | rfl | rfl | rfl | rfl | rfl | rfl
   all_goals (clear hi;intro o ho lz fz w' A hJ0 hli ha hA K hK;obtain rfl:=Option.some.inj ho;clear ho)
   · have hM:=hJ0.ahead hli (fun hq=>hq.1 0 (by decide))
     obtain ⟨hJ,hC⟩:=hJ0.1 hM
     have gg4:=so hA 4 _ rfl
     simp only [List.getD_cons_succ,List.getD_cons_zero] at gg4
     rw [if_pos (by rfl)]
     have hF:=hK _ w' (StoJ.step 0 (by decide) hM ⟨hJ.stay 0 0 9 rfl rfl rfl rfl,hC.step 0 (by simp)⟩)
     clear hJ hJ0 ha hK hA hli hC hM;go_simp;exact hF
   · have hM:=hJ0.ahead hli (fun hq=>hq.1 1 (by decide))
     obtain ⟨hJ,hC⟩:=hJ0.1 hM
     have gg9:=sj hA 9 (hJ.at 0 rfl (ha 0 (by decide)))
     rw [if_pos (by rfl)]
     obtain ⟨z0,z1,z2,-,-,-⟩:=HBX.out w' hJ.upd
     have hF:=hK _ w' (StoJ.step 1 (by decide) hM ⟨hJ.stay 1 1 10 rfl rfl rfl rfl,hC.step 1 (by simp [ha 0 (by decide)])⟩)
     clear hJ hJ0 ha hK hA hli hC hM;go_simp;exact hF
   · have hM:=hJ0.ahead hli (fun hq=>hq.1 2 (by decide))
     obtain ⟨hJ,hC⟩:=hJ0.1 hM
     have gg0:=so hA 0 _ rfl
     simp only [List.getD_cons_succ,List.getD_cons_zero] at gg0
     rw [if_pos (by rfl)]
     have hF:=hK _ w' (StoJ.step 2 (by decide) hM ⟨hJ.stay 2 2 11 rfl rfl rfl rfl,hC.step 2 (by simp)⟩)
     clear hJ hJ0 ha hK hA hli hC hM;go_simp;exact hF
   · have hM:=hJ0.ahead hli (fun hq=>hq.1 3 (by decide))
     obtain ⟨hJ,hC⟩:=hJ0.1 hM
     have gg4:=so hA 4 _ rfl
     simp only [List.getD_cons_succ,List.getD_cons_zero] at gg4
     rw [if_pos (by rfl)]
     have hF:=hK _ w' (StoJ.step 3 (by decide) hM ⟨hJ.stay 3 3 12 rfl rfl rfl rfl,hC.step 3 (by simp)⟩)
     clear hJ hJ0 ha hK hA hli hC hM;go_simp;exact hF
   · have hM:=hJ0.ahead hli (fun hq=>hq.1 4 (by decide))
     obtain ⟨hJ,hC⟩:=hJ0.1 hM
     have gg12:=sj hA 12 (hJ.at 3 rfl (ha 3 (by decide)))
     rw [if_pos (by rfl)]
     obtain ⟨z0,z1,z2,-,-,-⟩:=HBX.out w' hJ.upd
     have hF:=hK _ w' (StoJ.step 4 (by decide) hM ⟨hJ.stay 4 4 13 rfl rfl rfl rfl,hC.step 4 (by simp [ha 3 (by decide)])⟩)
     clear hJ hJ0 ha hK hA hli hC hM;go_simp;exact hF
   · have hM:=hJ0.ahead hli (fun hq=>hq.1 5 (by decide))
     obtain ⟨hJ,hC⟩:=hJ0.1 hM
     have gg13:=sj hA 13 (hJ.at 4 rfl (ha 4 (by decide)))
     rw [if_pos (by rfl)]
     have hF:=hK _ w' (StoJ.step 5 (by decide) hM ⟨hJ.stay 5 5 14 rfl rfl rfl rfl,hC.step 5 (by simp [ha 4 (by decide)])⟩)
     clear hJ hJ0 ha hK hA hli hC hM;go_simp;exact hF
   · have hM:=hJ0.ahead hli (fun hq=>hq.1 6 (by decide))
     obtain ⟨hJ,hC⟩:=hJ0.1 hM
     have hbd:=costOf_le [(6,1)] lz
     simp only [List.map_cons,List.map_nil,List.sum_cons,List.sum_nil] at hbd
     have gg11:=sj hA 11 (hJ.at 2 rfl (ha 2 (by decide)))
     have gg14:=sj hA 14 (hJ.at 5 rfl (ha 5 (by decide)))
     rw [if_pos (by rfl)]
     clear hA
     go_simp
     refine (pick_pos R _ (m2:Int) w' hJ.rd (by omega) (by omega) (by omega)).mono ?_
     rintro e9 w9 ⟨x9,rfl,h90,h91,hr9,hu9⟩
     obtain ⟨k9,rfl⟩:∃ k:Nat,x9=k:=⟨x9.toNat,by omega⟩
     exact hK _ w9 (StoJ.step 6 (by decide) hM ⟨hJ.step 6 6 15 (.int .i64 (k9:Int)) rfl rfl rfl hu9 (hJ.asked 6 (by simp) hli hr9) ⟨k9,rfl,by omega⟩,hC.step 6 (by simp [ha 2 (by decide),ha 5 (by decide)])⟩)
   · have hM:=hJ0.ahead hli (fun hq=>hq.1 7 (by decide))
     obtain ⟨hJ,hC⟩:=hJ0.1 hM
     have hbd:=costOf_le [(6,1)] lz
     simp only [List.map_cons,List.map_nil,List.sum_cons,List.sum_nil] at hbd
     have gg10:=sj hA 10 (hJ.at 1 rfl (ha 1 (by decide)))
     obtain ⟨k15,hx15,hl15⟩:=hJ.at 6 rfl (ha 6 (by decide))
     have gg15:=sj hA 15 hx15
     rw [if_pos (by rfl)]
     have hF:=hK (.pointer (some ⟨b,off+k15*6,none⟩)) w' (StoJ.step 7 (by decide) hM ⟨hJ.stay 7 7 16 rfl rfl rfl ⟨k15,rfl,hl15⟩,hC.step 7 (by simp [ha 1 (by decide),ha 6 (by decide)])⟩)
     clear hJ hJ0 ha hK hA hli hbd hC hM;go_simp;exact hF
   · have hM:=hJ0.ahead hli (fun hq=>hq.1 8 (by decide))
     obtain ⟨hJ,hC⟩:=hJ0.1 hM
     have hbd:=costOf_le [(6,1)] lz
     simp only [List.map_cons,List.map_nil,List.sum_cons,List.sum_nil] at hbd
     obtain ⟨k16,hx16,hl16⟩:=hJ.at 7 rfl (ha 7 (by decide))
     have gg16:=sj hA 16 hx16
     rw [if_pos (by rfl)]
     obtain ⟨a16,n16,c16,hh16⟩:=HHD.out k16 hl16
     obtain ⟨⟨q0,q1,q2,q3,q4,q5⟩,-⟩:=hh16 w' hJ.upd
     have hF:=hK (.agg #[.int .i64 (t.blocks.getD k16 noBlk).bef,.int .i64 (t.blocks.getD k16 noBlk).hgt,.int .i64 (t.blocks.getD k16 noBlk).view,.slice a16 n16 c16,.int .i64 (t.blocks.getD k16 noBlk).root,.int .i64 (t.blocks.getD k16 noBlk).effs]) w' (StoJ.step 8 (by decide) hM ⟨hJ.stay 8 8 17 rfl rfl rfl ⟨k16,a16,n16,c16,rfl,hl16,hh16⟩,hC.step 8 (by simp [ha 7 (by decide)])⟩)
     clear hJ hJ0 ha hK hA hli hbd hC hM;go_simp;exact hF
   · have hM:=hJ0.ahead hli (fun hq=>hq.1 9 (by decide))
     obtain ⟨hJ,hC⟩:=hJ0.1 hM
     have hbd:=costOf_le [(6,1)] lz
     simp only [List.map_cons,List.map_nil,List.sum_cons,List.sum_nil] at hbd
     rw [if_pos (by rfl)]
     have hF:=hK (.pointer (some ⟨w'.heap.size,0,none⟩)) (w'.alloc (.cells #[.int .i64 0,.int .i64 0,.int .i64 0,.slice none 0 0,.int .i64 0,.int .i64 0] 37)) (StoJ.step 9 (by decide) hM ⟨hJ.step 9 9 7 (.pointer (some ⟨w'.heap.size,0,none⟩)) rfl rfl rfl ((Upd.refl _ _).alloc _) (hJ.same 9 (hJ.rd.alloc _)) ⟨_,rfl,hJ.upd.size,hJ.rd.lt,bkAt_new w' _ _ _ _ _ _ _⟩,hC.step 9 (by simp)⟩)
     clear hJ hJ0 ha hK hA hli hbd hC hM
     go_simp
     exact hF
   · obtain ⟨hJ,hC⟩:=hJ0.1 hli
     have hbd:=costOf_le [(6,1)] lz
     simp only [List.map_cons,List.map_nil,List.sum_cons,List.sum_nil] at hbd
     obtain ⟨Z7,hx7,hZ7,hR7,hb7⟩:=hJ.at 9 rfl (ha 9 (by decide))
     have gg7:=sj hA 7 hx7
     obtain ⟨k17,a17,n17,c17,hx17,hl17,hh17⟩:=hJ.at 8 rfl (ha 8 (by decide))
     have gg17:=sj hA 17 hx17
     rw [if_pos (by rfl)]
     have l9:lz 9=true:=ha 9 (by decide)
     have l8:lz 8=true:=ha 8 (by decide)
     have l7:lz 7=true:=hC (8,[7]) (by simp) l8 7 (by simp)
     have l1:lz 1=true:=hC (7,[1,6]) (by simp) l7 1 (by simp)
     have l0:lz 0=true:=hC (1,[0]) (by simp) l1 0 (by simp)
     have l6:lz 6=true:=hC (7,[1,6]) (by simp) l7 6 (by simp)
     have l2:lz 2=true:=hC (6,[2,5]) (by simp) l6 2 (by simp)
     have l5:lz 5=true:=hC (6,[2,5]) (by simp) l6 5 (by simp)
     have l4:lz 4=true:=hC (5,[4]) (by simp) l5 4 (by simp)
     have l3:lz 3=true:=hC (4,[3]) (by simp) l4 3 (by simp)
     have hall:∀ i,i < 11→(i == 10 || lz i)=true:=fun i hi =>by
      rcases (by omega:i=0∨i=1∨i=2∨i=3∨i=4∨i=5∨i=6∨i=7∨i=8∨i=9∨i=10) with rfl | rfl | rfl | rfl | rfl | rfl | rfl | rfl | rfl | rfl | rfl <;> simp [*]
     have hbf:=hb7.set6 (.int .i64 (t.blocks.getD k17 noBlk).bef) (.int .i64 (t.blocks.getD k17 noBlk).hgt) (.int .i64 (t.blocks.getD k17 noBlk).view) (.slice a17 n17 c17) (.int .i64 (t.blocks.getD k17 noBlk).root) (.int .i64 (t.blocks.getD k17 noBlk).effs)
     have hupd:Upd R w2 ((((((w'.setCell ⟨Z7,0,none⟩ (.int .i64 (t.blocks.getD k17 noBlk).bef)).setCell ⟨Z7,1,none⟩ (.int .i64 (t.blocks.getD k17 noBlk).hgt)).setCell ⟨Z7,2,none⟩ (.int .i64 (t.blocks.getD k17 noBlk).view)).setCell ⟨Z7,3,none⟩ (.slice a17 n17 c17)).setCell ⟨Z7,4,none⟩ (.int .i64 (t.blocks.getD k17 noBlk).root)).setCell ⟨Z7,5,none⟩ (.int .i64 (t.blocks.getD k17 noBlk).effs)):=(((((hJ.upd.setNewT hZ7).setNewT hZ7).setNewT hZ7).setNewT hZ7).setNewT hZ7).setNewT hZ7
     have hrd:=(((((((hJ.rd.mono (show _≤P2+1 by omega)).setT (o:=0) (v:=.int .i64 (t.blocks.getD k17 noBlk).bef) hR7).setT (o:=1) (v:=.int .i64 (t.blocks.getD k17 noBlk).hgt) hR7).setT (o:=2) (v:=.int .i64 (t.blocks.getD k17 noBlk).view) hR7).setT (o:=3) (v:=.slice a17 n17 c17) hR7).setT (o:=4) (v:=.int .i64 (t.blocks.getD k17 noBlk).root) hR7).setT (o:=5) (v:=.int .i64 (t.blocks.getD k17 noBlk).effs) hR7)
     obtain ⟨z0,z1,z2,z3,z4,z5,f0,f1,f2,f3,f4,f5⟩:=hb7
     have hF:=hK undef _ (StoJ.at ⟨fun i hi=>hall i (by omega),_,k17,a17,n17,c17,by simpa using hx7,hZ7,hbf,hl17,hh17,hupd,hrd⟩)
     clear hJ hJ0 ha hK hA hli hbd hC hall hupd hrd hbf;go_simp;exact hF
 intro lz fz w5 hall hJ
 obtain ⟨hq0,Z7,k,a,nn,c,hx7,hZ7,hb7,hk,hh,hu5,hr5⟩:=hJ.2 (hall 10 (by decide))
 have HBK0:=Lib.hid hh
 obtain ⟨y,hy⟩:∃ y,y=t.blocks.getD k noBlk:=⟨_,rfl⟩
 rw [← hy] at hb7 HBK0
 have hZR:R < Z7:=by omega
 have HBK:=Lib.hid (fun (W:World) (hu:Upd R w5 W)=>(⟨hb7.updT hu (by omega),(HBK0.out W (hu5.trans hu)).2⟩:BkAt W Z7 (.int .i64 y.bef) (.int .i64 y.hgt) (.int .i64 y.view) (.slice a nn c) (.int .i64 y.root) (.int .i64 y.effs)∧RowA W a nn y.acts))
 have hsz5:G+2≤w5.heap.size:=by have:=hu5.size;omega
 have hZ7l:Z7 < w5.heap.size:=hb7.lt
 have HU5:=Lib.hid hu5
 clear hJ hall hq0 hh hy hb7 hu5 hr2
 obtain ⟨s1,hs1⟩:∃ s,blkSumM y=s:=⟨_,rfl⟩
 have hsb:=blkSumM_bd y
 rw [hs1] at hsb
 have HS1:=Lib.hid hs1
 obtain ⟨s0,hs0⟩:∃ s,max 0 s1=s:=⟨_,rfl⟩
 obtain ⟨v1,hv1⟩:∃ v,min 1000 y.view=v:=⟨_,rfl⟩
 obtain ⟨v0,hv0⟩:∃ v,max 0 v1=v:=⟨_,rfl⟩
 have hs0b:0≤s0∧s0≤1000002:=by omega
 have hv0b:0≤v0∧v0≤1000:=by omega
 have HS0:=Lib.hid hs0
 have HV1:=Lib.hid hv1
 have HV0:=Lib.hid hv0
 clear hs1 hs0 hv1 hv0
 simp only [mixF,List.contains_cons,List.contains_nil]
 go_simp
 clear hx7
 obtain ⟨P5,hP5⟩:∃ p,p=P2+1:=⟨_,rfl⟩
 rw [← hP5] at hr5
 go_upto_region 2 with (fail)
 refine wp_region_light (by kernel_rfl) (StoJ (fun lz fz wz=>WdJ R w5 (P5) [(8,1),(11,1)] [(0,18,Wd.is R (.agg #[.int .i64 y.bef,.int .i64 y.hgt,.int .i64 y.view,.slice a nn c,.int .i64 y.root,.int .i64 y.effs])),(1,19,Wd.is R (.int .i64 s1)),(2,20,Wd.is R (.int .i64 s0)),(3,21,Wd.is R (.pointer (some ⟨Z7,2,none⟩))),(4,22,Wd.is R (.int .i64 y.view)),(5,23,Wd.is R (.int .i64 v1)),(6,24,Wd.is R (.int .i64 v0)),(7,25,Wd.is R (.pointer (some ⟨R,0,none⟩))),(8,26,Wd.int R (0) (15)),(9,27,Wd.lit R 5 (0) (15)),(10,28,Wd.is R (.pointer (some ⟨R,0,none⟩))),(11,29,Wd.int R (0) (4)),(12,30,Wd.to R (0) (15)),(13,31,Wd.int R (0) (15)),(14,32,WdC R s0 v0),(15,8,WdCb R w5)] lz fz wz∧ClJ [(1,[0]),(2,[1]),(4,[3]),(5,[4]),(6,[5]),(8,[7]),(9,[8]),(11,[10]),(12,[9,11]),(13,[12]),(14,[2,6,13])] lz) (fun lz fz wz=>(∀ i,i < 16→lz i=true)∧∃ Zc x,fz 8 = .pointer (some ⟨Zc,0,none⟩)∧w5.heap.size≤Zc∧TrAt wz Zc (.int .i64 s0) (.int .i64 v0) (.int .i64 x)∧(0≤x∧x≤15)∧Upd R w5 wz∧Rd wz R (P5+2)) 16) 67 rfl [18,19,20,21,22,23,24,25,26,27,28,29,30,31,32,8] (by kernel_rfl) (by kernel_rfl) (by kernel_rfl) (fun f=>StoJ.nothing ⟨WdJ.nothing _ _ f hr5,ClJ.nothing _⟩) ?_ ?_
 · intro i hi
   rcases (by have:i < 17:=hi;omega:i=0∨i=1∨i=2∨i=3∨i=4∨i=5∨i=6∨i=7∨i=8∨i=9∨i=10∨i=11∨i=12∨i=13∨i=14∨i=15∨i=16) with rfl | rfl | rfl | rfl | rfl | rfl | rfl | rfl | rfl | rfl | rfl | rfl | rfl | rfl | rfl | rfl | rfl
   all_goals (clear hi;intro o ho lz fz w' A hJ0 hli ha hA K hK;obtain rfl:=Option.some.inj ho;clear ho)
   · have hM:=hJ0.ahead hli (fun hq=>hq.1 0 (by decide))
     obtain ⟨hJ,hC⟩:=hJ0.1 hM
     have gg7:=so hA 7 _ rfl
     simp only [List.getD_cons_succ,List.getD_cons_zero] at gg7
     rw [if_pos (by rfl)]
     obtain ⟨⟨k0,k1,k2,k3,k4,k5,-⟩,-⟩:=HBK.out w' hJ.upd
     have hF:=hK _ w' (StoJ.step 0 (by decide) hM ⟨hJ.stay 0 0 18 rfl rfl rfl rfl,hC.step 0 (by simp)⟩)
     clear hJ hJ0 ha hK hA hli hC hM;go_simp;exact hF
   · have hM:=hJ0.ahead hli (fun hq=>hq.1 1 (by decide))
     obtain ⟨hJ,hC⟩:=hJ0.1 hM
     have hbd:=costOf_le [(8,1),(11,1)] lz
     simp only [List.map_cons,List.map_nil,List.sum_cons,List.sum_nil] at hbd
     have gg18:=sj hA 18 (hJ.at 0 rfl (ha 0 (by decide)))
     rw [if_pos (by rfl)]
     clear hA
     go_simp
     refine (blockSum_specV y a nn c w' (HBK.out w' hJ.upd).2).mono ?_
     rintro e9 w9 ⟨rfl,hb9⟩
     rw [HS1.out]
     exact hK _ w9 (StoJ.step 1 (by decide) hM ⟨hJ.step 1 1 19 (.int .i64 s1) rfl rfl rfl (Upd.ofBelow R hb9) (hJ.same 1 (hJ.rd.below hb9)) rfl,hC.step 1 (by simp [ha 0 (by decide)])⟩)
   · have hM:=hJ0.ahead hli (fun hq=>hq.1 2 (by decide))
     obtain ⟨hJ,hC⟩:=hJ0.1 hM
     have gg19:=sj hA 19 (hJ.at 1 rfl (ha 1 (by decide)))
     rw [if_pos (by rfl)]
     have hmx:=HS0.out
     have hF:=hK _ w' (StoJ.step 2 (by decide) hM ⟨hJ.stay 2 2 20 rfl rfl rfl rfl,hC.step 2 (by simp [ha 1 (by decide)])⟩)
     clear hJ hJ0 ha hK hA hli hC hM;go_simp;exact hF
   · have hM:=hJ0.ahead hli (fun hq=>hq.1 3 (by decide))
     obtain ⟨hJ,hC⟩:=hJ0.1 hM
     have gg7:=so hA 7 _ rfl
     simp only [List.getD_cons_succ,List.getD_cons_zero] at gg7
     rw [if_pos (by rfl)]
     have hF:=hK _ w' (StoJ.step 3 (by decide) hM ⟨hJ.stay 3 3 21 rfl rfl rfl rfl,hC.step 3 (by simp)⟩)
     clear hJ hJ0 ha hK hA hli hC hM;go_simp;exact hF
   · have hM:=hJ0.ahead hli (fun hq=>hq.1 4 (by decide))
     obtain ⟨hJ,hC⟩:=hJ0.1 hM
     have gg21:=sj hA 21 (hJ.at 3 rfl (ha 3 (by decide)))
     rw [if_pos (by rfl)]
     obtain ⟨⟨k0,k1,k2,k3,k4,k5,-⟩,-⟩:=HBK.out w' hJ.upd
     have hF:=hK _ w' (StoJ.step 4 (by decide) hM ⟨hJ.stay 4 4 22 rfl rfl rfl rfl,hC.step 4 (by simp [ha 3 (by decide)])⟩)
     clear hJ hJ0 ha hK hA hli hC hM;go_simp;exact hF
   · have hM:=hJ0.ahead hli (fun hq=>hq.1 5 (by decide))
     obtain ⟨hJ,hC⟩:=hJ0.1 hM
     have gg22:=sj hA 22 (hJ.at 4 rfl (ha 4 (by decide)))
     rw [if_pos (by rfl)]
     have hmx:=HV1.out
     have hF:=hK _ w' (StoJ.step 5 (by decide) hM ⟨hJ.stay 5 5 23 rfl rfl rfl rfl,hC.step 5 (by simp [ha 4 (by decide)])⟩)
     clear hJ hJ0 ha hK hA hli hC hM;go_simp;exact hF
   · have hM:=hJ0.ahead hli (fun hq=>hq.1 6 (by decide))
     obtain ⟨hJ,hC⟩:=hJ0.1 hM
     have gg23:=sj hA 23 (hJ.at 5 rfl (ha 5 (by decide)))
     rw [if_pos (by rfl)]
     have hmx:=HV0.out
     have hF:=hK _ w' (StoJ.step 6 (by decide) hM ⟨hJ.stay 6 6 24 rfl rfl rfl rfl,hC.step 6 (by simp [ha 5 (by decide)])⟩)
     clear hJ hJ0 ha hK hA hli hC hM;go_simp;exact hF
   · have hM:=hJ0.ahead hli (fun hq=>hq.1 7 (by decide))
     obtain ⟨hJ,hC⟩:=hJ0.1 hM
     have gg0:=so hA 0 _ rfl
     simp only [List.getD_cons_succ,List.getD_cons_zero] at gg0
     rw [if_pos (by rfl)]
     have hF:=hK _ w' (StoJ.step 7 (by decide) hM ⟨hJ.stay 7 7 25 rfl rfl rfl rfl,hC.step 7 (by simp)⟩)
     clear hJ hJ0 ha hK hA hli hC hM;go_simp;exact hF
   · have hM:=hJ0.ahead hli (fun hq=>hq.1 8 (by decide))
     obtain ⟨hJ,hC⟩:=hJ0.1 hM
     have hbd:=costOf_le [(8,1),(11,1)] lz
     simp only [List.map_cons,List.map_nil,List.sum_cons,List.sum_nil] at hbd
     have gg25:=sj hA 25 (hJ.at 7 rfl (ha 7 (by decide)))
     rw [if_pos (by rfl)]
     clear hA
     go_simp
     refine (pick_pos R _ 16 w' hJ.rd (by omega) (by omega) (by omega)).mono ?_
     rintro e9 w9 ⟨x9,rfl,h90,h91,hr9,hu9⟩
     exact hK _ w9 (StoJ.step 8 (by decide) hM ⟨hJ.step 8 8 26 (.int .i64 x9) rfl rfl rfl hu9 (hJ.asked 8 (by simp) hli hr9) ⟨x9,rfl,by omega,by omega⟩,hC.step 8 (by simp [ha 7 (by decide)])⟩)
   · have hM:=hJ0.ahead hli (fun hq=>hq.1 9 (by decide))
     obtain ⟨hJ,hC⟩:=hJ0.1 hM
     have hbd:=costOf_le [(8,1),(11,1)] lz
     simp only [List.map_cons,List.map_nil,List.sum_cons,List.sum_nil] at hbd
     obtain ⟨x26,hx26,hl26,hu26⟩:=hJ.at 8 rfl (ha 8 (by decide))
     have gg26:=sj hA 26 hx26
     rw [if_pos (by rfl)]
     have hRw:=hJ.rd.lt
     have hlo:=wd_lit (w:=w') (R:=R) (n:=5) (T:=3) (lo:=0) (hi:=15) (cs:=[7,11,14,15,x26]) hRw rfl (by intro z hz;simp only [List.mem_cons,List.not_mem_nil,or_false] at hz;omega)
     have hF:=hK (.slice (some ⟨w'.heap.size,0,none⟩) 5 5) (w'.alloc (.cells #[.int .i64 (7),.int .i64 (11),.int .i64 (14),.int .i64 (15),.int .i64 (x26)] 3)) (StoJ.step 9 (by decide) hM ⟨hJ.step 9 9 27 (.slice (some ⟨w'.heap.size,0,none⟩) 5 5) rfl rfl rfl ((Upd.refl _ _).alloc _) (hJ.same 9 (hJ.rd.alloc _)) hlo,hC.step 9 (by simp [ha 8 (by decide)])⟩)
     clear hJ hJ0 ha hK hA hli hbd hC hM;go_simp;exact hF
   · have hM:=hJ0.ahead hli (fun hq=>hq.1 10 (by decide))
     obtain ⟨hJ,hC⟩:=hJ0.1 hM
     have gg0:=so hA 0 _ rfl
     simp only [List.getD_cons_succ,List.getD_cons_zero] at gg0
     rw [if_pos (by rfl)]
     have hF:=hK _ w' (StoJ.step 10 (by decide) hM ⟨hJ.stay 10 10 28 rfl rfl rfl rfl,hC.step 10 (by simp)⟩)
     clear hJ hJ0 ha hK hA hli hC hM;go_simp;exact hF
   · have hM:=hJ0.ahead hli (fun hq=>hq.1 11 (by decide))
     obtain ⟨hJ,hC⟩:=hJ0.1 hM
     have hbd:=costOf_le [(8,1),(11,1)] lz
     simp only [List.map_cons,List.map_nil,List.sum_cons,List.sum_nil] at hbd
     have gg28:=sj hA 28 (hJ.at 10 rfl (ha 10 (by decide)))
     rw [if_pos (by rfl)]
     clear hA
     go_simp
     refine (pick_pos R _ 5 w' hJ.rd (by omega) (by omega) (by omega)).mono ?_
     rintro e9 w9 ⟨x9,rfl,h90,h91,hr9,hu9⟩
     exact hK _ w9 (StoJ.step 11 (by decide) hM ⟨hJ.step 11 11 29 (.int .i64 x9) rfl rfl rfl hu9 (hJ.asked 11 (by simp) hli hr9) ⟨x9,rfl,by omega,by omega⟩,hC.step 11 (by simp [ha 10 (by decide)])⟩)
   · have hM:=hJ0.ahead hli (fun hq=>hq.1 12 (by decide))
     obtain ⟨hJ,hC⟩:=hJ0.1 hM
     have hbd:=costOf_le [(8,1),(11,1)] lz
     simp only [List.map_cons,List.map_nil,List.sum_cons,List.sum_nil] at hbd
     obtain ⟨q27,hx27,hg27,hc27⟩:=hJ.at 9 rfl (ha 9 (by decide))
     have gg27:=sj hA 27 hx27
     obtain ⟨x29,hx29,hl29,hu29⟩:=hJ.at 11 rfl (ha 11 (by decide))
     have gg29:=sj hA 29 hx29
     rw [if_pos (by rfl)]
     obtain ⟨y,hy,hy0,hy1⟩:=hc27 x29.toNat (by omega)
     have hx2:x29 < 5:=by omega
     have hF:=hK (.pointer (some ⟨q27,x29.toNat,none⟩)) w' (StoJ.step 12 (by decide) hM ⟨hJ.stay 12 12 30 rfl rfl rfl ⟨_,_,rfl,hg27,y,hy,hy0,hy1⟩,hC.step 12 (by simp [ha 9 (by decide),ha 11 (by decide)])⟩)
     clear hJ hJ0 ha hK hA hli hbd hC hM;go_simp;exact hF
   · have hM:=hJ0.ahead hli (fun hq=>hq.1 13 (by decide))
     obtain ⟨hJ,hC⟩:=hJ0.1 hM
     have hbd:=costOf_le [(8,1),(11,1)] lz
     simp only [List.map_cons,List.map_nil,List.sum_cons,List.sum_nil] at hbd
     obtain ⟨q30,i30,hx30,hg30,y30,hy30,hl30,hu30⟩:=hJ.at 12 rfl (ha 12 (by decide))
     have gg30:=sj hA 30 hx30
     rw [if_pos (by rfl)]
     have hF:=hK (.int .i64 y30) w' (StoJ.step 13 (by decide) hM ⟨hJ.stay 13 13 31 rfl rfl rfl ⟨_,rfl,hl30,hu30⟩,hC.step 13 (by simp [ha 12 (by decide)])⟩)
     clear hJ hJ0 ha hK hA hli hbd hC hM;go_simp;exact hF
   · have hM:=hJ0.ahead hli (fun hq=>hq.1 14 (by decide))
     obtain ⟨hJ,hC⟩:=hJ0.1 hM
     have hbd:=costOf_le [(8,1),(11,1)] lz
     simp only [List.map_cons,List.map_nil,List.sum_cons,List.sum_nil] at hbd
     have gg20:=sj hA 20 (hJ.at 2 rfl (ha 2 (by decide)))
     have gg24:=sj hA 24 (hJ.at 6 rfl (ha 6 (by decide)))
     obtain ⟨x31,hx31,hl31,hu31⟩:=hJ.at 13 rfl (ha 13 (by decide))
     have gg31:=sj hA 31 hx31
     rw [if_pos (by rfl)]
     have hF:=hK (.agg #[.int .i64 s0,.int .i64 v0,.int .i64 x31]) w' (StoJ.step 14 (by decide) hM ⟨hJ.stay 14 14 32 rfl rfl rfl ⟨x31,rfl,hl31,hu31⟩,hC.step 14 (by simp [ha 2 (by decide),ha 6 (by decide),ha 13 (by decide)])⟩)
     clear hJ hJ0 ha hK hA hli hbd hC hM;go_simp;exact hF
   · have hM:=hJ0.ahead hli (fun hq=>hq.1 15 (by decide))
     obtain ⟨hJ,hC⟩:=hJ0.1 hM
     have hbd:=costOf_le [(8,1),(11,1)] lz
     simp only [List.map_cons,List.map_nil,List.sum_cons,List.sum_nil] at hbd
     rw [if_pos (by rfl)]
     have hF:=hK (.pointer (some ⟨w'.heap.size,0,none⟩)) (w'.alloc (.cells #[.int .i64 0,.int .i64 0,.int .i64 0] 29)) (StoJ.step 15 (by decide) hM ⟨hJ.step 15 15 8 (.pointer (some ⟨w'.heap.size,0,none⟩)) rfl rfl rfl ((Upd.refl _ _).alloc _) (hJ.same 15 (hJ.rd.alloc _)) ⟨_,rfl,hJ.upd.size,hJ.rd.lt,trAt_new w' _ _ _ _⟩,hC.step 15 (by simp)⟩)
     clear hJ hJ0 ha hK hA hli hbd hC hM
     go_simp
     exact hF
   · obtain ⟨hJ,hC⟩:=hJ0.1 hli
     have hbd:=costOf_le [(8,1),(11,1)] lz
     simp only [List.map_cons,List.map_nil,List.sum_cons,List.sum_nil] at hbd
     obtain ⟨Z8,hx8,hZ8,hR8,hb8⟩:=hJ.at 15 rfl (ha 15 (by decide))
     have gg8:=sj hA 8 hx8
     obtain ⟨x32,hx32,hl32,hu32⟩:=hJ.at 14 rfl (ha 14 (by decide))
     have gg32:=sj hA 32 hx32
     rw [if_pos (by rfl)]
     have l15:lz 15=true:=ha 15 (by decide)
     have l14:lz 14=true:=ha 14 (by decide)
     have l2:lz 2=true:=hC (14,[2,6,13]) (by simp) l14 2 (by simp)
     have l1:lz 1=true:=hC (2,[1]) (by simp) l2 1 (by simp)
     have l0:lz 0=true:=hC (1,[0]) (by simp) l1 0 (by simp)
     have l6:lz 6=true:=hC (14,[2,6,13]) (by simp) l14 6 (by simp)
     have l5:lz 5=true:=hC (6,[5]) (by simp) l6 5 (by simp)
     have l4:lz 4=true:=hC (5,[4]) (by simp) l5 4 (by simp)
     have l3:lz 3=true:=hC (4,[3]) (by simp) l4 3 (by simp)
     have l13:lz 13=true:=hC (14,[2,6,13]) (by simp) l14 13 (by simp)
     have l12:lz 12=true:=hC (13,[12]) (by simp) l13 12 (by simp)
     have l9:lz 9=true:=hC (12,[9,11]) (by simp) l12 9 (by simp)
     have l8:lz 8=true:=hC (9,[8]) (by simp) l9 8 (by simp)
     have l7:lz 7=true:=hC (8,[7]) (by simp) l8 7 (by simp)
     have l11:lz 11=true:=hC (12,[9,11]) (by simp) l12 11 (by simp)
     have l10:lz 10=true:=hC (11,[10]) (by simp) l11 10 (by simp)
     have hall:∀ i,i < 17→(i == 16 || lz i)=true:=fun i hi =>by
      rcases (by omega:i=0∨i=1∨i=2∨i=3∨i=4∨i=5∨i=6∨i=7∨i=8∨i=9∨i=10∨i=11∨i=12∨i=13∨i=14∨i=15∨i=16) with rfl | rfl | rfl | rfl | rfl | rfl | rfl | rfl | rfl | rfl | rfl | rfl | rfl | rfl | rfl | rfl | rfl <;> simp [*]
     have hbf:=hb8.set3b (.int .i64 s0) (.int .i64 v0) (.int .i64 x32)
     have hupd:=set3b_upd (v1:=.int .i64 s0) (v2:=.int .i64 v0) (v3:=.int .i64 x32) hJ.upd hZ8
     have hrd:=set3b_rd (v1:=.int .i64 s0) (v2:=.int .i64 v0) (v3:=.int .i64 x32) (hJ.rd.mono (show _≤P5+2 by omega)) hR8
     obtain ⟨z0,z1,z2,f0,f1,f2⟩:=hb8
     have hF:=hK undef _ (StoJ.at ⟨fun i hi=>hall i (by omega),_,x32,by simpa using hx8,hZ8,hbf,⟨hl32,hu32⟩,hupd,hrd⟩)
     clear hJ hJ0 ha hK hA hli hbd hC hall hupd hrd hbf
     unfold set3b at hF;go_simp;exact hF
 intro lz fz w8 hall hJ
 obtain ⟨hq0,Z8,x8,hx8,hZ8,hb8,hxb,hu8,hr8⟩:=hJ.2 (hall 16 (by decide))
 have hu28:=HU5.out.trans hu8
 have hZ8R:R < Z8:=by omega
 have hZ82:w2.heap.size≤Z8:=by have:=HU5.out.size;omega
 rw [hP5] at hr8
 have hr8':Rd w8 R (P2+3):=hr8
 clear hJ hall hq0 hu8 hr8
 simp only [mixF,List.contains_cons,List.contains_nil]
 go_simp
 clear hx8 HBK HS1 HS0 HV1 HV0 hsz5 hZ7l HU5 HBX HBK0 HHD
 have HFIN:=Lib.hid (fun (F:World) (s v g:Int) (hs : -1≤s∧s≤1000003) (hv : -1≤v∧v≤1001) (hg : -1≤g∧g≤16) (hu:Upd R w2 F) (hr:Rd F R (P2+7))=>(⟨s,v,g,rfl,hs,hv,hg,by rw [HP2.out] at hr;exact set3b_rd hr (by omega),set3b_upd (HU0.out.trans hu) (by have:=HGE.out;omega)⟩:DrawCt w R P 7 (.returned (.agg #[.int .i64 s,.int .i64 v,.int .i64 g])) (set3b F (G+1) (.int .i64 s) (.int .i64 v) (.int .i64 g))))
 go_wp2_with fail
 refine (odd_any R _ 9 _ hr8' (by omega) (by omega) (by omega)).mono ?_;rintro e w9 ⟨x3,rfl,hr9,hu9⟩
 have hb9:=hb8.upd hu9 (by omega)
 have hu29:=hu28.trans hu9
 clear hb8 hu28 hr8' hu9
 cases x3 with
 | false =>
  go_wp2_with fail
  refine (odd_any R _ n _ hr9 (by omega) (by omega) hn0).mono ?_;rintro e wA ⟨xA,rfl,hrA,huA⟩
  have hbA:=hb9.upd huA (by omega)
  have hu2A:=hu29.trans huA
  clear hb9 hu29 hr9 huA
  cases xA with
  | false =>
   have hE:=HEX.out wA hu2A
   have HF:=Lib.hid (hE.set3b (.int .i64 s0) (.int .i64 v0) (.int .i64 x8))
   have HRET:=Lib.hid (HFIN.out wA s0 v0 x8 (by omega) (by omega) (by omega) hu2A (hrA.mono (by omega)))
   obtain ⟨e0,e1,e2,f0,f1,f2⟩:=hE
   obtain ⟨c0,c1,c2,-⟩:=hbA
   unfold set3b at HF HRET
   clear hu2A hrA HFIN HEX
   go_wp2_with fail
   exact bodyPost_ret (results_crt Tryz.results68 _ (by rfl) HF.out) rfl HRET.out
  | true =>
   go_wp2_with fail
   refine (pick_pos R _ 3 _ hrA (by omega) (by omega) (by omega)).mono ?_;rintro e wB ⟨xB,rfl,hB0,hB1,hrB,huB⟩
   have hbB:=hbA.upd huB (by omega)
   have hu2B:=hu2A.trans huB
   clear hbA hu2A hrA huB
   rcases (by omega:xB=0∨xB=1∨xB=2) with rfl | rfl | rfl
   · have HP:=Lib.hid (pick_pos R _ 2 (wB.alloc (.cells #[.int .i64 (-1),.int .i64 1000003] 3)) (hrB.alloc _) (by omega) (by omega) (by omega))
     have ha0:(wB.alloc (.cells #[.int .i64 (-1),.int .i64 1000003] 3)).cell? ⟨wB.heap.size,0,none⟩=some (.int .i64 (-1)):=by simp [go_sem]
     have ha1:(wB.alloc (.cells #[.int .i64 (-1),.int .i64 1000003] 3)).cell? ⟨wB.heap.size,1,none⟩=some (.int .i64 1000003):=by simp [go_sem]
     have hRB:=hrB.lt
     have hbC0:=hbB.upd ((Upd.refl R wB).alloc (.cells #[.int .i64 (-1),.int .i64 1000003] 3)) (by omega)
     have huC0:=hu2B.alloc (.cells #[.int .i64 (-1),.int .i64 1000003] 3)
     clear hbB hu2B hrB
     go_wp2_with fail
     refine HP.out.mono ?_;rintro e wC ⟨xi,rfl,hi0,hi1,hrC,huC⟩
     obtain ⟨j,rfl⟩:∃ j:Nat,xi=j:=⟨xi.toNat,by omega⟩
     obtain ⟨z,hz,hzb⟩:∃ z:Int,wC.cell? ⟨wB.heap.size,j,none⟩=some (.int .i64 z)∧-1≤z∧z≤1000003:=by
      rcases (by omega:j=0∨j=1) with rfl | rfl
      · exact ⟨_,huC.cell ha0 (by omega),by omega,by omega⟩
      · exact ⟨_,huC.cell ha1 (by omega),by omega,by omega⟩
     have hbC:=hbC0.upd huC (by omega)
     have hu2C:=huC0.trans huC
     clear ha0 ha1 hRB hbC0 huC0 huC HP
     obtain ⟨B8,hB8⟩:∃ B8,B8=wB.heap.size:=⟨_,rfl⟩
     rw [← hB8] at hz ⊢
     clear hB8
     have hbD:=hbC.set0 (.int .i64 z)
     have hu2D:=hu2C.setNewT (o:=0) (v:=.int .i64 z) hZ82
     have hrD:=hrC.setT (o:=0) (v:=.int .i64 z) hZ8R
     obtain ⟨c0,c1,c2,f0,f1,f2⟩:=hbC
     go_upto_region 12 with (fail)
     clear c0 c1 c2 f0 f1 f2 hz
     generalize hww:World.setCell wC _ _=wD at hbD hu2D hrD ⊢
     clear hww hrC hu2C
     have hE:=HEX.out wD hu2D
     have HF:=Lib.hid (hE.set3b (.int .i64 z) (.int .i64 v0) (.int .i64 x8))
     have HRET:=Lib.hid (HFIN.out wD z v0 x8 (by omega) (by omega) (by omega) hu2D (hrD.mono (by omega)))
     obtain ⟨e0,e1,e2,f0,f1,f2⟩:=hE
     obtain ⟨c0,c1,c2,-⟩:=hbD
     unfold set3b at HF HRET
     clear hu2D hrD HFIN HEX
     go_wp2_with fail
     exact bodyPost_ret (results_crt Tryz.results68 _ (by rfl) HF.out) rfl HRET.out
   · have HP:=Lib.hid (pick_pos R _ 2 (wB.alloc (.cells #[.int .i64 (-1),.int .i64 1001] 3)) (hrB.alloc _) (by omega) (by omega) (by omega))
     have ha0:(wB.alloc (.cells #[.int .i64 (-1),.int .i64 1001] 3)).cell? ⟨wB.heap.size,0,none⟩=some (.int .i64 (-1)):=by simp [go_sem]
     have ha1:(wB.alloc (.cells #[.int .i64 (-1),.int .i64 1001] 3)).cell? ⟨wB.heap.size,1,none⟩=some (.int .i64 1001):=by simp [go_sem]
     have hRB:=hrB.lt
     have hbC0:=hbB.upd ((Upd.refl R wB).alloc (.cells #[.int .i64 (-1),.int .i64 1001] 3)) (by omega)
     have huC0:=hu2B.alloc (.cells #[.int .i64 (-1),.int .i64 1001] 3)
     clear hbB hu2B hrB
     go_wp2_with fail
     refine HP.out.mono ?_;rintro e wC ⟨xi,rfl,hi0,hi1,hrC,huC⟩
     obtain ⟨j,rfl⟩:∃ j:Nat,xi=j:=⟨xi.toNat,by omega⟩
     obtain ⟨z,hz,hzb⟩:∃ z:Int,wC.cell? ⟨wB.heap.size,j,none⟩=some (.int .i64 z)∧-1≤z∧z≤1001:=by
      rcases (by omega:j=0∨j=1) with rfl | rfl
      · exact ⟨_,huC.cell ha0 (by omega),by omega,by omega⟩
      · exact ⟨_,huC.cell ha1 (by omega),by omega,by omega⟩
     have hbC:=hbC0.upd huC (by omega)
     have hu2C:=huC0.trans huC
     clear ha0 ha1 hRB hbC0 huC0 huC HP
     obtain ⟨B8,hB8⟩:∃ B8,B8=wB.heap.size:=⟨_,rfl⟩
     rw [← hB8] at hz ⊢
     clear hB8
     have hbD:=hbC.set1 (.int .i64 z)
     have hu2D:=hu2C.setNewT (o:=1) (v:=.int .i64 z) hZ82
     have hrD:=hrC.setT (o:=1) (v:=.int .i64 z) hZ8R
     obtain ⟨c0,c1,c2,f0,f1,f2⟩:=hbC
     go_upto_region 12 with (fail)
     clear c0 c1 c2 f0 f1 f2 hz
     generalize hww:World.setCell wC _ _=wD at hbD hu2D hrD ⊢
     clear hww hrC hu2C
     have hE:=HEX.out wD hu2D
     have HF:=Lib.hid (hE.set3b (.int .i64 s0) (.int .i64 z) (.int .i64 x8))
     have HRET:=Lib.hid (HFIN.out wD s0 z x8 (by omega) (by omega) (by omega) hu2D (hrD.mono (by omega)))
     obtain ⟨e0,e1,e2,f0,f1,f2⟩:=hE
     obtain ⟨c0,c1,c2,-⟩:=hbD
     unfold set3b at HF HRET
     clear hu2D hrD HFIN HEX
     go_wp2_with fail
     exact bodyPost_ret (results_crt Tryz.results68 _ (by rfl) HF.out) rfl HRET.out
   · have HP:=Lib.hid (pick_pos R _ 2 (wB.alloc (.cells #[.int .i64 (-1),.int .i64 16] 3)) (hrB.alloc _) (by omega) (by omega) (by omega))
     have ha0:(wB.alloc (.cells #[.int .i64 (-1),.int .i64 16] 3)).cell? ⟨wB.heap.size,0,none⟩=some (.int .i64 (-1)):=by simp [go_sem]
     have ha1:(wB.alloc (.cells #[.int .i64 (-1),.int .i64 16] 3)).cell? ⟨wB.heap.size,1,none⟩=some (.int .i64 16):=by simp [go_sem]
     have hRB:=hrB.lt
     have hbC0:=hbB.upd ((Upd.refl R wB).alloc (.cells #[.int .i64 (-1),.int .i64 16] 3)) (by omega)
     have huC0:=hu2B.alloc (.cells #[.int .i64 (-1),.int .i64 16] 3)
     clear hbB hu2B hrB
     go_wp2_with fail
     refine HP.out.mono ?_;rintro e wC ⟨xi,rfl,hi0,hi1,hrC,huC⟩
     obtain ⟨j,rfl⟩:∃ j:Nat,xi=j:=⟨xi.toNat,by omega⟩
     obtain ⟨z,hz,hzb⟩:∃ z:Int,wC.cell? ⟨wB.heap.size,j,none⟩=some (.int .i64 z)∧-1≤z∧z≤16:=by
      rcases (by omega:j=0∨j=1) with rfl | rfl
      · exact ⟨_,huC.cell ha0 (by omega),by omega,by omega⟩
      · exact ⟨_,huC.cell ha1 (by omega),by omega,by omega⟩
     have hbC:=hbC0.upd huC (by omega)
     have hu2C:=huC0.trans huC
     clear ha0 ha1 hRB hbC0 huC0 huC HP
     obtain ⟨B8,hB8⟩:∃ B8,B8=wB.heap.size:=⟨_,rfl⟩
     rw [← hB8] at hz ⊢
     clear hB8
     have hbD:=hbC.set2 (.int .i64 z)
     have hu2D:=hu2C.setNewT (o:=2) (v:=.int .i64 z) hZ82
     have hrD:=hrC.setT (o:=2) (v:=.int .i64 z) hZ8R
     obtain ⟨c0,c1,c2,f0,f1,f2⟩:=hbC
     go_upto_region 12 with (fail)
     clear c0 c1 c2 f0 f1 f2 hz
     generalize hww:World.setCell wC _ _=wD at hbD hu2D hrD ⊢
     clear hww hrC hu2C
     have hE:=HEX.out wD hu2D
     have HF:=Lib.hid (hE.set3b (.int .i64 s0) (.int .i64 v0) (.int .i64 z))
     have HRET:=Lib.hid (HFIN.out wD s0 v0 z (by omega) (by omega) (by omega) hu2D (hrD.mono (by omega)))
     obtain ⟨e0,e1,e2,f0,f1,f2⟩:=hE
     obtain ⟨c0,c1,c2,-⟩:=hbD
     unfold set3b at HF HRET
     clear hu2D hrD HFIN HEX
     go_wp2_with fail
     exact bodyPost_ret (results_crt Tryz.results68 _ (by rfl) HF.out) rfl HRET.out
 | true =>
  have hvw:IntKind.i64.wrap (v0+1)=v0+1:=IntWalk.i64_in _ (by omega)
  have hb10:=hb9.set1 (.int .i64 (v0+1))
  have hu210:=hu29.setNewT (o:=1) (v:=.int .i64 (v0+1)) hZ82
  have hr10:=hr9.setT (o:=1) (v:=.int .i64 (v0+1)) hZ8R
  obtain ⟨c0,c1,c2,f0,f1,f2⟩:=hb9
  go_upto_region 5 with (fail)
  clear c0 c1 c2 f0 f1 f2 hvw
  obtain ⟨vx,hvx⟩:∃ x,x=v0+1:=⟨_,rfl⟩
  have hvxb:0≤vx∧vx≤1001:=by omega
  rw [← hvx] at hb10 hu210 hr10 ⊢
  clear hvx
  generalize hww:World.setCell w9 _ _=w10 at hb10 hu210 hr10 ⊢
  clear hww hr9 hu29
  go_wp2_with fail
  refine (odd_any R _ n _ hr10 (by omega) (by omega) hn0).mono ?_;rintro e wA ⟨xA,rfl,hrA,huA⟩
  have hbA:=hb10.upd huA (by omega)
  have hu2A:=hu210.trans huA
  clear hb10 hu210 hr10 huA
  cases xA with
  | false =>
   have hE:=HEX.out wA hu2A
   have HF:=Lib.hid (hE.set3b (.int .i64 s0) (.int .i64 vx) (.int .i64 x8))
   have HRET:=Lib.hid (HFIN.out wA s0 vx x8 (by omega) (by omega) (by omega) hu2A (hrA.mono (by omega)))
   obtain ⟨e0,e1,e2,f0,f1,f2⟩:=hE
   obtain ⟨c0,c1,c2,-⟩:=hbA
   unfold set3b at HF HRET
   clear hu2A hrA HFIN HEX
   go_wp2_with fail
   exact bodyPost_ret (results_crt Tryz.results68 _ (by rfl) HF.out) rfl HRET.out
  | true =>
   go_wp2_with fail
   refine (pick_pos R _ 3 _ hrA (by omega) (by omega) (by omega)).mono ?_;rintro e wB ⟨xB,rfl,hB0,hB1,hrB,huB⟩
   have hbB:=hbA.upd huB (by omega)
   have hu2B:=hu2A.trans huB
   clear hbA hu2A hrA huB
   rcases (by omega:xB=0∨xB=1∨xB=2) with rfl | rfl | rfl
   · have HP:=Lib.hid (pick_pos R _ 2 (wB.alloc (.cells #[.int .i64 (-1),.int .i64 1000003] 3)) (hrB.alloc _) (by omega) (by omega) (by omega))
     have ha0:(wB.alloc (.cells #[.int .i64 (-1),.int .i64 1000003] 3)).cell? ⟨wB.heap.size,0,none⟩=some (.int .i64 (-1)):=by simp [go_sem]
     have ha1:(wB.alloc (.cells #[.int .i64 (-1),.int .i64 1000003] 3)).cell? ⟨wB.heap.size,1,none⟩=some (.int .i64 1000003):=by simp [go_sem]
     have hRB:=hrB.lt
     have hbC0:=hbB.upd ((Upd.refl R wB).alloc (.cells #[.int .i64 (-1),.int .i64 1000003] 3)) (by omega)
     have huC0:=hu2B.alloc (.cells #[.int .i64 (-1),.int .i64 1000003] 3)
     clear hbB hu2B hrB
     go_wp2_with fail
     refine HP.out.mono ?_;rintro e wC ⟨xi,rfl,hi0,hi1,hrC,huC⟩
     obtain ⟨j,rfl⟩:∃ j:Nat,xi=j:=⟨xi.toNat,by omega⟩
     obtain ⟨z,hz,hzb⟩:∃ z:Int,wC.cell? ⟨wB.heap.size,j,none⟩=some (.int .i64 z)∧-1≤z∧z≤1000003:=by
      rcases (by omega:j=0∨j=1) with rfl | rfl
      · exact ⟨_,huC.cell ha0 (by omega),by omega,by omega⟩
      · exact ⟨_,huC.cell ha1 (by omega),by omega,by omega⟩
     have hbC:=hbC0.upd huC (by omega)
     have hu2C:=huC0.trans huC
     clear ha0 ha1 hRB hbC0 huC0 huC HP
     obtain ⟨B8,hB8⟩:∃ B8,B8=wB.heap.size:=⟨_,rfl⟩
     rw [← hB8] at hz ⊢
     clear hB8
     have hbD:=hbC.set0 (.int .i64 z)
     have hu2D:=hu2C.setNewT (o:=0) (v:=.int .i64 z) hZ82
     have hrD:=hrC.setT (o:=0) (v:=.int .i64 z) hZ8R
     obtain ⟨c0,c1,c2,f0,f1,f2⟩:=hbC
     go_upto_region 12 with (fail)
     clear c0 c1 c2 f0 f1 f2 hz
     generalize hww:World.setCell wC _ _=wD at hbD hu2D hrD ⊢
     clear hww hrC hu2C
     have hE:=HEX.out wD hu2D
     have HF:=Lib.hid (hE.set3b (.int .i64 z) (.int .i64 vx) (.int .i64 x8))
     have HRET:=Lib.hid (HFIN.out wD z vx x8 (by omega) (by omega) (by omega) hu2D (hrD.mono (by omega)))
     obtain ⟨e0,e1,e2,f0,f1,f2⟩:=hE
     obtain ⟨c0,c1,c2,-⟩:=hbD
     unfold set3b at HF HRET
     clear hu2D hrD HFIN HEX
     go_wp2_with fail
     exact bodyPost_ret (results_crt Tryz.results68 _ (by rfl) HF.out) rfl HRET.out
   · have HP:=Lib.hid (pick_pos R _ 2 (wB.alloc (.cells #[.int .i64 (-1),.int .i64 1001] 3)) (hrB.alloc _) (by omega) (by omega) (by omega))
     have ha0:(wB.alloc (.cells #[.int .i64 (-1),.int .i64 1001] 3)).cell? ⟨wB.heap.size,0,none⟩=some (.int .i64 (-1)):=by simp [go_sem]
     have ha1:(wB.alloc (.cells #[.int .i64 (-1),.int .i64 1001] 3)).cell? ⟨wB.heap.size,1,none⟩=some (.int .i64 1001):=by simp [go_sem]
     have hRB:=hrB.lt
     have hbC0:=hbB.upd ((Upd.refl R wB).alloc (.cells #[.int .i64 (-1),.int .i64 1001] 3)) (by omega)
     have huC0:=hu2B.alloc (.cells #[.int .i64 (-1),.int .i64 1001] 3)
     clear hbB hu2B hrB
     go_wp2_with fail
     refine HP.out.mono ?_;rintro e wC ⟨xi,rfl,hi0,hi1,hrC,huC⟩
     obtain ⟨j,rfl⟩:∃ j:Nat,xi=j:=⟨xi.toNat,by omega⟩
     obtain ⟨z,hz,hzb⟩:∃ z:Int,wC.cell? ⟨wB.heap.size,j,none⟩=some (.int .i64 z)∧-1≤z∧z≤1001:=by
      rcases (by omega:j=0∨j=1) with rfl | rfl
      · exact ⟨_,huC.cell ha0 (by omega),by omega,by omega⟩
      · exact ⟨_,huC.cell ha1 (by omega),by omega,by omega⟩
     have hbC:=hbC0.upd huC (by omega)
     have hu2C:=huC0.trans huC
     clear ha0 ha1 hRB hbC0 huC0 huC HP
     obtain ⟨B8,hB8⟩:∃ B8,B8=wB.heap.size:=⟨_,rfl⟩
     rw [← hB8] at hz ⊢
     clear hB8
     have hbD:=hbC.set1 (.int .i64 z)
     have hu2D:=hu2C.setNewT (o:=1) (v:=.int .i64 z) hZ82
     have hrD:=hrC.setT (o:=1) (v:=.int .i64 z) hZ8R
     obtain ⟨c0,c1,c2,f0,f1,f2⟩:=hbC
     go_upto_region 12 with (fail)
     clear c0 c1 c2 f0 f1 f2 hz
     generalize hww:World.setCell wC _ _=wD at hbD hu2D hrD ⊢
     clear hww hrC hu2C
     have hE:=HEX.out wD hu2D
     have HF:=Lib.hid (hE.set3b (.int .i64 s0) (.int .i64 z) (.int .i64 x8))
     have HRET:=Lib.hid (HFIN.out wD s0 z x8 (by omega) (by omega) (by omega) hu2D (hrD.mono (by omega)))
     obtain ⟨e0,e1,e2,f0,f1,f2⟩:=hE
     obtain ⟨c0,c1,c2,-⟩:=hbD
     unfold set3b at HF HRET
     clear hu2D hrD HFIN HEX
     go_wp2_with fail
     exact bodyPost_ret (results_crt Tryz.results68 _ (by rfl) HF.out) rfl HRET.out
   · have HP:=Lib.hid (pick_pos R _ 2 (wB.alloc (.cells #[.int .i64 (-1),.int .i64 16] 3)) (hrB.alloc _) (by omega) (by omega) (by omega))
     have ha0:(wB.alloc (.cells #[.int .i64 (-1),.int .i64 16] 3)).cell? ⟨wB.heap.size,0,none⟩=some (.int .i64 (-1)):=by simp [go_sem]
     have ha1:(wB.alloc (.cells #[.int .i64 (-1),.int .i64 16] 3)).cell? ⟨wB.heap.size,1,none⟩=some (.int .i64 16):=by simp [go_sem]
     have hRB:=hrB.lt
     have hbC0:=hbB.upd ((Upd.refl R wB).alloc (.cells #[.int .i64 (-1),.int .i64 16] 3)) (by omega)
     have huC0:=hu2B.alloc (.cells #[.int .i64 (-1),.int .i64 16] 3)
     clear hbB hu2B hrB
     go_wp2_with fail
     refine HP.out.mono ?_;rintro e wC ⟨xi,rfl,hi0,hi1,hrC,huC⟩
     obtain ⟨j,rfl⟩:∃ j:Nat,xi=j:=⟨xi.toNat,by omega⟩
     obtain ⟨z,hz,hzb⟩:∃ z:Int,wC.cell? ⟨wB.heap.size,j,none⟩=some (.int .i64 z)∧-1≤z∧z≤16:=by
      rcases (by omega:j=0∨j=1) with rfl | rfl
      · exact ⟨_,huC.cell ha0 (by omega),by omega,by omega⟩
      · exact ⟨_,huC.cell ha1 (by omega),by omega,by omega⟩
     have hbC:=hbC0.upd huC (by omega)
     have hu2C:=huC0.trans huC
     clear ha0 ha1 hRB hbC0 huC0 huC HP
     obtain ⟨B8,hB8⟩:∃ B8,B8=wB.heap.size:=⟨_,rfl⟩
     rw [← hB8] at hz ⊢
     clear hB8
     have hbD:=hbC.set2 (.int .i64 z)
     have hu2D:=hu2C.setNewT (o:=2) (v:=.int .i64 z) hZ82
     have hrD:=hrC.setT (o:=2) (v:=.int .i64 z) hZ8R
     obtain ⟨c0,c1,c2,f0,f1,f2⟩:=hbC
     go_upto_region 12 with (fail)
     clear c0 c1 c2 f0 f1 f2 hz
     generalize hww:World.setCell wC _ _=wD at hbD hu2D hrD ⊢
     clear hww hrC hu2C
     have hE:=HEX.out wD hu2D
     have HF:=Lib.hid (hE.set3b (.int .i64 s0) (.int .i64 vx) (.int .i64 z))
     have HRET:=Lib.hid (HFIN.out wD s0 vx z (by omega) (by omega) (by omega) hu2D (hrD.mono (by omega)))
     obtain ⟨e0,e1,e2,f0,f1,f2⟩:=hE
     obtain ⟨c0,c1,c2,-⟩:=hbD
     unfold set3b at HF HRET
     clear hu2D hrD HFIN HEX
     go_wp2_with fail
     exact bodyPost_ret (results_crt Tryz.results68 _ (by rfl) HF.out) rfl HRET.out
end Go.Proofs.YtpnjgmgmakmgeaaGreat
namespace Go.Proofs.YtpnjgmgmakmgeaaGreat
open Go.RowKit
set_option linter.unusedVariables false
set_option linter.unusedSimpArgs false
def cbL (L:List Blk) (c:Crt):Int:=if findL L c.sum = -1 then -1 else if (blkAt L (findL L c.sum).toNat).view=c.view then findL L c.sum else -1
def cbN (L:List Blk) (c:Crt):Int:=if cntB c then cbL L c else -1
def cbM (t:Tre) (c:Crt):Int:=if treB t then cbN t.blocks c else -1
theorem cbM_no {t:Tre} {c:Crt} (h:treB t=false):cbM t c = -1:=by simp [cbM,h]
theorem cbM_yes {t:Tre} {c:Crt} (h:treB t=true):cbM t c=cbN t.blocks c:=by simp [cbM,h]
theorem cbN_cnt {L:List Blk} {c:Crt} (h:cntB c=false):cbN L c = -1:=by simp [cbN,h]
theorem cbN_none {L:List Blk} {c:Crt} (h:findL L c.sum = -1):cbN L c = -1:=by simp [cbN,cbL,h]
theorem cbN_view {L:List Blk} {c:Crt} {k:Nat} (h:findL L c.sum=k) (hv:(blkAt L k).view≠c.view):cbN L c = -1:=by
 have:(findL L c.sum).toNat=k:=by omega
 simp [cbN,cbL,this,hv]
theorem cbN_yes {L:List Blk} {c:Crt} {k:Nat} (hc:cntB c=true) (h:findL L c.sum=k) (hv:(blkAt L k).view=c.view):cbN L c=k:=by
 have h1:(findL L c.sum).toNat=k:=by omega
 have h2:¬ (findL L c.sum = -1):=by omega
 unfold cbN cbL
 rw [if_pos hc,if_neg h2,h1,if_pos hv,h]
set_option maxRecDepth 100000 in
set_option maxHeartbeats 8000000 in
theorem numberOfCertified_impl (Z m k2:Nat) (v1 v2 v3:Value) (t:Tre) (s v g:Int) (w:World) (hb:IxAt w Z v1 v2 v3 (.map (some m))) (hm:MapF w m k2 (idxF t.blocks)) (hr:TreRd w v1 v2 v3 t) (hs:(Lit.int .i64 s).wf=true) :
  Calls Tryz.prog 70 #[.pointer (some ⟨Z,0,none⟩),.agg #[.int .i64 s,.int .i64 v,.int .i64 g]] w (IntB (cbN t.blocks ⟨s,v,g⟩) w):=by
 obtain ⟨-,⟨a2,n2,c2,rfl,r2,-,-⟩,-⟩:=hr
 have hl2:t.blocks.length=n2:=r2.1
 have hm2:=r2.2.1
 unfold maxLen at hm2
 have hb0:=(Below.refl w.heap.size w).alloc (Nat.le_refl _) (.cells #[.int .i64 s,.int .i64 v,.int .i64 g] 29)
 have hg0:=trAt_new w 29 (.int .i64 s) (.int .i64 v) (.int .i64 g)
 have hbx:=hb.below hb0
 have hmp:=hm.below hb0
 have hr2:=r2.below hb0
 obtain ⟨w1,hw1⟩:∃ W1,W1=w.alloc (.cells #[.int .i64 s,.int .i64 v,.int .i64 g] 29):=⟨_,rfl⟩
 have HW1:=Lib.hid hw1
 rw [← hw1] at hb0 hg0 hbx hmp hr2
 have HB:=Lib.hid hb0
 have HG:=Lib.hid hg0
 have HBX:=Lib.hid hbx
 have HMP:=Lib.hid hmp
 have HS:=Lib.hid hs
 clear hb hm r2 hs hb0 hg0 hbx hmp hw1
 rcases findL_cases t.blocks s with ⟨hf,-⟩ | ⟨k,hk,hf,-,-⟩
 · have HE:=Lib.hid (cbN_none (L:=t.blocks) (c:=⟨s,v,g⟩) hf)
   go_enter Tryz.func70,Tryz.ntmps70
   go_upto_region 1 with (fail)
   rw [← HW1.out]
   clear HW1
   obtain ⟨d0,d1,d2,-⟩:=HG.out
   go_wp2_with fail
   refine (numberOf_impl Z m _ _ _ _ t.blocks s _ HBX.out HMP.out HS.out).mono ?_;rintro e w1x ⟨rfl,rfl⟩
   rw [hf]
   clear d0 d1 d2 hr2
   go_upto_region 2 with (fail)
   refine wp_region_light (by kernel_rfl) (fun lz fz wz=>Vals [(0,10,(.int .i64 (-1))),(1,11,(.bool true)),(2,12,(.bool true)),(15,25,(.bool true)),(16,26,(.bool true)),(20,30,(.bool true))] lz fz∧Facts w1 [] lz fz wz) 32 rfl [10,11,12,13,14,15,16,17,18,19,20,21,22,23,24,25,26,27,28,29,30] (by kernel_rfl) (by kernel_rfl) (by kernel_rfl) (fun f=>⟨Vals.nothing _ f,Facts.nothing _ _ f⟩) ?_ ?_
   · intro i hi
     rcases (by have:i < 21:=hi;omega:i=0∨i=1∨i=2∨i=3∨i=4∨i=5∨i=6∨i=7∨i=8∨i=9∨i=10∨i=11∨i=12∨i=13∨i=14∨i=15∨i=16∨i=17∨i=18∨i=19∨i=20) with rfl | rfl | rfl | rfl | rfl | rfl | rfl | rfl | rfl | rfl | rfl | rfl | rfl | rfl | rfl | rfl | rfl | rfl | rfl | rfl | rfl
     all_goals (clear hi;intro o ho lz fz w' A ⟨hv,hr⟩ hli ha hA K hK;obtain rfl:=Option.some.inj ho;clear ho)
     · have gg5:=so hA 5 _ rfl
       simp only [List.getD_cons_succ,List.getD_cons_zero] at gg5
       rw [if_pos (by rfl)]
       have hF:=hK _ w' ⟨hv.put 0 0 10 rfl rfl rfl,hr.nil⟩
       clear hv hr ha hK hA hli;go_simp;exact hF
     · have gg10:=sj hA 10 (hv.at 0 rfl (ha 0 (by decide)))
       rw [if_pos (by rfl)]
       have hF:=hK _ w' ⟨hv.put 1 1 11 rfl rfl rfl,hr.nil⟩
       clear hv hr ha hK hA hli;go_simp;exact hF
     · have gg11:=sj hA 11 (hv.at 1 rfl (ha 1 (by decide)))
       rw [if_pos (by rfl)]
       have hF:=hK _ w' ⟨hv.put 2 2 12 rfl rfl rfl,hr.nil⟩
       clear hv hr ha hK hA hli;go_simp;exact hF
     iterate 12
      · have g12:=si hA 12 (hv.at 2 rfl (ha 2 (by decide)))
        have gw:=slot_bool g12
        rw [if_neg (by simp [Region.wanted,yielded,gw])]
        exact hK undef w' ⟨hv.step _ _ _ (by simp),hr.step _ _ _ (Below.refl _ _) (by simp)⟩
     · have gg12:=sj hA 12 (hv.at 2 rfl (ha 2 (by decide)))
       rw [if_pos (by rfl)]
       have hF:=hK _ w' ⟨hv.put 3 15 25 rfl rfl rfl,hr.nil⟩
       clear hv hr ha hK hA hli;go_simp;exact hF
     · have gg25:=sj hA 25 (hv.at 3 rfl (ha 15 (by decide)))
       rw [if_pos (by rfl)]
       have hF:=hK _ w' ⟨hv.put 4 16 26 rfl rfl rfl,hr.nil⟩
       clear hv hr ha hK hA hli;go_simp;exact hF
     iterate 3
      · have g26:=si hA 26 (hv.at 4 rfl (ha 16 (by decide)))
        have gw:=slot_bool g26
        rw [if_neg (by simp [Region.wanted,yielded,gw])]
        exact hK undef w' ⟨hv.step _ _ _ (by simp),hr.step _ _ _ (Below.refl _ _) (by simp)⟩
     · have gg26:=sj hA 26 (hv.at 4 rfl (ha 16 (by decide)))
       rw [if_pos (by rfl)]
       have hF:=hK _ w' ⟨hv.put 5 20 30 rfl rfl rfl,hr.nil⟩
       clear hv hr ha hK hA hli;go_simp;exact hF
   · intro lz fz w2 hall ⟨hv,hq⟩
     have h30:=hv.at 5 rfl (hall 20 (by decide))
     have hbR:=hq.1
     clear hv hq hall
     simp only [mixF,List.contains_cons,List.contains_nil]
     go_simp
     have HBF:=Lib.hid (HB.out.trans (hbR.mono HB.out.size))
     clear hbR
     go_wp2_with fail
     go_ret
     exact ⟨by rw [HE.out];rfl,HBF.out⟩
 · obtain ⟨b,off,rfl,g0,g1,g2,g3,g4,g5⟩:=hr2.at k (by omega)
   obtain ⟨xv,hxv⟩:∃ xv,xv=(t.blocks.getD k noBlk).view:=⟨_,rfl⟩
   rw [← hxv] at g2
   have HXV:Hid ((blkAt t.blocks k).view=xv):=Lib.hid hxv.symm
   have HF:=Lib.hid hf
   have hkn:k < n2:=by omega
   have HKB:=Lib.hid (fun (W:World) (hb:Below w1.heap.size w1 W)=>(⟨HBX.out.below hb,(hb.cell (p:=⟨b,off+k*6+2,none⟩) (World.block_lt_of_cell? w1 ⟨b,off+k*6+2,none⟩ g2)).trans g2,HG.out.below hb⟩:IxAt W Z v1 (.slice (some ⟨b,off,none⟩) n2 c2) v3 (.map (some m))∧W.cell? ⟨b,off+k*6+2,none⟩=some (.int .i64 xv)∧TrAt W w.heap.size (.int .i64 s) (.int .i64 v) (.int .i64 g)))
   clear g0 g1 g2 g3 g4 g5 hxv hf hk hr2
   by_cases hv:xv=v
   · have e0:(xv != v)=false:=by simp [hv]
     obtain ⟨y,hy⟩:∃ y,y=cntB ⟨s,v,g⟩:=⟨_,rfl⟩
     have HY:=Lib.hid hy.symm
     have HXV2:=Lib.hid (HXV.out.trans hv)
     clear hv hy
     go_enter Tryz.func70,Tryz.ntmps70
     go_upto_region 1 with (fail)
     rw [← HW1.out]
     clear HW1
     obtain ⟨d0,d1,d2,-⟩:=HG.out
     go_wp2_with fail
     refine (numberOf_impl Z m _ _ _ _ t.blocks s _ HBX.out HMP.out HS.out).mono ?_;rintro e w1x ⟨rfl,rfl⟩
     rw [HF.out]
     clear d0 d1 d2
     go_upto_region 2 with (fail)
     refine wp_region_light (by kernel_rfl) (fun lz fz wz=>Vals [(0,10,(.int .i64 (k:Int))),(1,11,(.bool false)),(2,12,(.bool false)),(3,13,(.pointer (some ⟨Z,0,none⟩))),(4,14,(.pointer (some ⟨Z,0,none⟩))),(5,15,(.pointer (some ⟨Z,0,none⟩))),(6,16,(.pointer (some ⟨Z,1,none⟩))),(7,17,(.slice (some ⟨b,off,none⟩) n2 c2)),(8,18,(.int .i64 (k:Int))),(9,19,(.pointer (some ⟨b,off+k*6,none⟩))),(10,20,(.pointer (some ⟨b,off+k*6+2,none⟩))),(11,21,(.int .i64 xv)),(12,22,(.pointer (some ⟨w.heap.size,1,none⟩))),(13,23,(.int .i64 v)),(14,24,(.bool false)),(15,25,(.bool false)),(16,26,(.bool false)),(17,27,(.agg #[.int .i64 s,.int .i64 v,.int .i64 g])),(18,28,(.bool y)),(19,29,(.bool (!y))),(20,30,(.bool (!y)))] lz fz∧Facts w1 [] lz fz wz) 32 rfl [10,11,12,13,14,15,16,17,18,19,20,21,22,23,24,25,26,27,28,29,30] (by kernel_rfl) (by kernel_rfl) (by kernel_rfl) (fun f=>⟨Vals.nothing _ f,Facts.nothing _ _ f⟩) ?_ ?_
     · intro i hi
       rcases (by have:i < 21:=hi;omega:i=0∨i=1∨i=2∨i=3∨i=4∨i=5∨i=6∨i=7∨i=8∨i=9∨i=10∨i=11∨i=12∨i=13∨i=14∨i=15∨i=16∨i=17∨i=18∨i=19∨i=20) with rfl | rfl | rfl | rfl | rfl | rfl | rfl | rfl | rfl | rfl | rfl | rfl | rfl | rfl | rfl | rfl | rfl | rfl | rfl | rfl | rfl
       all_goals (clear hi;intro o ho lz fz w' A ⟨hv,hr⟩ hli ha hA K hK;obtain rfl:=Option.some.inj ho;clear ho)
       · have gg5:=so hA 5 _ rfl
         simp only [List.getD_cons_succ,List.getD_cons_zero] at gg5
         rw [if_pos (by rfl)]
         have hF:=hK _ w' ⟨hv.put 0 0 10 rfl rfl rfl,hr.nil⟩
         clear hv hr ha hK hA hli;go_simp;exact hF
       · have gg10:=sj hA 10 (hv.at 0 rfl (ha 0 (by decide)))
         rw [if_pos (by rfl)]
         have hF:=hK _ w' ⟨hv.put 1 1 11 rfl rfl rfl,hr.nil⟩
         clear hv hr ha hK hA hli;go_simp;exact hF
       · have gg11:=sj hA 11 (hv.at 1 rfl (ha 1 (by decide)))
         rw [if_pos (by rfl)]
         have hF:=hK _ w' ⟨hv.put 2 2 12 rfl rfl rfl,hr.nil⟩
         clear hv hr ha hK hA hli;go_simp;exact hF
       · have gg0:=so hA 0 _ rfl
         simp only [List.getD_cons_succ,List.getD_cons_zero] at gg0
         have g12:=si hA 12 (hv.at 2 rfl (ha 2 (by decide)))
         have gg12:=slot_get g12
         rw [if_pos (by simp [Region.wanted,yielded,slot_bool g12])]
         have hF:=hK _ w' ⟨hv.put 3 3 13 rfl rfl rfl,hr.nil⟩
         clear hv hr ha hK hA hli;go_simp;exact hF
       · have gg13:=sj hA 13 (hv.at 3 rfl (ha 3 (by decide)))
         have g12:=si hA 12 (hv.at 2 rfl (ha 2 (by decide)))
         have gg12:=slot_get g12
         rw [if_pos (by simp [Region.wanted,yielded,slot_bool g12])]
         have hF:=hK _ w' ⟨hv.put 4 4 14 rfl rfl rfl,hr.nil⟩
         clear hv hr ha hK hA hli;go_simp;exact hF
       · have gg14:=sj hA 14 (hv.at 4 rfl (ha 4 (by decide)))
         have g12:=si hA 12 (hv.at 2 rfl (ha 2 (by decide)))
         have gg12:=slot_get g12
         rw [if_pos (by simp [Region.wanted,yielded,slot_bool g12])]
         have hF:=hK _ w' ⟨hv.put 5 5 15 rfl rfl rfl,hr.nil⟩
         clear hv hr ha hK hA hli;go_simp;exact hF
       · have gg15:=sj hA 15 (hv.at 5 rfl (ha 5 (by decide)))
         have g12:=si hA 12 (hv.at 2 rfl (ha 2 (by decide)))
         have gg12:=slot_get g12
         rw [if_pos (by simp [Region.wanted,yielded,slot_bool g12])]
         have hF:=hK _ w' ⟨hv.put 6 6 16 rfl rfl rfl,hr.nil⟩
         clear hv hr ha hK hA hli;go_simp;exact hF
       · have gg16:=sj hA 16 (hv.at 6 rfl (ha 6 (by decide)))
         have g12:=si hA 12 (hv.at 2 rfl (ha 2 (by decide)))
         have gg12:=slot_get g12
         rw [if_pos (by simp [Region.wanted,yielded,slot_bool g12])]
         obtain ⟨x0,x1,x2,x3,-⟩:=(HKB.out w' hr.1).1
         have hF:=hK _ w' ⟨hv.put 7 7 17 rfl rfl rfl,hr.nil⟩
         clear hv hr ha hK hA hli;go_simp;exact hF
       · have gg5:=so hA 5 _ rfl
         simp only [List.getD_cons_succ,List.getD_cons_zero] at gg5
         have g12:=si hA 12 (hv.at 2 rfl (ha 2 (by decide)))
         have gg12:=slot_get g12
         rw [if_pos (by simp [Region.wanted,yielded,slot_bool g12])]
         have hF:=hK _ w' ⟨hv.put 8 8 18 rfl rfl rfl,hr.nil⟩
         clear hv hr ha hK hA hli;go_simp;exact hF
       · have gg17:=sj hA 17 (hv.at 7 rfl (ha 7 (by decide)))
         have gg18:=sj hA 18 (hv.at 8 rfl (ha 8 (by decide)))
         have g12:=si hA 12 (hv.at 2 rfl (ha 2 (by decide)))
         have gg12:=slot_get g12
         rw [if_pos (by simp [Region.wanted,yielded,slot_bool g12])]
         have hF:=hK _ w' ⟨hv.put 9 9 19 rfl rfl rfl,hr.nil⟩
         clear hv hr ha hK hA hli;go_simp;exact hF
       · have gg19:=sj hA 19 (hv.at 9 rfl (ha 9 (by decide)))
         have g12:=si hA 12 (hv.at 2 rfl (ha 2 (by decide)))
         have gg12:=slot_get g12
         rw [if_pos (by simp [Region.wanted,yielded,slot_bool g12])]
         have hF:=hK _ w' ⟨hv.put 10 10 20 rfl rfl rfl,hr.nil⟩
         clear hv hr ha hK hA hli;go_simp;exact hF
       · have gg20:=sj hA 20 (hv.at 10 rfl (ha 10 (by decide)))
         have g12:=si hA 12 (hv.at 2 rfl (ha 2 (by decide)))
         have gg12:=slot_get g12
         rw [if_pos (by simp [Region.wanted,yielded,slot_bool g12])]
         have g2':=(HKB.out w' hr.1).2.1
         have hF:=hK _ w' ⟨hv.put 11 11 21 rfl rfl rfl,hr.nil⟩
         clear hv hr ha hK hA hli;go_simp;exact hF
       · have gg3:=so hA 3 _ rfl
         simp only [List.getD_cons_succ,List.getD_cons_zero] at gg3
         have g12:=si hA 12 (hv.at 2 rfl (ha 2 (by decide)))
         have gg12:=slot_get g12
         rw [if_pos (by simp [Region.wanted,yielded,slot_bool g12])]
         have hF:=hK _ w' ⟨hv.put 12 12 22 rfl rfl rfl,hr.nil⟩
         clear hv hr ha hK hA hli;go_simp;exact hF
       · have gg22:=sj hA 22 (hv.at 12 rfl (ha 12 (by decide)))
         have g12:=si hA 12 (hv.at 2 rfl (ha 2 (by decide)))
         have gg12:=slot_get g12
         rw [if_pos (by simp [Region.wanted,yielded,slot_bool g12])]
         obtain ⟨y0,y1,y2,-⟩:=(HKB.out w' hr.1).2.2
         have hF:=hK _ w' ⟨hv.put 13 13 23 rfl rfl rfl,hr.nil⟩
         clear hv hr ha hK hA hli;go_simp;exact hF
       · have gg21:=sj hA 21 (hv.at 11 rfl (ha 11 (by decide)))
         have gg23:=sj hA 23 (hv.at 13 rfl (ha 13 (by decide)))
         have g12:=si hA 12 (hv.at 2 rfl (ha 2 (by decide)))
         have gg12:=slot_get g12
         rw [if_pos (by simp [Region.wanted,yielded,slot_bool g12])]
         have hF:=hK _ w' ⟨hv.put 14 14 24 rfl rfl rfl,hr.nil⟩
         clear hv hr ha hK hA hli;go_simp;exact hF
       · have gg12:=sj hA 12 (hv.at 2 rfl (ha 2 (by decide)))
         have gg24:=sj hA 24 (hv.at 14 rfl (ha 14 (by decide)))
         rw [if_pos (by rfl)]
         have hF:=hK _ w' ⟨hv.put 15 15 25 rfl rfl rfl,hr.nil⟩
         clear hv hr ha hK hA hli;go_simp;exact hF
       · have gg25:=sj hA 25 (hv.at 15 rfl (ha 15 (by decide)))
         rw [if_pos (by rfl)]
         have hF:=hK _ w' ⟨hv.put 16 16 26 rfl rfl rfl,hr.nil⟩
         clear hv hr ha hK hA hli;go_simp;exact hF
       · have gg3:=so hA 3 _ rfl
         simp only [List.getD_cons_succ,List.getD_cons_zero] at gg3
         have g26:=si hA 26 (hv.at 16 rfl (ha 16 (by decide)))
         have gg26:=slot_get g26
         rw [if_pos (by simp [Region.wanted,yielded,slot_bool g26])]
         obtain ⟨y0,y1,y2,-⟩:=(HKB.out w' hr.1).2.2
         have hF:=hK _ w' ⟨hv.put 17 17 27 rfl rfl rfl,hr.nil⟩
         clear hv hr ha hK hA hli;go_simp;exact hF
       · have gg27:=sj hA 27 (hv.at 17 rfl (ha 17 (by decide)))
         have g26:=si hA 26 (hv.at 16 rfl (ha 16 (by decide)))
         have gg26:=slot_get g26
         rw [if_pos (by simp [Region.wanted,yielded,slot_bool g26])]
         clear hA
         go_simp
         refine (certCounts_impl s v g w').mono ?_
         rintro e9 w9 ⟨rfl,hb9⟩
         rw [HY.out]
         exact hK (.bool y) w9 ⟨hv.step 18 28 _ (by simp),hr.step 18 28 _ hb9 (by simp)⟩
       · have gg28:=sj hA 28 (hv.at 18 rfl (ha 18 (by decide)))
         have g26:=si hA 26 (hv.at 16 rfl (ha 16 (by decide)))
         have gg26:=slot_get g26
         rw [if_pos (by simp [Region.wanted,yielded,slot_bool g26])]
         have hF:=hK _ w' ⟨hv.put 19 19 29 rfl rfl rfl,hr.nil⟩
         clear hv hr ha hK hA hli;go_simp;exact hF
       · have gg26:=sj hA 26 (hv.at 16 rfl (ha 16 (by decide)))
         have gg29:=sj hA 29 (hv.at 19 rfl (ha 19 (by decide)))
         rw [if_pos (by rfl)]
         have hF:=hK _ w' ⟨hv.put 20 20 30 rfl rfl rfl,hr.nil⟩
         clear hv hr ha hK hA hli;go_simp;exact hF
     · intro lz fz w2 hall ⟨hv,hq⟩
       have h30:=hv.at 20 rfl (hall 20 (by decide))
       have hbR:=hq.1
       clear hv hq hall
       simp only [mixF,List.contains_cons,List.contains_nil]
       go_simp
       have HBF:=Lib.hid (HB.out.trans (hbR.mono HB.out.size))
       clear hbR
       cases y with
       | false =>
        have HE:=Lib.hid (cbN_cnt (L:=t.blocks) HY.out)
        go_wp2_with fail
        go_ret
        exact ⟨by rw [HE.out];rfl,HBF.out⟩
       | true =>
        have HE:=Lib.hid (cbN_yes (L:=t.blocks) HY.out HF.out HXV2.out)
        go_wp2_with fail
        go_ret
        exact ⟨by rw [HE.out];rfl,HBF.out⟩
   · have e0:(xv != v)=true:=by simp [hv]
     have HE:=Lib.hid (cbN_view (L:=t.blocks) (c:=⟨s,v,g⟩) HF.out (by rw [HXV.out];exact hv))
     clear hv
     go_enter Tryz.func70,Tryz.ntmps70
     go_upto_region 1 with (fail)
     rw [← HW1.out]
     clear HW1
     obtain ⟨d0,d1,d2,-⟩:=HG.out
     go_wp2_with fail
     refine (numberOf_impl Z m _ _ _ _ t.blocks s _ HBX.out HMP.out HS.out).mono ?_;rintro e w1x ⟨rfl,rfl⟩
     rw [HF.out]
     clear d0 d1 d2
     go_upto_region 2 with (fail)
     refine wp_region_light (by kernel_rfl) (fun lz fz wz=>Vals [(0,10,(.int .i64 (k:Int))),(1,11,(.bool false)),(2,12,(.bool false)),(3,13,(.pointer (some ⟨Z,0,none⟩))),(4,14,(.pointer (some ⟨Z,0,none⟩))),(5,15,(.pointer (some ⟨Z,0,none⟩))),(6,16,(.pointer (some ⟨Z,1,none⟩))),(7,17,(.slice (some ⟨b,off,none⟩) n2 c2)),(8,18,(.int .i64 (k:Int))),(9,19,(.pointer (some ⟨b,off+k*6,none⟩))),(10,20,(.pointer (some ⟨b,off+k*6+2,none⟩))),(11,21,(.int .i64 xv)),(12,22,(.pointer (some ⟨w.heap.size,1,none⟩))),(13,23,(.int .i64 v)),(14,24,(.bool true)),(15,25,(.bool true)),(16,26,(.bool true)),(20,30,(.bool true))] lz fz∧Facts w1 [] lz fz wz) 32 rfl [10,11,12,13,14,15,16,17,18,19,20,21,22,23,24,25,26,27,28,29,30] (by kernel_rfl) (by kernel_rfl) (by kernel_rfl) (fun f=>⟨Vals.nothing _ f,Facts.nothing _ _ f⟩) ?_ ?_
     · intro i hi
       rcases (by have:i < 21:=hi;omega:i=0∨i=1∨i=2∨i=3∨i=4∨i=5∨i=6∨i=7∨i=8∨i=9∨i=10∨i=11∨i=12∨i=13∨i=14∨i=15∨i=16∨i=17∨i=18∨i=19∨i=20) with rfl | rfl | rfl | rfl | rfl | rfl | rfl | rfl | rfl | rfl | rfl | rfl | rfl | rfl | rfl | rfl | rfl | rfl | rfl | rfl | rfl
       all_goals (clear hi;intro o ho lz fz w' A ⟨hv,hr⟩ hli ha hA K hK;obtain rfl:=Option.some.inj ho;clear ho)
       · have gg5:=so hA 5 _ rfl
         simp only [List.getD_cons_succ,List.getD_cons_zero] at gg5
         rw [if_pos (by rfl)]
         have hF:=hK _ w' ⟨hv.put 0 0 10 rfl rfl rfl,hr.nil⟩
         clear hv hr ha hK hA hli;go_simp;exact hF
       · have gg10:=sj hA 10 (hv.at 0 rfl (ha 0 (by decide)))
         rw [if_pos (by rfl)]
         have hF:=hK _ w' ⟨hv.put 1 1 11 rfl rfl rfl,hr.nil⟩
         clear hv hr ha hK hA hli;go_simp;exact hF
       · have gg11:=sj hA 11 (hv.at 1 rfl (ha 1 (by decide)))
         rw [if_pos (by rfl)]
         have hF:=hK _ w' ⟨hv.put 2 2 12 rfl rfl rfl,hr.nil⟩
         clear hv hr ha hK hA hli;go_simp;exact hF
       · have gg0:=so hA 0 _ rfl
         simp only [List.getD_cons_succ,List.getD_cons_zero] at gg0
         have g12:=si hA 12 (hv.at 2 rfl (ha 2 (by decide)))
         have gg12:=slot_get g12
         rw [if_pos (by simp [Region.wanted,yielded,slot_bool g12])]
         have hF:=hK _ w' ⟨hv.put 3 3 13 rfl rfl rfl,hr.nil⟩
         clear hv hr ha hK hA hli;go_simp;exact hF
       · have gg13:=sj hA 13 (hv.at 3 rfl (ha 3 (by decide)))
         have g12:=si hA 12 (hv.at 2 rfl (ha 2 (by decide)))
         have gg12:=slot_get g12
         rw [if_pos (by simp [Region.wanted,yielded,slot_bool g12])]
         have hF:=hK _ w' ⟨hv.put 4 4 14 rfl rfl rfl,hr.nil⟩
         clear hv hr ha hK hA hli;go_simp;exact hF
       · have gg14:=sj hA 14 (hv.at 4 rfl (ha 4 (by decide)))
         have g12:=si hA 12 (hv.at 2 rfl (ha 2 (by decide)))
         have gg12:=slot_get g12
         rw [if_pos (by simp [Region.wanted,yielded,slot_bool g12])]
         have hF:=hK _ w' ⟨hv.put 5 5 15 rfl rfl rfl,hr.nil⟩
         clear hv hr ha hK hA hli;go_simp;exact hF
       · have gg15:=sj hA 15 (hv.at 5 rfl (ha 5 (by decide)))
         have g12:=si hA 12 (hv.at 2 rfl (ha 2 (by decide)))
         have gg12:=slot_get g12
         rw [if_pos (by simp [Region.wanted,yielded,slot_bool g12])]
         have hF:=hK _ w' ⟨hv.put 6 6 16 rfl rfl rfl,hr.nil⟩
         clear hv hr ha hK hA hli;go_simp;exact hF
       · have gg16:=sj hA 16 (hv.at 6 rfl (ha 6 (by decide)))
         have g12:=si hA 12 (hv.at 2 rfl (ha 2 (by decide)))
         have gg12:=slot_get g12
         rw [if_pos (by simp [Region.wanted,yielded,slot_bool g12])]
         obtain ⟨x0,x1,x2,x3,-⟩:=(HKB.out w' hr.1).1
         have hF:=hK _ w' ⟨hv.put 7 7 17 rfl rfl rfl,hr.nil⟩
         clear hv hr ha hK hA hli;go_simp;exact hF
       · have gg5:=so hA 5 _ rfl
         simp only [List.getD_cons_succ,List.getD_cons_zero] at gg5
         have g12:=si hA 12 (hv.at 2 rfl (ha 2 (by decide)))
         have gg12:=slot_get g12
         rw [if_pos (by simp [Region.wanted,yielded,slot_bool g12])]
         have hF:=hK _ w' ⟨hv.put 8 8 18 rfl rfl rfl,hr.nil⟩
         clear hv hr ha hK hA hli;go_simp;exact hF
       · have gg17:=sj hA 17 (hv.at 7 rfl (ha 7 (by decide)))
         have gg18:=sj hA 18 (hv.at 8 rfl (ha 8 (by decide)))
         have g12:=si hA 12 (hv.at 2 rfl (ha 2 (by decide)))
         have gg12:=slot_get g12
         rw [if_pos (by simp [Region.wanted,yielded,slot_bool g12])]
         have hF:=hK _ w' ⟨hv.put 9 9 19 rfl rfl rfl,hr.nil⟩
         clear hv hr ha hK hA hli;go_simp;exact hF
       · have gg19:=sj hA 19 (hv.at 9 rfl (ha 9 (by decide)))
         have g12:=si hA 12 (hv.at 2 rfl (ha 2 (by decide)))
         have gg12:=slot_get g12
         rw [if_pos (by simp [Region.wanted,yielded,slot_bool g12])]
         have hF:=hK _ w' ⟨hv.put 10 10 20 rfl rfl rfl,hr.nil⟩
         clear hv hr ha hK hA hli;go_simp;exact hF
       · have gg20:=sj hA 20 (hv.at 10 rfl (ha 10 (by decide)))
         have g12:=si hA 12 (hv.at 2 rfl (ha 2 (by decide)))
         have gg12:=slot_get g12
         rw [if_pos (by simp [Region.wanted,yielded,slot_bool g12])]
         have g2':=(HKB.out w' hr.1).2.1
         have hF:=hK _ w' ⟨hv.put 11 11 21 rfl rfl rfl,hr.nil⟩
         clear hv hr ha hK hA hli;go_simp;exact hF
       · have gg3:=so hA 3 _ rfl
         simp only [List.getD_cons_succ,List.getD_cons_zero] at gg3
         have g12:=si hA 12 (hv.at 2 rfl (ha 2 (by decide)))
         have gg12:=slot_get g12
         rw [if_pos (by simp [Region.wanted,yielded,slot_bool g12])]
         have hF:=hK _ w' ⟨hv.put 12 12 22 rfl rfl rfl,hr.nil⟩
         clear hv hr ha hK hA hli;go_simp;exact hF
       · have gg22:=sj hA 22 (hv.at 12 rfl (ha 12 (by decide)))
         have g12:=si hA 12 (hv.at 2 rfl (ha 2 (by decide)))
         have gg12:=slot_get g12
         rw [if_pos (by simp [Region.wanted,yielded,slot_bool g12])]
         obtain ⟨y0,y1,y2,-⟩:=(HKB.out w' hr.1).2.2
         have hF:=hK _ w' ⟨hv.put 13 13 23 rfl rfl rfl,hr.nil⟩
         clear hv hr ha hK hA hli;go_simp;exact hF
       · have gg21:=sj hA 21 (hv.at 11 rfl (ha 11 (by decide)))
         have gg23:=sj hA 23 (hv.at 13 rfl (ha 13 (by decide)))
         have g12:=si hA 12 (hv.at 2 rfl (ha 2 (by decide)))
         have gg12:=slot_get g12
         rw [if_pos (by simp [Region.wanted,yielded,slot_bool g12])]
         have hF:=hK _ w' ⟨hv.put 14 14 24 rfl rfl rfl,hr.nil⟩
         clear hv hr ha hK hA hli;go_simp;exact hF
       · have gg12:=sj hA 12 (hv.at 2 rfl (ha 2 (by decide)))
         have gg24:=sj hA 24 (hv.at 14 rfl (ha 14 (by decide)))
         rw [if_pos (by rfl)]
         have hF:=hK _ w' ⟨hv.put 15 15 25 rfl rfl rfl,hr.nil⟩
         clear hv hr ha hK hA hli;go_simp;exact hF
       · have gg25:=sj hA 25 (hv.at 15 rfl (ha 15 (by decide)))
         rw [if_pos (by rfl)]
         have hF:=hK _ w' ⟨hv.put 16 16 26 rfl rfl rfl,hr.nil⟩
         clear hv hr ha hK hA hli;go_simp;exact hF
       iterate 3
        · have g26:=si hA 26 (hv.at 16 rfl (ha 16 (by decide)))
          have gw:=slot_bool g26
          rw [if_neg (by simp [Region.wanted,yielded,gw])]
          exact hK undef w' ⟨hv.step _ _ _ (by simp),hr.step _ _ _ (Below.refl _ _) (by simp)⟩
       · have gg26:=sj hA 26 (hv.at 16 rfl (ha 16 (by decide)))
         rw [if_pos (by rfl)]
         have hF:=hK _ w' ⟨hv.put 17 20 30 rfl rfl rfl,hr.nil⟩
         clear hv hr ha hK hA hli;go_simp;exact hF
     · intro lz fz w2 hall ⟨hv,hq⟩
       have h30:=hv.at 17 rfl (hall 20 (by decide))
       have hbR:=hq.1
       clear hv hq hall
       simp only [mixF,List.contains_cons,List.contains_nil]
       go_simp
       have HBF:=Lib.hid (HB.out.trans (hbR.mono HB.out.size))
       clear hbR
       go_wp2_with fail
       go_ret
       exact ⟨by rw [HE.out];rfl,HBF.out⟩
set_option maxHeartbeats 4000000 in
theorem certBlock_impl (v1 v2 v3:Value) (t:Tre) (s v g:Int) (w:World) (h:TreRd w v1 v2 v3 t) (hs:(Lit.int .i64 s).wf=true) :
  Calls Tryz.prog 16 #[.agg #[v1,v2,v3],.agg #[.int .i64 s,.int .i64 v,.int .i64 g]] w (IntB (cbM t ⟨s,v,g⟩) w):=by
 have hrd:=h
 obtain ⟨⟨a1,n1,c1,rfl,-⟩,⟨a2,n2,c2,rfl,-⟩,a3,n3,c3,rfl,-⟩:=h
 have hb0:=((Below.refl w.heap.size w).alloc (Nat.le_refl _) (.cells #[.slice a1 n1 c1,.slice a2 n2 c2,.slice a3 n3 c3] 27)).alloc (by simp) (.cells #[.int .i64 s,.int .i64 v,.int .i64 g] 29)
 have hg0:=(trAt_new w 27 (.slice a1 n1 c1) (.slice a2 n2 c2) (.slice a3 n3 c3)).below ((Below.refl _ _).alloc (Nat.le_refl _) (.cells #[.int .i64 s,.int .i64 v,.int .i64 g] 29))
 have hc0:=trAt_new (w.alloc (.cells #[.slice a1 n1 c1,.slice a2 n2 c2,.slice a3 n3 c3] 27)) 29 (.int .i64 s) (.int .i64 v) (.int .i64 g)
 rw [World.size_alloc] at hc0
 have hr0:=hrd.below hb0
 obtain ⟨W1,hW1⟩:∃ W1,W1=(w.alloc (.cells #[.slice a1 n1 c1,.slice a2 n2 c2,.slice a3 n3 c3] 27)).alloc (.cells #[.int .i64 s,.int .i64 v,.int .i64 g] 29):=⟨_,rfl⟩
 have HW1:=Lib.hid hW1
 rw [← hW1] at hb0 hg0 hr0 hc0
 clear hW1 hrd
 have HB:=Lib.hid hb0
 have HRD:=Lib.hid hr0
 have HG:=Lib.hid hg0
 have HC:=Lib.hid hc0
 have HS:=Lib.hid hs
 obtain ⟨x0,x1,x2,-⟩:=hg0
 obtain ⟨y0,y1,y2,-⟩:=hc0
 clear hb0 hr0 hs
 go_enter Tryz.func16,Tryz.ntmps16
 go_upto_region 1 with (fail)
 rw [← HW1.out]
 clear HW1
 go_wp2_with fail
 refine (indexedTreeOf_impl _ _ _ t _ HRD.out).mono ?_;rintro e w2 ⟨hb2,hno,hyes⟩
 have HBF:=Lib.hid (HB.out.trans (hb2.mono HB.out.size))
 have HC2:=Lib.hid (HC.out.below hb2)
 cases ht:treB t with
 | false =>
  have HF:=Lib.hid (cbM_no (c:=⟨s,v,g⟩) ht)
  obtain rfl:=hno ht
  clear hno hyes hb2 ht
  go_wp2_with fail
  go_ret
  exact ⟨by rw [HF.out];rfl,HBF.out⟩
 | true =>
  have HF:=Lib.hid (cbM_yes (c:=⟨s,v,g⟩) ht)
  obtain ⟨Z,m,u1,u2,u3,ts,rfl,hix⟩:=hyes ht
  have HIX:=Lib.hid hix
  clear hno hyes hb2 ht hix x0 x1 x2 y0 y1 y2
  obtain ⟨y0,y1,y2,-⟩:=HC2.out
  go_wp2_with fail
  refine (numberOfCertified_impl Z m _ _ _ _ t s v g _ HIX.out.box HIX.out.map HIX.out.rd HS.out).mono ?_;rintro e w3 ⟨rfl,hb3⟩
  have HB3:=Lib.hid (HBF.out.trans (hb3.mono HBF.out.size))
  clear hb3
  go_wp2_with fail
  go_ret
  exact ⟨by rw [HF.out];rfl,HB3.out⟩
set_option maxHeartbeats 4000000 in
theorem certBlock_spec (v1 v2 v3:Value) (t:Tre) (s v g:Int) (w:World) (h:TreRd w v1 v2 v3 t) (hs:(Lit.int .i64 s).wf=true) :
  Calls Tryz.prog 17 #[.agg #[v1,v2,v3],.agg #[.int .i64 s,.int .i64 v,.int .i64 g]] w (IntB (cbM t ⟨s,v,g⟩) w):=by
 have hrd:=h
 obtain ⟨⟨a1,n1,c1,rfl,-⟩,⟨a2,n2,c2,rfl,-⟩,a3,n3,c3,rfl,-⟩:=h
 have hb0:=((Below.refl w.heap.size w).alloc (Nat.le_refl _) (.cells #[.slice a1 n1 c1,.slice a2 n2 c2,.slice a3 n3 c3] 27)).alloc (by simp) (.cells #[.int .i64 s,.int .i64 v,.int .i64 g] 29)
 have hg0:=(trAt_new w 27 (.slice a1 n1 c1) (.slice a2 n2 c2) (.slice a3 n3 c3)).below ((Below.refl _ _).alloc (Nat.le_refl _) (.cells #[.int .i64 s,.int .i64 v,.int .i64 g] 29))
 have hc0:=trAt_new (w.alloc (.cells #[.slice a1 n1 c1,.slice a2 n2 c2,.slice a3 n3 c3] 27)) 29 (.int .i64 s) (.int .i64 v) (.int .i64 g)
 rw [World.size_alloc] at hc0
 have hr0:=hrd.below hb0
 obtain ⟨W1,hW1⟩:∃ W1,W1=(w.alloc (.cells #[.slice a1 n1 c1,.slice a2 n2 c2,.slice a3 n3 c3] 27)).alloc (.cells #[.int .i64 s,.int .i64 v,.int .i64 g] 29):=⟨_,rfl⟩
 have HW1:=Lib.hid hW1
 rw [← hW1] at hb0 hg0 hr0 hc0
 clear hW1 hrd
 have HB:=Lib.hid hb0
 have HRD:=Lib.hid hr0
 have HG:=Lib.hid hg0
 have HC:=Lib.hid hc0
 have HS:=Lib.hid hs
 obtain ⟨x0,x1,x2,-⟩:=hg0
 obtain ⟨y0,y1,y2,-⟩:=hc0
 clear hb0 hr0 hs
 go_enter Tryz.func17,Tryz.ntmps17
 go_upto_region 1 with (fail)
 rw [← HW1.out]
 clear HW1
 go_wp2_with fail
 refine (blockTreeValid_spec _ _ _ t _ HRD.out).mono ?_;rintro e w2 ⟨rfl,hb2⟩
 have HB2:=Lib.hid (HB.out.trans (hb2.mono HB.out.size))
 have HRD2:=Lib.hid (HRD.out.below hb2)
 have HC2:=Lib.hid (HC.out.below hb2)
 have HG2:=Lib.hid (HG.out.below hb2)
 clear x0 x1 x2 y0 y1 y2 hb2 HRD HC HG
 cases ht:treB t with
 | false =>
  have HF:=Lib.hid (cbM_no (c:=⟨s,v,g⟩) ht)
  clear ht
  go_wp2_with fail
  go_ret
  exact ⟨by rw [HF.out];rfl,HB2.out⟩
 | true =>
  have HF:=Lib.hid (cbM_yes (c:=⟨s,v,g⟩) ht)
  clear ht
  obtain ⟨y0,y1,y2,-⟩:=HC2.out
  go_wp2_with fail
  refine (certCounts_spec s v g _).mono ?_;rintro e w3 ⟨rfl,hb3⟩
  have HB3:=Lib.hid (HB2.out.trans (hb3.mono HB2.out.size))
  have HRD3:=Lib.hid (HRD2.out.below hb3)
  have HC3:=Lib.hid (HC2.out.below hb3)
  have HG3:=Lib.hid (HG2.out.below hb3)
  clear y0 y1 y2 hb3 HRD2 HC2 HG2
  cases hc:cntB ⟨s,v,g⟩ with
  | false =>
   have HE:=Lib.hid (cbN_cnt (L:=t.blocks) hc)
   clear hc
   go_wp2_with fail
   go_ret
   exact ⟨by rw [HF.out,HE.out];rfl,HB3.out⟩
  | true =>
   have HCN:=Lib.hid hc
   clear hc
   obtain ⟨y0,y1,y2,-⟩:=HC3.out
   obtain ⟨x0,x1,x2,-⟩:=HG3.out
   go_wp2_with fail
   refine (l13Find_spec _ _ _ t s _ HRD3.out).mono ?_;rintro e w4 ⟨rfl,hb4⟩
   have HB4:=Lib.hid (HB3.out.trans (hb4.mono HB3.out.size))
   have hrd4:=HRD3.out.below hb4
   have HC4:=Lib.hid (HC3.out.below hb4)
   have HG4:=Lib.hid (HG3.out.below hb4)
   clear y0 y1 y2 x0 x1 x2 hb4 HRD3 HC3 HG3
   rcases findL_cases t.blocks s with ⟨hf,-⟩ | ⟨k,hk,hf,-,-⟩
   · have HE:=Lib.hid (cbN_none (L:=t.blocks) (c:=⟨s,v,g⟩) hf)
     rw [hf]
     clear hrd4 hf
     go_upto_region 4 with (fail)
     refine wp_region_light (by kernel_rfl) (fun lz fz wz=>Vals [(0,18,(.int .i64 (-1))),(1,19,(.bool true)),(2,20,(.bool true)),(12,30,(.bool true))] lz fz∧Facts w4 [] lz fz wz) 32 rfl [18,19,20,21,22,23,24,25,26,27,28,29,30] (by kernel_rfl) (by kernel_rfl) (by kernel_rfl) (fun f=>⟨Vals.nothing _ f,Facts.nothing _ _ f⟩) ?_ ?_
     · intro i hi
       rcases (by have:i < 13:=hi;omega:i=0∨i=1∨i=2∨i=3∨i=4∨i=5∨i=6∨i=7∨i=8∨i=9∨i=10∨i=11∨i=12) with rfl | rfl | rfl | rfl | rfl | rfl | rfl | rfl | rfl | rfl | rfl | rfl | rfl
       all_goals (clear hi;intro o ho lz fz w' A ⟨hv,hr⟩ hli ha hA K hK;obtain rfl:=Option.some.inj ho;clear ho)
       · have gg5:=so hA 5 _ rfl
         simp only [List.getD_cons_succ,List.getD_cons_zero] at gg5
         rw [if_pos (by rfl)]
         have hF:=hK _ w' ⟨hv.put 0 0 18 rfl rfl rfl,hr.nil⟩
         clear hv hr ha hK hA hli;go_simp;exact hF
       · have gg18:=sj hA 18 (hv.at 0 rfl (ha 0 (by decide)))
         rw [if_pos (by rfl)]
         have hF:=hK _ w' ⟨hv.put 1 1 19 rfl rfl rfl,hr.nil⟩
         clear hv hr ha hK hA hli;go_simp;exact hF
       · have gg19:=sj hA 19 (hv.at 1 rfl (ha 1 (by decide)))
         rw [if_pos (by rfl)]
         have hF:=hK _ w' ⟨hv.put 2 2 20 rfl rfl rfl,hr.nil⟩
         clear hv hr ha hK hA hli;go_simp;exact hF
       iterate 9
        · have g20:=si hA 20 (hv.at 2 rfl (ha 2 (by decide)))
          have gw:=slot_bool g20
          rw [if_neg (by simp [Region.wanted,yielded,gw])]
          exact hK undef w' ⟨hv.step _ _ _ (by simp),hr.step _ _ _ (Below.refl _ _) (by simp)⟩
       · have gg20:=sj hA 20 (hv.at 2 rfl (ha 2 (by decide)))
         rw [if_pos (by rfl)]
         have hF:=hK _ w' ⟨hv.put 3 12 30 rfl rfl rfl,hr.nil⟩
         clear hv hr ha hK hA hli;go_simp;exact hF
     · intro lz fz w5 hall ⟨hv,hq⟩
       have h30:=hv.at 3 rfl (hall 12 (by decide))
       have hbR:=hq.1
       clear hv hq hall
       simp only [mixF,List.contains_cons,List.contains_nil]
       go_simp
       have HBF:=Lib.hid (HB4.out.trans (hbR.mono HB4.out.size))
       clear hbR
       go_wp2_with fail
       go_ret
       exact ⟨by rw [HF.out,HE.out];rfl,HBF.out⟩
   · obtain ⟨-,⟨a2',n2',c2',hq,r2,-,-⟩,-⟩:=hrd4
     obtain ⟨rfl,rfl,rfl⟩:a2'=a2∧n2'=n2∧c2'=c2:=by simp only [Value.slice.injEq] at hq;exact ⟨hq.1.symm,hq.2.1.symm,hq.2.2.symm⟩
     have hl2:t.blocks.length=n2':=r2.1
     have hm2:=r2.2.1
     unfold maxLen at hm2
     obtain ⟨b,off,rfl,g0,g1,g2,g3,g4,g5⟩:=r2.at k (by omega)
     obtain ⟨xv,hxv⟩:∃ xv,xv=(t.blocks.getD k noBlk).view:=⟨_,rfl⟩
     rw [← hxv] at g2
     have HXV:Hid ((blkAt t.blocks k).view=xv):=Lib.hid hxv.symm
     have HFK:=Lib.hid hf
     have hkn:k < n2':=by omega
     rw [hf]
     clear g0 g1 g3 g4 g5 hq r2 hxv hf hk hl2
     have HKB:=Lib.hid (fun (W:World) (hb:Below w4.heap.size w4 W)=>(⟨(HG4.out.below hb).c1,(hb.cell (p:=⟨b,off+k*6+2,none⟩) (World.block_lt_of_cell? w4 ⟨b,off+k*6+2,none⟩ g2)).trans g2,(HC4.out.below hb).c1⟩:W.cell? ⟨w.heap.size,1,none⟩=some (.slice (some ⟨b,off,none⟩) n2' c2')∧W.cell? ⟨b,off+k*6+2,none⟩=some (.int .i64 xv)∧W.cell? ⟨w.heap.size+1,1,none⟩=some (.int .i64 v)))
     clear g2
     by_cases hv:xv=v
     · have HE:=Lib.hid (cbN_yes (L:=t.blocks) HCN.out HFK.out (by rw [HXV.out];exact hv))
       have e0:(xv != v)=false:=by simp [hv]
       clear hv
       go_upto_region 4 with (fail)
       refine wp_region_light (by kernel_rfl) (fun lz fz wz=>Vals [(0,18,(.int .i64 (k:Int))),(1,19,(.bool false)),(2,20,(.bool false)),(3,21,(.pointer (some ⟨w.heap.size,1,none⟩))),(4,22,(.slice (some ⟨b,off,none⟩) n2' c2')),(5,23,(.int .i64 (k:Int))),(6,24,(.pointer (some ⟨b,off+k*6,none⟩))),(7,25,(.pointer (some ⟨b,off+k*6+2,none⟩))),(8,26,(.int .i64 xv)),(9,27,(.pointer (some ⟨w.heap.size+1,1,none⟩))),(10,28,(.int .i64 v)),(11,29,(.bool false)),(12,30,(.bool false))] lz fz∧Facts w4 [] lz fz wz) 32 rfl [18,19,20,21,22,23,24,25,26,27,28,29,30] (by kernel_rfl) (by kernel_rfl) (by kernel_rfl) (fun f=>⟨Vals.nothing _ f,Facts.nothing _ _ f⟩) ?_ ?_
       · intro i hi
         rcases (by have:i < 13:=hi;omega:i=0∨i=1∨i=2∨i=3∨i=4∨i=5∨i=6∨i=7∨i=8∨i=9∨i=10∨i=11∨i=12) with rfl | rfl | rfl | rfl | rfl | rfl | rfl | rfl | rfl | rfl | rfl | rfl | rfl
         all_goals (clear hi;intro o ho lz fz w' A ⟨hv,hr⟩ hli ha hA K hK;obtain rfl:=Option.some.inj ho;clear ho)
         · have gg5:=so hA 5 _ rfl
           simp only [List.getD_cons_succ,List.getD_cons_zero] at gg5
           rw [if_pos (by rfl)]
           have hF:=hK _ w' ⟨hv.put 0 0 18 rfl rfl rfl,hr.nil⟩
           clear hv hr ha hK hA hli;go_simp;exact hF
         · have gg18:=sj hA 18 (hv.at 0 rfl (ha 0 (by decide)))
           rw [if_pos (by rfl)]
           have hF:=hK _ w' ⟨hv.put 1 1 19 rfl rfl rfl,hr.nil⟩
           clear hv hr ha hK hA hli;go_simp;exact hF
         · have gg19:=sj hA 19 (hv.at 1 rfl (ha 1 (by decide)))
           rw [if_pos (by rfl)]
           have hF:=hK _ w' ⟨hv.put 2 2 20 rfl rfl rfl,hr.nil⟩
           clear hv hr ha hK hA hli;go_simp;exact hF
         · have gg2:=so hA 2 _ rfl
           simp only [List.getD_cons_succ,List.getD_cons_zero] at gg2
           have g20:=si hA 20 (hv.at 2 rfl (ha 2 (by decide)))
           have gg20:=slot_get g20
           rw [if_pos (by simp [Region.wanted,yielded,slot_bool g20])]
           have hF:=hK _ w' ⟨hv.put 3 3 21 rfl rfl rfl,hr.nil⟩
           clear hv hr ha hK hA hli;go_simp;exact hF
         · have gg21:=sj hA 21 (hv.at 3 rfl (ha 3 (by decide)))
           have g20:=si hA 20 (hv.at 2 rfl (ha 2 (by decide)))
           have gg20:=slot_get g20
           rw [if_pos (by simp [Region.wanted,yielded,slot_bool g20])]
           have x1':=(HKB.out w' hr.1).1
           have hF:=hK _ w' ⟨hv.put 4 4 22 rfl rfl rfl,hr.nil⟩
           clear hv hr ha hK hA hli;go_simp;exact hF
         · have gg5:=so hA 5 _ rfl
           simp only [List.getD_cons_succ,List.getD_cons_zero] at gg5
           have g20:=si hA 20 (hv.at 2 rfl (ha 2 (by decide)))
           have gg20:=slot_get g20
           rw [if_pos (by simp [Region.wanted,yielded,slot_bool g20])]
           have hF:=hK _ w' ⟨hv.put 5 5 23 rfl rfl rfl,hr.nil⟩
           clear hv hr ha hK hA hli;go_simp;exact hF
         · have gg22:=sj hA 22 (hv.at 4 rfl (ha 4 (by decide)))
           have gg23:=sj hA 23 (hv.at 5 rfl (ha 5 (by decide)))
           have g20:=si hA 20 (hv.at 2 rfl (ha 2 (by decide)))
           have gg20:=slot_get g20
           rw [if_pos (by simp [Region.wanted,yielded,slot_bool g20])]
           have hF:=hK _ w' ⟨hv.put 6 6 24 rfl rfl rfl,hr.nil⟩
           clear hv hr ha hK hA hli;go_simp;exact hF
         · have gg24:=sj hA 24 (hv.at 6 rfl (ha 6 (by decide)))
           have g20:=si hA 20 (hv.at 2 rfl (ha 2 (by decide)))
           have gg20:=slot_get g20
           rw [if_pos (by simp [Region.wanted,yielded,slot_bool g20])]
           have hF:=hK _ w' ⟨hv.put 7 7 25 rfl rfl rfl,hr.nil⟩
           clear hv hr ha hK hA hli;go_simp;exact hF
         · have gg25:=sj hA 25 (hv.at 7 rfl (ha 7 (by decide)))
           have g20:=si hA 20 (hv.at 2 rfl (ha 2 (by decide)))
           have gg20:=slot_get g20
           rw [if_pos (by simp [Region.wanted,yielded,slot_bool g20])]
           have g2':=(HKB.out w' hr.1).2.1
           have hF:=hK _ w' ⟨hv.put 8 8 26 rfl rfl rfl,hr.nil⟩
           clear hv hr ha hK hA hli;go_simp;exact hF
         · have gg3:=so hA 3 _ rfl
           simp only [List.getD_cons_succ,List.getD_cons_zero] at gg3
           have g20:=si hA 20 (hv.at 2 rfl (ha 2 (by decide)))
           have gg20:=slot_get g20
           rw [if_pos (by simp [Region.wanted,yielded,slot_bool g20])]
           have hF:=hK _ w' ⟨hv.put 9 9 27 rfl rfl rfl,hr.nil⟩
           clear hv hr ha hK hA hli;go_simp;exact hF
         · have gg27:=sj hA 27 (hv.at 9 rfl (ha 9 (by decide)))
           have g20:=si hA 20 (hv.at 2 rfl (ha 2 (by decide)))
           have gg20:=slot_get g20
           rw [if_pos (by simp [Region.wanted,yielded,slot_bool g20])]
           have y1':=(HKB.out w' hr.1).2.2
           have hF:=hK _ w' ⟨hv.put 10 10 28 rfl rfl rfl,hr.nil⟩
           clear hv hr ha hK hA hli;go_simp;exact hF
         · have gg26:=sj hA 26 (hv.at 8 rfl (ha 8 (by decide)))
           have gg28:=sj hA 28 (hv.at 10 rfl (ha 10 (by decide)))
           have g20:=si hA 20 (hv.at 2 rfl (ha 2 (by decide)))
           have gg20:=slot_get g20
           rw [if_pos (by simp [Region.wanted,yielded,slot_bool g20])]
           have hF:=hK _ w' ⟨hv.put 11 11 29 rfl rfl rfl,hr.nil⟩
           clear hv hr ha hK hA hli;go_simp;exact hF
         · have gg20:=sj hA 20 (hv.at 2 rfl (ha 2 (by decide)))
           have gg29:=sj hA 29 (hv.at 11 rfl (ha 11 (by decide)))
           rw [if_pos (by rfl)]
           have hF:=hK _ w' ⟨hv.put 12 12 30 rfl rfl rfl,hr.nil⟩
           clear hv hr ha hK hA hli;go_simp;exact hF
       · intro lz fz w5 hall ⟨hv,hq⟩
         have h30:=hv.at 12 rfl (hall 12 (by decide))
         have hbR:=hq.1
         clear hv hq hall
         simp only [mixF,List.contains_cons,List.contains_nil]
         go_simp
         have HBF:=Lib.hid (HB4.out.trans (hbR.mono HB4.out.size))
         clear hbR
         go_wp2_with fail
         go_ret
         exact ⟨by rw [HF.out,HE.out];rfl,HBF.out⟩
     · have HE:=Lib.hid (cbN_view (L:=t.blocks) (c:=⟨s,v,g⟩) HFK.out (by rw [HXV.out];exact hv))
       have e0:(xv != v)=true:=by simp [hv]
       clear hv
       go_upto_region 4 with (fail)
       refine wp_region_light (by kernel_rfl) (fun lz fz wz=>Vals [(0,18,(.int .i64 (k:Int))),(1,19,(.bool false)),(2,20,(.bool false)),(3,21,(.pointer (some ⟨w.heap.size,1,none⟩))),(4,22,(.slice (some ⟨b,off,none⟩) n2' c2')),(5,23,(.int .i64 (k:Int))),(6,24,(.pointer (some ⟨b,off+k*6,none⟩))),(7,25,(.pointer (some ⟨b,off+k*6+2,none⟩))),(8,26,(.int .i64 xv)),(9,27,(.pointer (some ⟨w.heap.size+1,1,none⟩))),(10,28,(.int .i64 v)),(11,29,(.bool true)),(12,30,(.bool true))] lz fz∧Facts w4 [] lz fz wz) 32 rfl [18,19,20,21,22,23,24,25,26,27,28,29,30] (by kernel_rfl) (by kernel_rfl) (by kernel_rfl) (fun f=>⟨Vals.nothing _ f,Facts.nothing _ _ f⟩) ?_ ?_
       · intro i hi
         rcases (by have:i < 13:=hi;omega:i=0∨i=1∨i=2∨i=3∨i=4∨i=5∨i=6∨i=7∨i=8∨i=9∨i=10∨i=11∨i=12) with rfl | rfl | rfl | rfl | rfl | rfl | rfl | rfl | rfl | rfl | rfl | rfl | rfl
         all_goals (clear hi;intro o ho lz fz w' A ⟨hv,hr⟩ hli ha hA K hK;obtain rfl:=Option.some.inj ho;clear ho)
         · have gg5:=so hA 5 _ rfl
           simp only [List.getD_cons_succ,List.getD_cons_zero] at gg5
           rw [if_pos (by rfl)]
           have hF:=hK _ w' ⟨hv.put 0 0 18 rfl rfl rfl,hr.nil⟩
           clear hv hr ha hK hA hli;go_simp;exact hF
         · have gg18:=sj hA 18 (hv.at 0 rfl (ha 0 (by decide)))
           rw [if_pos (by rfl)]
           have hF:=hK _ w' ⟨hv.put 1 1 19 rfl rfl rfl,hr.nil⟩
           clear hv hr ha hK hA hli;go_simp;exact hF
         · have gg19:=sj hA 19 (hv.at 1 rfl (ha 1 (by decide)))
           rw [if_pos (by rfl)]
           have hF:=hK _ w' ⟨hv.put 2 2 20 rfl rfl rfl,hr.nil⟩
           clear hv hr ha hK hA hli;go_simp;exact hF
         · have gg2:=so hA 2 _ rfl
           simp only [List.getD_cons_succ,List.getD_cons_zero] at gg2
           have g20:=si hA 20 (hv.at 2 rfl (ha 2 (by decide)))
           have gg20:=slot_get g20
           rw [if_pos (by simp [Region.wanted,yielded,slot_bool g20])]
           have hF:=hK _ w' ⟨hv.put 3 3 21 rfl rfl rfl,hr.nil⟩
           clear hv hr ha hK hA hli;go_simp;exact hF
         · have gg21:=sj hA 21 (hv.at 3 rfl (ha 3 (by decide)))
           have g20:=si hA 20 (hv.at 2 rfl (ha 2 (by decide)))
           have gg20:=slot_get g20
           rw [if_pos (by simp [Region.wanted,yielded,slot_bool g20])]
           have x1':=(HKB.out w' hr.1).1
           have hF:=hK _ w' ⟨hv.put 4 4 22 rfl rfl rfl,hr.nil⟩
           clear hv hr ha hK hA hli;go_simp;exact hF
         · have gg5:=so hA 5 _ rfl
           simp only [List.getD_cons_succ,List.getD_cons_zero] at gg5
           have g20:=si hA 20 (hv.at 2 rfl (ha 2 (by decide)))
           have gg20:=slot_get g20
           rw [if_pos (by simp [Region.wanted,yielded,slot_bool g20])]
           have hF:=hK _ w' ⟨hv.put 5 5 23 rfl rfl rfl,hr.nil⟩
           clear hv hr ha hK hA hli;go_simp;exact hF
         · have gg22:=sj hA 22 (hv.at 4 rfl (ha 4 (by decide)))
           have gg23:=sj hA 23 (hv.at 5 rfl (ha 5 (by decide)))
           have g20:=si hA 20 (hv.at 2 rfl (ha 2 (by decide)))
           have gg20:=slot_get g20
           rw [if_pos (by simp [Region.wanted,yielded,slot_bool g20])]
           have hF:=hK _ w' ⟨hv.put 6 6 24 rfl rfl rfl,hr.nil⟩
           clear hv hr ha hK hA hli;go_simp;exact hF
         · have gg24:=sj hA 24 (hv.at 6 rfl (ha 6 (by decide)))
           have g20:=si hA 20 (hv.at 2 rfl (ha 2 (by decide)))
           have gg20:=slot_get g20
           rw [if_pos (by simp [Region.wanted,yielded,slot_bool g20])]
           have hF:=hK _ w' ⟨hv.put 7 7 25 rfl rfl rfl,hr.nil⟩
           clear hv hr ha hK hA hli;go_simp;exact hF
         · have gg25:=sj hA 25 (hv.at 7 rfl (ha 7 (by decide)))
           have g20:=si hA 20 (hv.at 2 rfl (ha 2 (by decide)))
           have gg20:=slot_get g20
           rw [if_pos (by simp [Region.wanted,yielded,slot_bool g20])]
           have g2':=(HKB.out w' hr.1).2.1
           have hF:=hK _ w' ⟨hv.put 8 8 26 rfl rfl rfl,hr.nil⟩
           clear hv hr ha hK hA hli;go_simp;exact hF
         · have gg3:=so hA 3 _ rfl
           simp only [List.getD_cons_succ,List.getD_cons_zero] at gg3
           have g20:=si hA 20 (hv.at 2 rfl (ha 2 (by decide)))
           have gg20:=slot_get g20
           rw [if_pos (by simp [Region.wanted,yielded,slot_bool g20])]
           have hF:=hK _ w' ⟨hv.put 9 9 27 rfl rfl rfl,hr.nil⟩
           clear hv hr ha hK hA hli;go_simp;exact hF
         · have gg27:=sj hA 27 (hv.at 9 rfl (ha 9 (by decide)))
           have g20:=si hA 20 (hv.at 2 rfl (ha 2 (by decide)))
           have gg20:=slot_get g20
           rw [if_pos (by simp [Region.wanted,yielded,slot_bool g20])]
           have y1':=(HKB.out w' hr.1).2.2
           have hF:=hK _ w' ⟨hv.put 10 10 28 rfl rfl rfl,hr.nil⟩
           clear hv hr ha hK hA hli;go_simp;exact hF
         · have gg26:=sj hA 26 (hv.at 8 rfl (ha 8 (by decide)))
           have gg28:=sj hA 28 (hv.at 10 rfl (ha 10 (by decide)))
           have g20:=si hA 20 (hv.at 2 rfl (ha 2 (by decide)))
           have gg20:=slot_get g20
           rw [if_pos (by simp [Region.wanted,yielded,slot_bool g20])]
           have hF:=hK _ w' ⟨hv.put 11 11 29 rfl rfl rfl,hr.nil⟩
           clear hv hr ha hK hA hli;go_simp;exact hF
         · have gg20:=sj hA 20 (hv.at 2 rfl (ha 2 (by decide)))
           have gg29:=sj hA 29 (hv.at 11 rfl (ha 11 (by decide)))
           rw [if_pos (by rfl)]
           have hF:=hK _ w' ⟨hv.put 12 12 30 rfl rfl rfl,hr.nil⟩
           clear hv hr ha hK hA hli;go_simp;exact hF
       · intro lz fz w5 hall ⟨hv,hq⟩
         have h30:=hv.at 12 rfl (hall 12 (by decide))
         have hbR:=hq.1
         clear hv hq hall
         simp only [mixF,List.contains_cons,List.contains_nil]
         go_simp
         have HBF:=Lib.hid (HB4.out.trans (hbR.mono HB4.out.size))
         clear hbR
         go_wp2_with fail
         go_ret
         exact ⟨by rw [HF.out,HE.out];rfl,HBF.out⟩
end Go.Proofs.YtpnjgmgmakmgeaaGreat
namespace Go.Proofs.YtpnjgmgmakmgeaaGreat
open Go.RowKit
set_option linter.unusedVariables false
set_option linter.unusedSimpArgs false
theorem results_treC {fn:Func} {p q:Tmp} (h:fn.results=#[.cell p 27,.cell q 29]) (tmps:Array Value) {F:World} {Z Y:Nat} (hp:tmps.getD p undef = .pointer (some ⟨Z,0,none⟩)) (hq:tmps.getD q undef = .pointer (some ⟨Y,0,none⟩)) {v1 v2 v3 u1 u2 u3:Value} (hc:TrAt F Z v1 v2 v3) (hd:TrAt F Y u1 u2 u3):(results fn tmps).run Tryz.prog F = .ok (.tuple #[.agg #[v1,v2,v3],.agg #[u1,u2,u3]]) F:=by
 have hp':tmps[p]?.getD undef = .pointer (some ⟨Z,0,none⟩):=by simpa using hp
 have hq':tmps[q]?.getD undef = .pointer (some ⟨Y,0,none⟩):=by simpa using hq
 obtain ⟨c0,c1,c2,-⟩:=hc
 obtain ⟨d0,d1,d2,-⟩:=hd
 simp [results,h,hp',hq',asAddr,go_sem,c0,c1,c2,d0,d1,d2]
def CtBd (s v g:Int):Prop:=(-1≤s∧s≤1000003)∧(-1≤v∧v≤1001)∧(-1≤g∧g≤16)
def DrawnTC (w:World) (en:Ending) (w':World):Prop :=
 ∃ b1 m1 d1 b2 m2 d2 b3 m3 d3 t s v g,en = .returned (.tuple #[.agg #[.slice b1 m1 d1,.slice b2 m2 d2,.slice b3 m3 d3],.agg #[.int .i64 s,.int .i64 v,.int .i64 g]])∧(∀ W,Below w'.heap.size w' W→TreRd W (.slice b1 m1 d1) (.slice b2 m2 d2) (.slice b3 m3 d3) t)∧TreSm t∧CtBd s v g∧Below w.heap.size w w'
structure TcSt (R P Z Y:Nat) (w0:World) (v1 v2 v3:Value) (l:Nat→Bool) (f:Nat→Value) (w:World):Prop where
 d3:l 3=true→l 2=true
 d4:l 4=true→l 0=true∧l 3=true
 d5:l 5=true→l 4=true
 a0:l 3=false→Upd R w0 w∧Rd w R P
 a1:l 3=true→∃ wa s v g,f 13 = .agg #[.int .i64 s,.int .i64 v,.int .i64 g]∧CtBd s v g∧Upd R w0 wa∧(l 4=false→w=wa)∧(l 4=true→l 5=false→w=set3b wa Z v1 v2 v3)∧(l 5=true→w=set3b (set3b wa Z v1 v2 v3) Y (.int .i64 s) (.int .i64 v) (.int .i64 g))
theorem TcSt.nothing {R P Z Y:Nat} {w0:World} {v1 v2 v3:Value} (f:Nat→Value) (h:Rd w0 R P):TcSt R P Z Y w0 v1 v2 v3 (fun _=>false) f w0.drew :=
 ⟨(fun h=>nomatch h),(fun h=>nomatch h),(fun h=>nomatch h),(fun _=>⟨(Upd.refl _ _).drew,h.drew⟩),(fun h=>nomatch h)⟩
theorem TcSt.upd {R P Z Y:Nat} {w0 w:World} {v1 v2 v3:Value} {l:Nat→Bool} {f:Nat→Value} (h:TcSt R P Z Y w0 v1 v2 v3 l f w) (h4:l 4=false):Upd R w0 w:=by
 cases e:l 3 with
 | false=>exact (h.a0 e).1
 | true=>obtain ⟨wa,s,v,g,-,-,hu,h0,-⟩:=h.a1 e;rw [h0 h4];exact hu
theorem TcSt.no4 {R P Z Y:Nat} {w0 w:World} {v1 v2 v3:Value} {l:Nat→Bool} {f:Nat→Value} (h:TcSt R P Z Y w0 v1 v2 v3 l f w) (hl:l 0=false∨l 2=false∨l 3=false):l 4=false:=by
 cases e:l 4 with
 | false=>rfl
 | true =>
  have h1:=h.d4 e
  have h2:=h.d3 h1.2
  rcases hl with hl | hl | hl <;> simp_all
theorem TcSt.load {R P Z Y:Nat} {w0 w:World} {v1 v2 v3:Value} {l:Nat→Bool} {f:Nat→Value} (h:TcSt R P Z Y w0 v1 v2 v3 l f w) (i d:Nat) (x:Value) (hi:i < 3) (hd:d≠13):TcSt R P Z Y w0 v1 v2 v3 (fun j=>j == i || l j) (fun s=>if some d=some s then x else f s) w:=by
 have e3:((3:Nat) == i)=false:=by simp;omega
 have e4:((4:Nat) == i)=false:=by simp;omega
 have e5:((5:Nat) == i)=false:=by simp;omega
 have ef:¬ (some d=some 13):=by simpa using hd
 refine ⟨fun e=>?_,fun e=>?_,fun e=>?_,fun e=>?_,fun e=>?_⟩
 · simp only [e3,Bool.false_or] at e;simp [h.d3 e]
 · simp only [e4,Bool.false_or] at e;simp [(h.d4 e).1,(h.d4 e).2]
 · simp only [e5,Bool.false_or] at e;simp [h.d5 e]
 · simp only [e3,Bool.false_or] at e;exact h.a0 e
 · simp only [e3,e4,e5,Bool.false_or] at e ⊢
   obtain ⟨wa,s,v,g,h1,h2⟩:=h.a1 e
   exact ⟨wa,s,v,g,by simp only [if_neg ef];exact h1,h2⟩
theorem TcSt.call {R P Z Y:Nat} {w0 w w':World} {v1 v2 v3:Value} {l:Nat→Bool} {f:Nat→Value} {s v g:Int} (h:TcSt R P Z Y w0 v1 v2 v3 l f w) (hl:l 3=false) (h2:l 2=true) (hb:CtBd s v g) (hu:Upd R w w'):TcSt R P Z Y w0 v1 v2 v3 (fun j=>j == 3 || l j) (fun x=>if some 13=some x then .agg #[.int .i64 s,.int .i64 v,.int .i64 g] else f x) w':=by
 have h4:=h.no4 (.inr (.inr hl))
 have h5:l 5=false:=by cases e:l 5 with | false=>rfl | true=>rw [h.d5 e] at h4;cases h4
 exact ⟨fun _=>by simp [h2],fun e=>by simp [h4] at e,fun e=>by simp [h5] at e,fun e=>by simp at e,fun _=>⟨w',s,v,g,by simp,hb,(h.a0 hl).1.trans hu,fun _=>rfl,fun e=>by simp [h4] at e,fun e=>by simp [h5] at e⟩⟩
theorem TcSt.st4 {R P Z Y:Nat} {w0 w:World} {v1 v2 v3:Value} {l:Nat→Bool} {f:Nat→Value} (x:Value) (h:TcSt R P Z Y w0 v1 v2 v3 l f w) (hl:l 4=false) (h0:l 0=true) (h3:l 3=true):Upd R w0 w∧TcSt R P Z Y w0 v1 v2 v3 (fun j=>j == 4 || l j) (fun s=>if none=some s then x else f s) (set3b w Z v1 v2 v3):=by
 have h5:l 5=false:=by cases e:l 5 with | false=>rfl | true=>rw [h.d5 e] at hl;cases hl
 refine ⟨h.upd hl,fun _=>by simpa using h.d3 h3,fun _=>by simp [h0,h3],fun e=>by simp,fun e=>by simp [h3] at e,fun _=>?_⟩
 obtain ⟨wa,s,v,g,h1,h2,hu,e0,-⟩:=h.a1 h3
 exact ⟨wa,s,v,g,by simpa using h1,h2,hu,fun e=>by simp at e,fun _ _=>by rw [e0 hl],fun e=>by simp [h5] at e⟩
theorem TcSt.st5 {R P Z Y:Nat} {w0 w:World} {v1 v2 v3:Value} {l:Nat→Bool} {f:Nat→Value} (x:Value) (h:TcSt R P Z Y w0 v1 v2 v3 l f w) (hl:l 5=false) (h4:l 4=true):∃ wa s v g,f 13 = .agg #[.int .i64 s,.int .i64 v,.int .i64 g]∧CtBd s v g∧Upd R w0 wa∧w=set3b wa Z v1 v2 v3∧TcSt R P Z Y w0 v1 v2 v3 (fun j=>j == 5 || l j) (fun s=>if none=some s then x else f s) (set3b w Y (.int .i64 s) (.int .i64 v) (.int .i64 g)):=by
 obtain ⟨h0,h3⟩:=h.d4 h4
 obtain ⟨wa,s,v,g,h1,h2,hu,-,e1,-⟩:=h.a1 h3
 have hw:=e1 h4 hl
 refine ⟨wa,s,v,g,h1,h2,hu,hw,fun _=>by simpa using h.d3 h3,fun _=>by simp [h0,h3],fun _=>by simp [h4],fun e=>by simp [h3] at e,fun _=>?_⟩
 exact ⟨wa,s,v,g,by simpa using h1,h2,hu,fun e=>by simp [h4] at e,fun _ e=>by simp at e,fun _=>by rw [hw]⟩
set_option maxRecDepth 100000 in
set_option maxHeartbeats 4000000 in
theorem drawCertBlock_any (a:Option Addr) (len cap:Nat) (z:List Int) (w:World) (h:RowB w a len z) (hlc:len≤cap) :
  Calls Tryz.prog 15 #[.slice a len cap] w (DrawnTC w):=by
 have hZ0:=(trAt_new w 27 (.slice none 0 0) (.slice none 0 0) (.slice none 0 0)).below ((Below.refl _ _).alloc (Nat.le_refl _) (.cells #[.int .i64 0,.int .i64 0,.int .i64 0] 29))
 have hY0:=trAt_new (w.alloc (.cells #[.slice none 0 0,.slice none 0 0,.slice none 0 0] 27)) 29 (.int .i64 0) (.int .i64 0) (.int .i64 0)
 rw [World.size_alloc] at hY0
 have hb0:=((Below.refl w.heap.size w).alloc (Nat.le_refl _) (.cells #[.slice none 0 0,.slice none 0 0,.slice none 0 0] 27)).alloc (by simp) (.cells #[.int .i64 0,.int .i64 0,.int .i64 0] 29)
 obtain ⟨w0,hw0⟩:∃ W1,W1=(w.alloc (.cells #[.slice none 0 0,.slice none 0 0,.slice none 0 0] 27)).alloc (.cells #[.int .i64 0,.int .i64 0,.int .i64 0] 29):=⟨_,rfl⟩
 have HW0:=Lib.hid hw0
 have hrb:RowB w0 a len z:=by rw [hw0];exact rowB_belowT h hb0
 rw [← hw0] at hb0 hZ0 hY0
 clear hw0 h
 have HB0:=Lib.hid hb0
 have HZ0:=Lib.hid hZ0
 have HY0:=Lib.hid hY0
 have HOP:=Lib.hid (open_any a len cap z w0 hrb hlc)
 clear hb0 hZ0 hY0 hrb
 go_enter Tryz.func15,Tryz.ntmps15
 go_upto_region 1 with (fail)
 rw [← HW0.out]
 clear HW0
 go_wp2_with fail
 refine HOP.out.mono ?_;rintro e w1 ⟨R,rfl,hR,hr1,hb1,hRl⟩
 have HR0:Hid (w.heap.size+1 < R∧R < w1.heap.size):=Lib.hid ⟨by have:=HY0.out.lt;omega,hr1.lt⟩
 have HB1:=Lib.hid (HB0.out.trans (hb1.mono HB0.out.size))
 have HZ1:=Lib.hid (HZ0.out.below hb1)
 have HY1:=Lib.hid (HY0.out.below hb1)
 clear HOP hb1 HB0 HZ0 HY0 hRl hR
 go_wp2_with fail
 refine (l20Tree_any R 0 12 _ hr1 (by omega) (by omega) (by omega)).mono ?_;rintro e w2 ⟨v1,v2,v3,t,rfl,hrd,hsm,hr2,hu2⟩
 obtain ⟨⟨b1,m1,d1,rfl,-⟩,⟨b2,m2,d2,rfl,-⟩,b3,m3,d3,rfl,-⟩:=hrd w2 (fun _ _ _ _=>rfl)
 have hln:=treRd_len (hrd w2 (fun _ _ _ _=>rfl))
 have HM:Hid (1≤m2∧m2≤14):=Lib.hid ⟨by have:=hsm.one;omega,by have:=hsm.most;omega⟩
 have HSM:=Lib.hid hsm
 go_upto_region 3 with (fail)
 generalize hw3:World.alloc _ _=w3
 have hT3:TrAt w3 w2.heap.size (.slice b1 m1 d1) (.slice b2 m2 d2) (.slice b3 m3 d3):=by rw [← hw3];exact trAt_new w2 _ _ _ _
 have hr3:Rd w3 R (0+4000):=by rw [← hw3];exact hr2.alloc _
 have hu3:Upd R w2 w3:=by rw [← hw3];exact (Upd.refl _ _).alloc _
 have HTR:=Lib.hid (fun (W:World) (hk:∀ k,w1.heap.size < k→k < w2.heap.size→k≠R→W.heap[k]? = w3.heap[k]?)=>hrd W (fun k hk0 hk1 hk2=>(hk k hk0 hk1 hk2).trans (hu3.block k hk1 (by simp;exact hk2))))
 have HU3:=Lib.hid (hu2.trans hu3)
 have hs2:=hu2.size
 have hs1:=HZ1.out.lt
 have hs1':=HY1.out.lt
 have hs23:w2.heap.size < w3.heap.size:=hT3.lt
 obtain ⟨T,hT⟩:∃ T,T=w2.heap.size:=⟨_,rfl⟩
 rw [← hT] at hT3 ⊢
 have hRR:=HR0.out
 have HTB:=Lib.hid (fun (W:World) (hu:Upd R w3 W)=>hT3.upd hu (by omega))
 have HZK:=Lib.hid (fun (W:World) (hu:Upd R w3 W)=>(⟨HZ1.out.upd (HU3.out.trans hu) (by omega),HY1.out.upd (HU3.out.trans hu) (by omega)⟩:TrAt W w.heap.size (.slice none 0 0) (.slice none 0 0) (.slice none 0 0)∧TrAt W (w.heap.size+1) (.int .i64 0) (.int .i64 0) (.int .i64 0)))
 have HFB:=Lib.hid (fun (W:World) (hu:Upd R w3 W)=>(HU3.out.trans hu).below HB1.out (by omega) (by omega))
 have HCT:=Lib.hid (fun (W:World) (hu:Upd R w3 W) (hr:Rd W R 4000)=>l20Cert_any R 4000 9 b1 m1 d1 b2 m2 d2 b3 m3 d3 t W hr (by omega) (by omega) (by omega) (fun W' hu'=>HTR.out W' (fun k hk0 hk1 hk2=>(hu.trans hu').block k (by omega) (by simp;exact hk2))) HM.out.1 HM.out.2)
 have hr3:Rd w3 R 4000:=hr3
 clear hw3 hT3 hu3 hrd hsm hln hu2 hr2 hr1 hT
 refine wp_region_light (by kernel_rfl) (fun lz fz wz=>Vals [(0,10,.agg #[.slice b1 m1 d1,.slice b2 m2 d2,.slice b3 m3 d3]),(1,11,.pointer (some ⟨R,0,none⟩)),(2,12,.agg #[.slice b1 m1 d1,.slice b2 m2 d2,.slice b3 m3 d3])] lz fz∧TcSt R 4000 w.heap.size (w.heap.size+1) w3 (.slice b1 m1 d1) (.slice b2 m2 d2) (.slice b3 m3 d3) lz fz wz) 14 rfl [10,11,12,13] (by kernel_rfl) (by kernel_rfl) (by kernel_rfl) (fun f=>⟨Vals.nothing _ f,TcSt.nothing f hr3⟩) ?_ ?_
 · intro i hi
   rcases (by have:i < 6:=hi;omega:i=0∨i=1∨i=2∨i=3∨i=4∨i=5) with rfl | rfl | rfl | rfl | rfl | rfl
   all_goals (clear hi;intro o ho lz fz w' A' ⟨hv',hr'⟩ hli ha hA' K hK;obtain rfl:=Option.some.inj ho;clear ho)
   · have g5:=slot_out hA' 5 _ (by decide) (by decide) rfl
     simp only [List.getD_cons_succ,List.getD_cons_zero] at g5
     have gg5:=slot_get g5
     rw [if_pos (by rfl)]
     obtain ⟨t0,t1,t2,-⟩:=HTB.out w' (hr'.upd (hr'.no4 (.inl hli)))
     have hF:=hK (.agg #[.slice b1 m1 d1,.slice b2 m2 d2,.slice b3 m3 d3]) w' ⟨hv'.step _ _ _ (by simp),hr'.load 0 10 _ (by decide) (by decide)⟩
     clear hv' hr' ha hK hA' hli
     go_simp
     exact hF
   · have g4:=slot_out hA' 4 _ (by decide) (by decide) rfl
     simp only [List.getD_cons_succ,List.getD_cons_zero] at g4
     have gg4:=slot_get g4
     rw [if_pos (by rfl)]
     have hF:=hK (.pointer (some ⟨R,0,none⟩)) w' ⟨hv'.step _ _ _ (by simp),hr'.load 1 11 _ (by decide) (by decide)⟩
     clear hv' hr' ha hK hA' hli
     go_simp
     exact hF
   · have g5:=slot_out hA' 5 _ (by decide) (by decide) rfl
     simp only [List.getD_cons_succ,List.getD_cons_zero] at g5
     have gg5:=slot_get g5
     rw [if_pos (by rfl)]
     obtain ⟨t0,t1,t2,-⟩:=HTB.out w' (hr'.upd (hr'.no4 (.inr (.inl hli))))
     have hF:=hK (.agg #[.slice b1 m1 d1,.slice b2 m2 d2,.slice b3 m3 d3]) w' ⟨hv'.step _ _ _ (by simp),hr'.load 2 12 _ (by decide) (by decide)⟩
     clear hv' hr' ha hK hA' hli
     go_simp
     exact hF
   · have g11:=slot_in hA' 11 (by decide) (by decide) (hv'.at 1 rfl (ha 1 (by decide)))
     have g12:=slot_in hA' 12 (by decide) (by decide) (hv'.at 2 rfl (ha 2 (by decide)))
     have gg11:=slot_get g11
     have gg12:=slot_get g12
     have l2:=ha 2 (by decide)
     rw [if_pos (by rfl)]
     clear hA'
     go_simp
     refine (HCT.out w' (hr'.a0 hli).1 (hr'.a0 hli).2).mono ?_
     rintro e9 w9 ⟨s9,v9,k9,rfl,hs9,hv9,hk9,-,hu9⟩
     exact hK _ w9 ⟨hv'.step _ _ _ (by simp),hr'.call hli l2 ⟨hs9,hv9,hk9⟩ hu9⟩
   · have g2:=slot_out hA' 2 _ (by decide) (by decide) rfl
     simp only [List.getD_cons_succ,List.getD_cons_zero] at g2
     have g10:=slot_in hA' 10 (by decide) (by decide) (hv'.at 0 rfl (ha 0 (by decide)))
     have gg2:=slot_get g2
     have gg10:=slot_get g10
     rw [if_pos (by rfl)]
     obtain ⟨hu4,h4⟩:=hr'.st4 undef hli (ha 0 (by decide)) (ha 3 (by decide))
     have hF:=hK undef _ ⟨hv'.stepN _ _ (by simp),h4⟩
     obtain ⟨⟨z0,z1,z2,zf0,zf1,zf2⟩,-⟩:=HZK.out w' hu4
     clear hv' hr' ha hK hA' hli h4 hu4
     unfold set3b at hF
     go_simp
     exact hF
   · obtain ⟨wa,s,v,g,hx13,hbd,hua,hwa,h5⟩:=hr'.st5 undef hli (ha 4 (by decide))
     have g3:=slot_out hA' 3 _ (by decide) (by decide) rfl
     simp only [List.getD_cons_succ,List.getD_cons_zero] at g3
     have g13:=slot_in hA' 13 (by decide) (by decide) hx13
     have gg3:=slot_get g3
     have gg13:=slot_get g13
     rw [if_pos (by rfl)]
     have hF:=hK undef _ ⟨hv'.stepN _ _ (by simp),h5⟩
     have hYk:=(HZK.out wa hua).2
     obtain ⟨z0,z1,z2,zf0,zf1,zf2⟩:TrAt w' (w.heap.size+1) (.int .i64 0) (.int .i64 0) (.int .i64 0):=by rw [hwa];exact hYk.keep ((set3b_turn wa w.heap.size (.slice b1 m1 d1) (.slice b2 m2 d2) (.slice b3 m3 d3)).block (w.heap.size+1) hYk.lt (by omega))
     clear hv' hr' ha hK hA' hli h5 hua hYk hwa hbd
     unfold set3b at hF
     go_simp
     exact hF
 · intro lz fz w' hall ⟨hv',hr'⟩
   obtain ⟨wa,s,v,g,-,hbd,hua,-,-,hw⟩:=hr'.a1 (hall 3 (by decide))
   have hwe:=hw (hall 5 (by decide))
   have hZa:=(HZK.out wa hua).1
   have hYa:=(HZK.out wa hua).2
   have hE1:TrAt w' w.heap.size (.slice b1 m1 d1) (.slice b2 m2 d2) (.slice b3 m3 d3):=by rw [hwe];exact (hZa.set3b (.slice b1 m1 d1) (.slice b2 m2 d2) (.slice b3 m3 d3)).keep ((set3b_turn _ (w.heap.size+1) (.int .i64 s) (.int .i64 v) (.int .i64 g)).block w.heap.size (by rw [set3b_size];exact hZa.lt) (by omega))
   have hE2:TrAt w' (w.heap.size+1) (.int .i64 s) (.int .i64 v) (.int .i64 g):=by rw [hwe];exact (hYa.keep ((set3b_turn wa w.heap.size (.slice b1 m1 d1) (.slice b2 m2 d2) (.slice b3 m3 d3)).block (w.heap.size+1) hYa.lt (by omega))).set3b (.int .i64 s) (.int .i64 v) (.int .i64 g)
   have hsw:w'.heap.size=wa.heap.size:=by rw [hwe,set3b_size,set3b_size]
   have hsa:=hua.size
   have hE3:DrawnTC w (.returned (.tuple #[.agg #[.slice b1 m1 d1,.slice b2 m2 d2,.slice b3 m3 d3],.agg #[.int .i64 s,.int .i64 v,.int .i64 g]])) w':=⟨b1,m1,d1,b2,m2,d2,b3,m3,d3,t,s,v,g,rfl,fun W hW=>HTR.out W (fun k hk0 hk1 hk2=>by
    rw [hW.block k (by omega),hwe,(set3b_turn (set3b wa w.heap.size (.slice b1 m1 d1) (.slice b2 m2 d2) (.slice b3 m3 d3)) (w.heap.size+1) (.int .i64 s) (.int .i64 v) (.int .i64 g)).block k (by rw [set3b_size];omega) (by omega),(set3b_turn wa w.heap.size (.slice b1 m1 d1) (.slice b2 m2 d2) (.slice b3 m3 d3)).block k (by omega) (by omega)]
    exact hua.block k (by omega) (by simp;exact hk2)),HSM.out,hbd,by rw [hwe];exact set3b_below (set3b_below (HFB.out wa hua) (Nat.le_refl _) _ _ _) (by omega) _ _ _⟩
   have HE:=Lib.hid (⟨hE1,hE2,hE3⟩ : _∧_∧_)
   clear hv' hr' hall hw hwe hZa hYa hE1 hE2 hE3 hsw hsa hua hbd
   simp only [mixF,List.contains_cons,List.contains_nil]
   go_simp
   go_wp2_with fail
   exact bodyPost_ret (results_treC Tryz.results15 _ (by rfl) (by rfl) HE.out.1 HE.out.2.1) rfl HE.out.2.2
end Go.Proofs.YtpnjgmgmakmgeaaGreat
namespace Go.Proofs.YtpnjgmgmakmgeaaGreat
open Go.RowKit
set_option linter.unusedVariables false
set_option linter.unusedSimpArgs false
theorem cbM_cases (t:Tre) (c:Crt):cbM t c = -1∨∃ k:Nat,k < t.blocks.length∧cbM t c=k∧cntB c=true∧blkSumM (blkAt t.blocks k)=c.sum∧(blkAt t.blocks k).view=c.view:=by
 cases ht:treB t with
 | false=>exact .inl (cbM_no ht)
 | true =>
  rw [cbM_yes ht]
  cases hc:cntB c with
  | false=>exact .inl (cbN_cnt hc)
  | true =>
   rcases findL_cases t.blocks c.sum with ⟨hf,-⟩ | ⟨k,hk,hf,-,hs⟩
   · exact .inl (cbN_none hf)
   · by_cases hv:(blkAt t.blocks k).view=c.view
     · exact .inr ⟨k,hk,cbN_yes hc hf hv,rfl,hs,hv⟩
     · exact .inl (cbN_view hf hv)
theorem cbM_none (t:Tre) (s v:Int):cbM t ⟨s,v,0⟩ = -1:=by
 have hc:cntB ⟨s,v,0⟩=false:=by simp [cntB,manyM]
 cases ht:treB t with
 | false=>exact cbM_no ht
 | true=>rw [cbM_yes ht];exact cbN_cnt hc
set_option maxRecDepth 100000 in
set_option maxHeartbeats 8000000 in
theorem lawCertBlock (a:Option Addr) (len cap:Nat) (z:List Int) (w:World) (h:RowB w a len z) (hc:a=none→cap=0) (hlc:len≤cap) :
  Calls Tryz.prog 3 #[.slice a len cap] w (LawTrue w):=by
 by_cases hs:len≤1048576
 · have hs':¬ (1048576:Int) < (len:Int):=by omega
   go_enter Tryz.func3,Tryz.ntmps3
   go_wp2_with fail
   refine (drawCertBlock_any a len cap z w h hlc).mono ?_;rintro e w1 ⟨b1,m1,d1,b2,m2,d2,b3,m3,d3,t,s,v,g,rfl,hrd,hsm,hbd,hb1⟩
   have HRD:=Lib.hid hrd
   have HB1:=Lib.hid hb1
   have HWS:Hid ((Lit.int .i64 s).wf=true):=Lib.hid (WalkArith.wf_i64 (by have:=hbd.1;omega))
   clear h hs hs' hc hlc hrd hb1 hsm hbd
   go_upto_region 4 with (fail)
   generalize hw2:World.alloc _ _=w2
   have hb2:Below w1.heap.size w1 w2:=by rw [← hw2];exact ((Below.refl _ _).alloc (Nat.le_refl _) _).alloc (by simp) _
   have hX2:TrAt w2 w1.heap.size (.slice b1 m1 d1) (.slice b2 m2 d2) (.slice b3 m3 d3):=by rw [← hw2];exact (trAt_new w1 _ _ _ _).below ((Below.refl _ _).alloc (Nat.le_refl _) _)
   have hC2:TrAt w2 (w1.heap.size+1) (.int .i64 s) (.int .i64 v) (.int .i64 g):=by
    have:=trAt_new (w1.alloc (.cells #[.slice b1 m1 d1,.slice b2 m2 d2,.slice b3 m3 d3] 27)) 29 (.int .i64 s) (.int .i64 v) (.int .i64 g)
    rw [World.size_alloc] at this
    rw [← hw2];exact this
   obtain ⟨Zt,hZt⟩:∃ Z,Z=w1.heap.size:=⟨_,rfl⟩
   obtain ⟨Zc,hZc⟩:∃ Z,Z=Zt+1:=⟨_,rfl⟩
   rw [← hZt,← hZc] at hC2
   rw [← hZt] at hX2
   have HK:=Lib.hid (fun (W:World) (hb:Below w2.heap.size w2 W)=>(⟨hX2.below hb,hC2.below hb,HRD.out W (hb2.trans (hb.mono hb2.size)),HB1.out.trans ((hb2.trans (hb.mono hb2.size)).mono HB1.out.size)⟩:TrAt W Zt (.slice b1 m1 d1) (.slice b2 m2 d2) (.slice b3 m3 d3)∧TrAt W Zc (.int .i64 s) (.int .i64 v) (.int .i64 g)∧TreRd W (.slice b1 m1 d1) (.slice b2 m2 d2) (.slice b3 m3 d3) t∧Below w.heap.size w W))
   rw [← hZt,← hZc]
   clear hw2 hb2 hX2 hC2 hZt hZc HRD HB1
   obtain ⟨m,hm⟩:∃ m,cbM t ⟨s,v,g⟩=m:=⟨_,rfl⟩
   have HM:=Lib.hid hm
   have hmm:(m != m)=false:=by simp
   clear hm
   obtain ⟨⟨z0,z1,z2,-⟩,⟨y0,y1,y2,-⟩,hr,-⟩:=HK.out w2 (Below.refl _ _)
   have HC:=Lib.hid (certBlock_impl _ _ _ t s v g w2 hr HWS.out)
   clear hr
   go_wp2_with fail
   refine HC.out.mono ?_;rintro e w3 ⟨rfl,hb3⟩
   rw [HM.out]
   have HB3:=Lib.hid hb3
   clear z0 z1 z2 y0 y1 y2 hb3 HC
   obtain ⟨⟨z0,z1,z2,-⟩,⟨y0,y1,y2,-⟩,hr,-⟩:=HK.out w3 HB3.out
   have HC:=Lib.hid (certBlock_spec _ _ _ t s v g w3 hr HWS.out)
   clear hr
   go_wp2_with fail
   refine HC.out.mono ?_;rintro e w4 ⟨rfl,hb4⟩
   rw [HM.out]
   have HB4:=Lib.hid (HB3.out.trans (hb4.mono HB3.out.size))
   clear z0 z1 z2 y0 y1 y2 hb4 HC HB3
   rcases cbM_cases t ⟨s,v,g⟩ with hc | ⟨k,hk,hc,hcn,hxs,hxv⟩
   · obtain rfl:m = -1:=by rw [← HM.out];exact hc
     clear hc
     go_wp2_with fail
     refine (alive_any w4).mono ?_;rintro e w5 ⟨rfl,hb5⟩
     have HBF:=Lib.hid ((HK.out w4 HB4.out).2.2.2.trans (hb5.mono (HK.out w4 HB4.out).2.2.2.size))
     clear hb5
     go_wp2
     go_ret
     exact ⟨rfl,HBF.out⟩
   · obtain rfl:m=(k:Int):=by rw [← HM.out];exact hc
     obtain ⟨-,-,hr4,-⟩:=HK.out w4 HB4.out
     have hr4':=hr4
     obtain ⟨-,⟨a2',n2',c2',e2,r2,-,-⟩,-⟩:=hr4'
     simp only [Value.slice.injEq] at e2
     obtain ⟨rfl,rfl,rfl⟩:=e2
     have hl2:t.blocks.length=m2:=r2.1
     have hkm:k < m2:=by omega
     obtain ⟨b,off,rfl,hbk⟩:=r2.at k hkm
     obtain ⟨x,hx⟩:∃ x,x=t.blocks.getD k noBlk:=⟨_,rfl⟩
     have hxe:blkAt t.blocks k=x:=hx.symm
     rw [← hx] at hbk
     rw [hxe] at hxs hxv
     obtain ⟨q0,q1,q2,⟨vv,q3,xa,xn,xc,rfl,ra,-⟩,q4,q5⟩:=hbk
     have HXS:=Lib.hid hxs
     have HXV:=Lib.hid hxv
     have HCN:=Lib.hid hcn
     have HC0:=Lib.hid (cbM_none t s v)
     have hkp:=fun (W:World) (hb:Below w4.heap.size w4 W) (o:Nat) (u:Value) (hq:w4.cell? ⟨b,o,none⟩=some u)=>(hb.cell (p:=⟨b,o,none⟩) (World.block_lt_of_cell? w4 ⟨b,o,none⟩ hq)).trans hq
     have HKB:=Lib.hid (fun (W:World) (hb:Below w4.heap.size w4 W)=>(⟨(HK.out W (HB4.out.trans (hb.mono HB4.out.size))).1,(HK.out W (HB4.out.trans (hb.mono HB4.out.size))).2.1,⟨hkp W hb _ _ q0,hkp W hb _ _ q1,hkp W hb _ _ q2,hkp W hb _ _ q3,hkp W hb _ _ q4,hkp W hb _ _ q5⟩,ra.below hb,(HK.out W (HB4.out.trans (hb.mono HB4.out.size))).2.2.1⟩:TrAt W Zt (.slice b1 m1 d1) (.slice (some ⟨b,off,none⟩) m2 d2) (.slice b3 m3 d3)∧TrAt W Zc (.int .i64 s) (.int .i64 v) (.int .i64 g)∧(W.cell? ⟨b,off+k*6,none⟩=some (.int .i64 x.bef)∧W.cell? ⟨b,off+k*6+1,none⟩=some (.int .i64 x.hgt)∧W.cell? ⟨b,off+k*6+2,none⟩=some (.int .i64 x.view)∧W.cell? ⟨b,off+k*6+3,none⟩=some (.slice xa xn xc)∧W.cell? ⟨b,off+k*6+4,none⟩=some (.int .i64 x.root)∧W.cell? ⟨b,off+k*6+5,none⟩=some (.int .i64 x.effs))∧RowA W xa xn x.acts∧TreRd W (.slice b1 m1 d1) (.slice (some ⟨b,off,none⟩) m2 d2) (.slice b3 m3 d3) t))
     have HEND:=Lib.hid (fun (W:World) (hb:Below w4.heap.size w4 W)=>(HK.out W (HB4.out.trans (hb.mono HB4.out.size))).2.2.2)
     clear hkp q0 q1 q2 q3 q4 q5 ra hx hxe hxs hxv hcn hc hk hr4 r2 hl2
     go_upto_region 9 with (fail)
     refine wp_region_light (by kernel_rfl) (fun lz fz wz=>Vals [(0,29,(.int .i64 (k:Int))),(1,30,(.pointer (some ⟨Zt,1,none⟩))),(2,31,(.slice (some ⟨b,off,none⟩) m2 d2)),(3,32,(.int .i64 (m2:Int))),(4,33,(.bool true)),(5,34,(.bool true)),(6,35,(.pointer (some ⟨Zt,1,none⟩))),(7,36,(.slice (some ⟨b,off,none⟩) m2 d2)),(8,37,(.int .i64 (k:Int))),(9,38,(.pointer (some ⟨b,off+k*6,none⟩))),(10,39,(.agg #[.int .i64 x.bef,.int .i64 x.hgt,.int .i64 x.view,.slice xa xn xc,.int .i64 x.root,.int .i64 x.effs])),(11,40,(.int .i64 s)),(12,41,(.pointer (some ⟨Zc,0,none⟩))),(13,42,(.int .i64 s)),(14,43,(.bool true)),(15,44,(.bool true)),(16,45,(.bool true)),(17,46,(.pointer (some ⟨Zt,1,none⟩))),(18,47,(.slice (some ⟨b,off,none⟩) m2 d2)),(19,48,(.int .i64 (k:Int))),(20,49,(.pointer (some ⟨b,off+k*6,none⟩))),(21,50,(.pointer (some ⟨b,off+k*6+2,none⟩))),(22,51,(.int .i64 v)),(23,52,(.pointer (some ⟨Zc,1,none⟩))),(24,53,(.int .i64 v)),(25,54,(.bool true)),(26,55,(.bool true)),(27,56,(.bool true)),(28,57,(.agg #[.int .i64 s,.int .i64 v,.int .i64 g])),(29,58,(.bool true)),(30,59,(.bool true)),(31,60,(.bool true)),(32,61,(.agg #[.slice b1 m1 d1,.slice (some ⟨b,off,none⟩) m2 d2,.slice b3 m3 d3])),(33,62,(.pointer (some ⟨Zc,0,none⟩))),(34,63,(.int .i64 s)),(35,64,(.pointer (some ⟨Zc,1,none⟩))),(36,65,(.int .i64 v)),(37,66,(.agg #[.int .i64 s,.int .i64 v,.int .i64 0])),(38,67,(.int .i64 (-1))),(39,68,(.bool true)),(40,69,(.bool true)),(41,2,(.bool true))] lz fz∧Facts w4 [] lz fz wz) 70 rfl [29,30,31,32,33,34,35,36,37,38,39,40,41,42,43,44,45,46,47,48,49,50,51,52,53,54,55,56,57,58,59,60,61,62,63,64,65,66,67,68,69,2] (by kernel_rfl) (by kernel_rfl) (by kernel_rfl) (fun f=>⟨Vals.nothing _ f,Facts.nothing _ _ f⟩) ?_ ?_
     · intro i hi
       rcases (by have:i < 42:=hi;omega:i=0∨i=1∨i=2∨i=3∨i=4∨i=5∨i=6∨i=7∨i=8∨i=9∨i=10∨i=11∨i=12∨i=13∨i=14∨i=15∨i=16∨i=17∨i=18∨i=19∨i=20∨i=21∨i=22∨i=23∨i=24∨i=25∨i=26∨i=27∨i=28∨i=29∨i=30∨i=31∨i=32∨i=33∨i=34∨i=35∨i=36∨i=37∨i=38∨i=39∨i=40∨i=41) with rfl | rfl | rfl | rfl | rfl | rfl | rfl | rfl | rfl | rfl | rfl | rfl | rfl | rfl | rfl | rfl | rfl | rfl | rfl | rfl | rfl | rfl | rfl | rfl | rfl | rfl | rfl | rfl | rfl | rfl | rfl | rfl | rfl | rfl | rfl | rfl | rfl | rfl | rfl | rfl | rfl | rfl
       all_goals (clear hi;intro o ho lz fz w' A ⟨hv,hr⟩ hli ha hA K hK;obtain rfl:=Option.some.inj ho;clear ho)
       · have gg5:=so hA 5 _ rfl
         simp only [List.getD_cons_succ,List.getD_cons_zero] at gg5
         rw [if_pos (by rfl)]
         have hF:=hK _ w' ⟨hv.put 0 0 29 rfl rfl rfl,hr.nil⟩
         clear hv hr ha hK hA hli;go_simp;exact hF
       · have gg3:=so hA 3 _ rfl
         simp only [List.getD_cons_succ,List.getD_cons_zero] at gg3
         rw [if_pos (by rfl)]
         have hF:=hK _ w' ⟨hv.put 1 1 30 rfl rfl rfl,hr.nil⟩
         clear hv hr ha hK hA hli;go_simp;exact hF
       · have gg30:=sj hA 30 (hv.at 1 rfl (ha 1 (by decide)))
         rw [if_pos (by rfl)]
         obtain ⟨⟨z0,z1,z2,-⟩,-⟩:=HKB.out w' hr.1
         have hF:=hK _ w' ⟨hv.put 2 2 31 rfl rfl rfl,hr.nil⟩
         clear hv hr ha hK hA hli;go_simp;exact hF
       · have gg31:=sj hA 31 (hv.at 2 rfl (ha 2 (by decide)))
         rw [if_pos (by rfl)]
         have hF:=hK _ w' ⟨hv.put 3 3 32 rfl rfl rfl,hr.nil⟩
         clear hv hr ha hK hA hli;go_simp;exact hF
       · have gg29:=sj hA 29 (hv.at 0 rfl (ha 0 (by decide)))
         have gg32:=sj hA 32 (hv.at 3 rfl (ha 3 (by decide)))
         rw [if_pos (by rfl)]
         have hF:=hK _ w' ⟨hv.put 4 4 33 rfl rfl rfl,hr.nil⟩
         clear hv hr ha hK hA hli;go_simp;exact hF
       · have gg33:=sj hA 33 (hv.at 4 rfl (ha 4 (by decide)))
         rw [if_pos (by rfl)]
         have hF:=hK _ w' ⟨hv.put 5 5 34 rfl rfl rfl,hr.nil⟩
         clear hv hr ha hK hA hli;go_simp;exact hF
       · have gg3:=so hA 3 _ rfl
         simp only [List.getD_cons_succ,List.getD_cons_zero] at gg3
         have g34:=si hA 34 (hv.at 5 rfl (ha 5 (by decide)))
         have gg34:=slot_get g34
         rw [if_pos (by simp [Region.wanted,yielded,slot_bool g34])]
         have hF:=hK _ w' ⟨hv.put 6 6 35 rfl rfl rfl,hr.nil⟩
         clear hv hr ha hK hA hli;go_simp;exact hF
       · have gg35:=sj hA 35 (hv.at 6 rfl (ha 6 (by decide)))
         have g34:=si hA 34 (hv.at 5 rfl (ha 5 (by decide)))
         have gg34:=slot_get g34
         rw [if_pos (by simp [Region.wanted,yielded,slot_bool g34])]
         obtain ⟨⟨z0,z1,z2,-⟩,-⟩:=HKB.out w' hr.1
         have hF:=hK _ w' ⟨hv.put 7 7 36 rfl rfl rfl,hr.nil⟩
         clear hv hr ha hK hA hli;go_simp;exact hF
       · have gg5:=so hA 5 _ rfl
         simp only [List.getD_cons_succ,List.getD_cons_zero] at gg5
         have g34:=si hA 34 (hv.at 5 rfl (ha 5 (by decide)))
         have gg34:=slot_get g34
         rw [if_pos (by simp [Region.wanted,yielded,slot_bool g34])]
         have hF:=hK _ w' ⟨hv.put 8 8 37 rfl rfl rfl,hr.nil⟩
         clear hv hr ha hK hA hli;go_simp;exact hF
       · have gg36:=sj hA 36 (hv.at 7 rfl (ha 7 (by decide)))
         have gg37:=sj hA 37 (hv.at 8 rfl (ha 8 (by decide)))
         have g34:=si hA 34 (hv.at 5 rfl (ha 5 (by decide)))
         have gg34:=slot_get g34
         rw [if_pos (by simp [Region.wanted,yielded,slot_bool g34])]
         have hF:=hK _ w' ⟨hv.put 9 9 38 rfl rfl rfl,hr.nil⟩
         clear hv hr ha hK hA hli;go_simp;exact hF
       · have gg38:=sj hA 38 (hv.at 9 rfl (ha 9 (by decide)))
         have g34:=si hA 34 (hv.at 5 rfl (ha 5 (by decide)))
         have gg34:=slot_get g34
         rw [if_pos (by simp [Region.wanted,yielded,slot_bool g34])]
         obtain ⟨-,-,⟨q0,q1,q2,q3,q4,q5⟩,-⟩:=HKB.out w' hr.1
         have hF:=hK _ w' ⟨hv.put 10 10 39 rfl rfl rfl,hr.nil⟩
         clear hv hr ha hK hA hli;go_simp;exact hF
       · have gg39:=sj hA 39 (hv.at 10 rfl (ha 10 (by decide)))
         have g34:=si hA 34 (hv.at 5 rfl (ha 5 (by decide)))
         have gg34:=slot_get g34
         rw [if_pos (by simp [Region.wanted,yielded,slot_bool g34])]
         clear hA
         go_simp
         refine (blockSum_implV x xa xn xc w' (HKB.out w' hr.1).2.2.2.1).mono ?_
         rintro e9 w9 ⟨rfl,hb9⟩
         rw [HXS.out]
         exact hK (.int .i64 s) w9 ⟨hv.step 11 40 _ (by simp),hr.step 11 40 _ hb9 (by simp)⟩
       · have gg4:=so hA 4 _ rfl
         simp only [List.getD_cons_succ,List.getD_cons_zero] at gg4
         have g34:=si hA 34 (hv.at 5 rfl (ha 5 (by decide)))
         have gg34:=slot_get g34
         rw [if_pos (by simp [Region.wanted,yielded,slot_bool g34])]
         have hF:=hK _ w' ⟨hv.put 12 12 41 rfl rfl rfl,hr.nil⟩
         clear hv hr ha hK hA hli;go_simp;exact hF
       · have gg41:=sj hA 41 (hv.at 12 rfl (ha 12 (by decide)))
         have g34:=si hA 34 (hv.at 5 rfl (ha 5 (by decide)))
         have gg34:=slot_get g34
         rw [if_pos (by simp [Region.wanted,yielded,slot_bool g34])]
         obtain ⟨-,⟨y0,y1,y2,-⟩,-⟩:=HKB.out w' hr.1
         have hF:=hK _ w' ⟨hv.put 13 13 42 rfl rfl rfl,hr.nil⟩
         clear hv hr ha hK hA hli;go_simp;exact hF
       · have gg40:=sj hA 40 (hv.at 11 rfl (ha 11 (by decide)))
         have gg42:=sj hA 42 (hv.at 13 rfl (ha 13 (by decide)))
         have g34:=si hA 34 (hv.at 5 rfl (ha 5 (by decide)))
         have gg34:=slot_get g34
         rw [if_pos (by simp [Region.wanted,yielded,slot_bool g34])]
         have hF:=hK _ w' ⟨hv.put 14 14 43 rfl rfl rfl,hr.nil⟩
         clear hv hr ha hK hA hli;go_simp;exact hF
       · have gg34:=sj hA 34 (hv.at 5 rfl (ha 5 (by decide)))
         have gg43:=sj hA 43 (hv.at 14 rfl (ha 14 (by decide)))
         rw [if_pos (by rfl)]
         have hF:=hK _ w' ⟨hv.put 15 15 44 rfl rfl rfl,hr.nil⟩
         clear hv hr ha hK hA hli;go_simp;exact hF
       · have gg44:=sj hA 44 (hv.at 15 rfl (ha 15 (by decide)))
         rw [if_pos (by rfl)]
         have hF:=hK _ w' ⟨hv.put 16 16 45 rfl rfl rfl,hr.nil⟩
         clear hv hr ha hK hA hli;go_simp;exact hF
       · have gg3:=so hA 3 _ rfl
         simp only [List.getD_cons_succ,List.getD_cons_zero] at gg3
         have g45:=si hA 45 (hv.at 16 rfl (ha 16 (by decide)))
         have gg45:=slot_get g45
         rw [if_pos (by simp [Region.wanted,yielded,slot_bool g45])]
         have hF:=hK _ w' ⟨hv.put 17 17 46 rfl rfl rfl,hr.nil⟩
         clear hv hr ha hK hA hli;go_simp;exact hF
       · have gg46:=sj hA 46 (hv.at 17 rfl (ha 17 (by decide)))
         have g45:=si hA 45 (hv.at 16 rfl (ha 16 (by decide)))
         have gg45:=slot_get g45
         rw [if_pos (by simp [Region.wanted,yielded,slot_bool g45])]
         obtain ⟨⟨z0,z1,z2,-⟩,-⟩:=HKB.out w' hr.1
         have hF:=hK _ w' ⟨hv.put 18 18 47 rfl rfl rfl,hr.nil⟩
         clear hv hr ha hK hA hli;go_simp;exact hF
       · have gg5:=so hA 5 _ rfl
         simp only [List.getD_cons_succ,List.getD_cons_zero] at gg5
         have g45:=si hA 45 (hv.at 16 rfl (ha 16 (by decide)))
         have gg45:=slot_get g45
         rw [if_pos (by simp [Region.wanted,yielded,slot_bool g45])]
         have hF:=hK _ w' ⟨hv.put 19 19 48 rfl rfl rfl,hr.nil⟩
         clear hv hr ha hK hA hli;go_simp;exact hF
       · have gg47:=sj hA 47 (hv.at 18 rfl (ha 18 (by decide)))
         have gg48:=sj hA 48 (hv.at 19 rfl (ha 19 (by decide)))
         have g45:=si hA 45 (hv.at 16 rfl (ha 16 (by decide)))
         have gg45:=slot_get g45
         rw [if_pos (by simp [Region.wanted,yielded,slot_bool g45])]
         have hF:=hK _ w' ⟨hv.put 20 20 49 rfl rfl rfl,hr.nil⟩
         clear hv hr ha hK hA hli;go_simp;exact hF
       · have gg49:=sj hA 49 (hv.at 20 rfl (ha 20 (by decide)))
         have g45:=si hA 45 (hv.at 16 rfl (ha 16 (by decide)))
         have gg45:=slot_get g45
         rw [if_pos (by simp [Region.wanted,yielded,slot_bool g45])]
         have hF:=hK _ w' ⟨hv.put 21 21 50 rfl rfl rfl,hr.nil⟩
         clear hv hr ha hK hA hli;go_simp;exact hF
       · have gg50:=sj hA 50 (hv.at 21 rfl (ha 21 (by decide)))
         have g45:=si hA 45 (hv.at 16 rfl (ha 16 (by decide)))
         have gg45:=slot_get g45
         rw [if_pos (by simp [Region.wanted,yielded,slot_bool g45])]
         obtain ⟨-,-,⟨-,-,q2,-,-,-⟩,-⟩:=HKB.out w' hr.1
         rw [HXV.out] at q2
         have hF:=hK _ w' ⟨hv.put 22 22 51 rfl rfl rfl,hr.nil⟩
         clear hv hr ha hK hA hli;go_simp;exact hF
       · have gg4:=so hA 4 _ rfl
         simp only [List.getD_cons_succ,List.getD_cons_zero] at gg4
         have g45:=si hA 45 (hv.at 16 rfl (ha 16 (by decide)))
         have gg45:=slot_get g45
         rw [if_pos (by simp [Region.wanted,yielded,slot_bool g45])]
         have hF:=hK _ w' ⟨hv.put 23 23 52 rfl rfl rfl,hr.nil⟩
         clear hv hr ha hK hA hli;go_simp;exact hF
       · have gg52:=sj hA 52 (hv.at 23 rfl (ha 23 (by decide)))
         have g45:=si hA 45 (hv.at 16 rfl (ha 16 (by decide)))
         have gg45:=slot_get g45
         rw [if_pos (by simp [Region.wanted,yielded,slot_bool g45])]
         obtain ⟨-,⟨y0,y1,y2,-⟩,-⟩:=HKB.out w' hr.1
         have hF:=hK _ w' ⟨hv.put 24 24 53 rfl rfl rfl,hr.nil⟩
         clear hv hr ha hK hA hli;go_simp;exact hF
       · have gg51:=sj hA 51 (hv.at 22 rfl (ha 22 (by decide)))
         have gg53:=sj hA 53 (hv.at 24 rfl (ha 24 (by decide)))
         have g45:=si hA 45 (hv.at 16 rfl (ha 16 (by decide)))
         have gg45:=slot_get g45
         rw [if_pos (by simp [Region.wanted,yielded,slot_bool g45])]
         have hF:=hK _ w' ⟨hv.put 25 25 54 rfl rfl rfl,hr.nil⟩
         clear hv hr ha hK hA hli;go_simp;exact hF
       · have gg45:=sj hA 45 (hv.at 16 rfl (ha 16 (by decide)))
         have gg54:=sj hA 54 (hv.at 25 rfl (ha 25 (by decide)))
         rw [if_pos (by rfl)]
         have hF:=hK _ w' ⟨hv.put 26 26 55 rfl rfl rfl,hr.nil⟩
         clear hv hr ha hK hA hli;go_simp;exact hF
       · have gg55:=sj hA 55 (hv.at 26 rfl (ha 26 (by decide)))
         rw [if_pos (by rfl)]
         have hF:=hK _ w' ⟨hv.put 27 27 56 rfl rfl rfl,hr.nil⟩
         clear hv hr ha hK hA hli;go_simp;exact hF
       · have gg4:=so hA 4 _ rfl
         simp only [List.getD_cons_succ,List.getD_cons_zero] at gg4
         have g56:=si hA 56 (hv.at 27 rfl (ha 27 (by decide)))
         have gg56:=slot_get g56
         rw [if_pos (by simp [Region.wanted,yielded,slot_bool g56])]
         obtain ⟨-,⟨y0,y1,y2,-⟩,-⟩:=HKB.out w' hr.1
         have hF:=hK _ w' ⟨hv.put 28 28 57 rfl rfl rfl,hr.nil⟩
         clear hv hr ha hK hA hli;go_simp;exact hF
       · have gg57:=sj hA 57 (hv.at 28 rfl (ha 28 (by decide)))
         have g56:=si hA 56 (hv.at 27 rfl (ha 27 (by decide)))
         have gg56:=slot_get g56
         rw [if_pos (by simp [Region.wanted,yielded,slot_bool g56])]
         clear hA
         go_simp
         refine (certCounts_impl s v g w').mono ?_
         rintro e9 w9 ⟨rfl,hb9⟩
         rw [HCN.out]
         exact hK (.bool true) w9 ⟨hv.step 29 58 _ (by simp),hr.step 29 58 _ hb9 (by simp)⟩
       · have gg56:=sj hA 56 (hv.at 27 rfl (ha 27 (by decide)))
         have gg58:=sj hA 58 (hv.at 29 rfl (ha 29 (by decide)))
         rw [if_pos (by rfl)]
         have hF:=hK _ w' ⟨hv.put 30 30 59 rfl rfl rfl,hr.nil⟩
         clear hv hr ha hK hA hli;go_simp;exact hF
       · have gg59:=sj hA 59 (hv.at 30 rfl (ha 30 (by decide)))
         rw [if_pos (by rfl)]
         have hF:=hK _ w' ⟨hv.put 31 31 60 rfl rfl rfl,hr.nil⟩
         clear hv hr ha hK hA hli;go_simp;exact hF
       · have gg3:=so hA 3 _ rfl
         simp only [List.getD_cons_succ,List.getD_cons_zero] at gg3
         have g60:=si hA 60 (hv.at 31 rfl (ha 31 (by decide)))
         have gg60:=slot_get g60
         rw [if_pos (by simp [Region.wanted,yielded,slot_bool g60])]
         obtain ⟨⟨z0,z1,z2,-⟩,-⟩:=HKB.out w' hr.1
         have hF:=hK _ w' ⟨hv.put 32 32 61 rfl rfl rfl,hr.nil⟩
         clear hv hr ha hK hA hli;go_simp;exact hF
       · have gg4:=so hA 4 _ rfl
         simp only [List.getD_cons_succ,List.getD_cons_zero] at gg4
         have g60:=si hA 60 (hv.at 31 rfl (ha 31 (by decide)))
         have gg60:=slot_get g60
         rw [if_pos (by simp [Region.wanted,yielded,slot_bool g60])]
         have hF:=hK _ w' ⟨hv.put 33 33 62 rfl rfl rfl,hr.nil⟩
         clear hv hr ha hK hA hli;go_simp;exact hF
       · have gg62:=sj hA 62 (hv.at 33 rfl (ha 33 (by decide)))
         have g60:=si hA 60 (hv.at 31 rfl (ha 31 (by decide)))
         have gg60:=slot_get g60
         rw [if_pos (by simp [Region.wanted,yielded,slot_bool g60])]
         obtain ⟨-,⟨y0,y1,y2,-⟩,-⟩:=HKB.out w' hr.1
         have hF:=hK _ w' ⟨hv.put 34 34 63 rfl rfl rfl,hr.nil⟩
         clear hv hr ha hK hA hli;go_simp;exact hF
       · have gg4:=so hA 4 _ rfl
         simp only [List.getD_cons_succ,List.getD_cons_zero] at gg4
         have g60:=si hA 60 (hv.at 31 rfl (ha 31 (by decide)))
         have gg60:=slot_get g60
         rw [if_pos (by simp [Region.wanted,yielded,slot_bool g60])]
         have hF:=hK _ w' ⟨hv.put 35 35 64 rfl rfl rfl,hr.nil⟩
         clear hv hr ha hK hA hli;go_simp;exact hF
       · have gg64:=sj hA 64 (hv.at 35 rfl (ha 35 (by decide)))
         have g60:=si hA 60 (hv.at 31 rfl (ha 31 (by decide)))
         have gg60:=slot_get g60
         rw [if_pos (by simp [Region.wanted,yielded,slot_bool g60])]
         obtain ⟨-,⟨y0,y1,y2,-⟩,-⟩:=HKB.out w' hr.1
         have hF:=hK _ w' ⟨hv.put 36 36 65 rfl rfl rfl,hr.nil⟩
         clear hv hr ha hK hA hli;go_simp;exact hF
       · have gg63:=sj hA 63 (hv.at 34 rfl (ha 34 (by decide)))
         have gg65:=sj hA 65 (hv.at 36 rfl (ha 36 (by decide)))
         have g60:=si hA 60 (hv.at 31 rfl (ha 31 (by decide)))
         have gg60:=slot_get g60
         rw [if_pos (by simp [Region.wanted,yielded,slot_bool g60])]
         have hF:=hK _ w' ⟨hv.put 37 37 66 rfl rfl rfl,hr.nil⟩
         clear hv hr ha hK hA hli;go_simp;exact hF
       · have gg61:=sj hA 61 (hv.at 32 rfl (ha 32 (by decide)))
         have gg66:=sj hA 66 (hv.at 37 rfl (ha 37 (by decide)))
         have g60:=si hA 60 (hv.at 31 rfl (ha 31 (by decide)))
         have gg60:=slot_get g60
         rw [if_pos (by simp [Region.wanted,yielded,slot_bool g60])]
         clear hA
         go_simp
         refine (certBlock_impl _ _ _ t s v 0 w' (HKB.out w' hr.1).2.2.2.2 HWS.out).mono ?_
         rintro e9 w9 ⟨rfl,hb9⟩
         rw [HC0.out]
         exact hK (.int .i64 (-1)) w9 ⟨hv.step 38 67 _ (by simp),hr.step 38 67 _ hb9 (by simp)⟩
       · have gg67:=sj hA 67 (hv.at 38 rfl (ha 38 (by decide)))
         have g60:=si hA 60 (hv.at 31 rfl (ha 31 (by decide)))
         have gg60:=slot_get g60
         rw [if_pos (by simp [Region.wanted,yielded,slot_bool g60])]
         have hF:=hK _ w' ⟨hv.put 39 39 68 rfl rfl rfl,hr.nil⟩
         clear hv hr ha hK hA hli;go_simp;exact hF
       · have gg60:=sj hA 60 (hv.at 31 rfl (ha 31 (by decide)))
         have gg68:=sj hA 68 (hv.at 39 rfl (ha 39 (by decide)))
         rw [if_pos (by rfl)]
         have hF:=hK _ w' ⟨hv.put 40 40 69 rfl rfl rfl,hr.nil⟩
         clear hv hr ha hK hA hli;go_simp;exact hF
       · have gg69:=sj hA 69 (hv.at 40 rfl (ha 40 (by decide)))
         rw [if_pos (by rfl)]
         have hF:=hK _ w' ⟨hv.put 41 41 2 rfl rfl rfl,hr.nil⟩
         clear hv hr ha hK hA hli;go_simp;exact hF
     · intro lz fz w5 hall ⟨hv,hq⟩
       have h2:=hv.at 41 rfl (hall 41 (by decide))
       have hbR:=hq.1
       clear hv hq hall
       simp only [mixF,List.contains_cons,List.contains_nil]
       go_simp
       have HBF:=Lib.hid (HEND.out w5 hbR)
       clear hbR
       go_wp2
       go_ret
       exact ⟨by first | rfl | exact congrArg Ending.returned h2,HBF.out⟩
 · have hs':(1048576:Int) < (len:Int):=by omega
   clear h hlc
   go_enter Tryz.func3,Tryz.ntmps3
   go_wp2
   go_ret
   exact ⟨rfl,Below.refl _ _⟩
end Go.Proofs.YtpnjgmgmakmgeaaGreat
namespace Go.Proofs.YtpnjgmgmakmgeaaGreat.fnCertBlock
open Go.ChangeShapes Go.WideShapes Go.ChangeAt Go.RowKit
set_option linter.unusedVariables false

theorem own : ownKnob Tryz.prog.godebug = none := by kernel_rfl
theorem laidOut : laidOutB Tryz.prog = true := by kernel_rfl

set_option maxRecDepth 100000 in
theorem lifted (os : Os) (started : os.Started) (H : Type) (enc : TypeId × Value → H) :
    ReturnsInHanded {} Tryz.checked os 3 .any (Rows.fnCertBlockSpec.pre6 enc Tryz.prog Tryz.f3 Rows.fnCertBlockRow.domain false) (Rows.fnCertBlockSpec.post enc Tryz.prog Tryz.f3 false true false false) := by
  refine returnsInHanded_of_change (C := Tryz.checked) own started (by kernel_rfl) Tryz.func3
    (ChangeSpec.witness6 (enc := enc) (C := Tryz.checked) false ⟨#[], #[.slice none 0 0], []⟩ 8 (by kernel_rfl) (by kernel_rfl) (by kernel_rfl) (by kernel_rfl)) ?_
  intro W base args ds gs before hval0 hW hcnd _
  have hval : ∀ (j : Nat) t v, Tryz.f3.params[j]? = some t → args[j]? = some v → Value.okWide Tryz.prog W .any base t v := hval0
  have hW' := hW
  obtain ⟨p, q, hA0, hV, rfl, hfz, hnd⟩ := hW
  have hA : DataW.TrodAll enc Tryz.prog W 0 (fun _ => true) true Tryz.f3.params.toList args.toList ds p := hA0
  rw [Tryz.params3] at hA hval
  obtain ⟨v0, vs0, d0, ds0, p0, q0, hargs, rfl, rfl, h0, r0⟩ := trodAll_cons hA
  obtain ⟨rfl, rfl, rfl⟩ := trodAll_nil r0
  obtain rfl : args = #[v0] := by cases args; simp_all
  obtain ⟨rfl, rfl⟩ := trodVars_none hV
  obtain ⟨a0, len0, cap0, rfl⟩ := okWide_slice Tryz.underlying22 (hval 0 22 v0 rfl rfl)
  have k0 := h0
  have lt0 : ∀ x ∈ p0, x.block < W.heap.size := by obtain ⟨m, hm⟩ := k0; exact DataW.trod_lt m _ _ _ hm
  obtain ⟨z0, w0, cz0, lc0⟩ := in_rowB h0
  clear hA0 hval0
  refine (lawCertBlock a0 len0 cap0 z0 W w0 cz0 lc0).mono fun e W' ⟨he, bel⟩ => ?_
  subst he
  exact ⟨_, rfl, _, _, _, [], _, [], hW', trodAll_mk1 (shut_bool Tryz.underlying4 _), (trodAll_cons_mk (Below.trod laidOut (by kernel_rfl) (of_decide_eq_true (by kernel_rfl)) k0 bel lt0) trodAll_mk0), rfl, bel.frame _, fun h => by cases h⟩

set_option maxRecDepth 1000000 in
set_option maxHeartbeats 40000000 in
theorem closed : joinedFacts Tryz.pinned.checked.prog 3 Tryz.f3 Rows.fnCertBlockSpec Rows.fnCertBlockRow = true := by
  unfold joinedFacts
  repeat' (with_reducible refine (Bool.and_eq_true _ _).mpr ⟨?_, ?_⟩)
  all_goals (as_aux_lemma => kernel_rfl)

theorem over : Rows.fnCertBlockRow.holds Tryz.pinned (OpenSpec.ofChange Rows.fnCertBlockSpec) :=
  OpenClaim.holds_of_wide 3 Tryz.f3 rfl rfl rfl rfl rfl rfl rfl ⟨rfl, rfl, rfl, rfl, rfl⟩ rfl rfl rfl rfl rfl (by kernel_rfl) Tryz.func3 closed
    (of_decide_eq_true (by kernel_rfl)) (by unfold Func.isWrapper; first | (rw [if_pos (by decide +kernel)]; kernel_rfl) | (rw [if_neg (by decide +kernel)]; exact ⟨rfl, rfl⟩))
    (fun os started H enc _ => lifted os started H enc)

theorem proved : Rows.FnCertBlockSaid := over
end Go.Proofs.YtpnjgmgmakmgeaaGreat.fnCertBlock
