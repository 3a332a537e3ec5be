/- FnJoinCerts: for every input the Go function loop.example/blockexecutor/laws.FnJoinCerts returns true and its arguments read afterwards as before; no conditions. -/
import Derived.Test.YtolhdacbahgfgaaTrM
import Derived.Test.YtolhdacbahgfgaaCore
import Derived.Test.YtolhdacbahgfgaaSpecAct
import Derived.Test.YtolhdacbahgfgaaTwo
import Derived.Deep.Cut
import Derived.Test.YtolhdacbahgfgaaImplVw
import Derived.Test.YtolhdacbahgfgaaDrT
import Derived.Test.YtolhdacbahgfgaaSpB
import Derived.Lib.MinMax
import Derived.Test.YtolhdacbahgfgaaRegJ
import Derived.Test.YtolhdacbahgfgaaRegO
import Derived.Test.YtolhdacbahgfgaaTrX
import Derived.Test.YtolhdacbahgfgaaOne
import Derived.Test.YtolhdacbahgfgaaConv
import Derived.WalkKit
import Derived.ProofKit
import Derived.OpenShut
import Derived.ShutString
import Derived.ChangeOld
import Derived.Below
namespace Go.Proofs.Ytolhdacbahgfgaa
open Go.RowKit
set_option linter.unusedVariables false
structure Crt where
 sum:Int
 view:Int
 sig:Int
def crtB (c:Crt):Bool:=inB c.sum 0 1000002 && inB c.view 0 1000 && inB c.sig 0 15
def manyM (n:Int):Int:=n % 2+n / 2 % 2+n / 4 % 2+n / 8 % 2
def cntB (c:Crt):Bool:=crtB c && decide (3≤manyM c.sig)
def joinB (a b:Crt):Bool:=crtB a && crtB b && decide (a.sum=b.sum) && decide (a.view=b.view)
def orM (a b:Int):Int:=bits .or .i64 a b
def noCrt:Crt:=⟨0,0,0⟩
def joinM (a b:Crt):Crt:=if joinB a b then ⟨a.sum,a.view,orM a.sig b.sig⟩ else noCrt
theorem joinM_no {a b:Crt} (h:joinB a b=false):joinM a b=noCrt:=by simp [joinM,h]
theorem joinM_yes {a b:Crt} (h:joinB a b=true):joinM a b=⟨a.sum,a.view,orM a.sig b.sig⟩:=by simp [joinM,h]
theorem crtB_true {c:Crt} (h:crtB c=true):(0≤c.sum∧c.sum≤1000002)∧(0≤c.view∧c.view≤1000)∧(0≤c.sig∧c.sig≤15):=by
 simp only [crtB,Bool.and_eq_true] at h
 exact ⟨inB_true h.1.1,inB_true h.1.2,inB_true h.2⟩
theorem cntB_no {c:Crt} (h:crtB c=false):cntB c=false:=by simp [cntB,h]
theorem cntB_yes {c:Crt} (h:crtB c=true):cntB c=decide (3≤manyM c.sig):=by simp [cntB,h]
def Crt.v (c:Crt):Value:=.agg #[.int .i64 c.sum,.int .i64 c.view,.int .i64 c.sig]
def GotCrt (c:Crt) (w:World) (e:Ending) (w':World):Prop:=e = .returned (.agg #[.int .i64 c.sum,.int .i64 c.view,.int .i64 c.sig])∧Below w.heap.size w w'
def GotCrtB (c:Crt) (b:Bool) (w:World) (e:Ending) (w':World):Prop:=e = .returned (.tuple #[.agg #[.int .i64 c.sum,.int .i64 c.view,.int .i64 c.sig],.bool b])∧Below w.heap.size w w'
theorem set3b_grown3 (w:World) (Z:Nat) (v1 v2 v3:Value):w.grownBy (set3b w Z v1 v2 v3) (some Z) :=
 ⟨rfl,rfl,rfl,by rw [set3b_size];exact Nat.le_refl _,fun q hq hr=>(set3b_turn w Z v1 v2 v3).block q hq (by have:q≠Z:=fun e=>hr (by rw [e]);omega)⟩
theorem results_crt {fn:Func} {p:Tmp} (h:fn.results=#[.cell p 24]) (tmps:Array Value) {F:World} {Z:Nat} (hp:tmps.getD p undef = .pointer (some ⟨Z,0,none⟩)) {v1 v2 v3:Value} (hc:TrAt F Z v1 v2 v3):(results fn tmps).run Try.prog F = .ok (.agg #[v1,v2,v3]) F:=by
 have hp':tmps[p]?.getD undef = .pointer (some ⟨Z,0,none⟩):=by simpa using hp
 obtain ⟨c0,c1,c2,-⟩:=hc
 simp [results,h,hp',asAddr,go_sem,c0,c1,c2]
theorem results_crtB {fn:Func} {p q:Tmp} (h:fn.results=#[.cell p 24,.tmp q]) (tmps:Array Value) {F:World} {Z:Nat} (hp:tmps.getD p undef = .pointer (some ⟨Z,0,none⟩)) {v1 v2 v3:Value} (hc:TrAt F Z v1 v2 v3) (x:Value) (hq:tmps.getD q undef=x):(results fn tmps).run Try.prog F = .ok (.tuple #[.agg #[v1,v2,v3],x]) F:=by
 have hp':tmps[p]?.getD undef = .pointer (some ⟨Z,0,none⟩):=by simpa using hp
 have hq':tmps[q]?.getD undef=x:=by simpa using hq
 obtain ⟨c0,c1,c2,-⟩:=hc
 simp [results,h,hp',hq',asAddr,go_sem,c0,c1,c2]
end Go.Proofs.Ytolhdacbahgfgaa
namespace Go.Proofs.Ytolhdacbahgfgaa
open Go.RowKit
set_option linter.unusedVariables false
theorem upd_wipe (w:World) (R:Nat):Upd R w { w with heap:=w.heap.setIfInBounds R (.cells #[] 0 (0,0)) } :=
 ⟨rfl,rfl,rfl,by simp,fun q hq hr=>by
  have hne:R≠q:=fun e=>hr (by rw [e])
  simp [hne]⟩
theorem tre_ne {w:World} {R b off n c:Nat} {v1 v3:Value} {t:Tre} (h:∀ W,Upd R w W→TreRd W v1 (.slice (some ⟨b,off,none⟩) n c) v3 t) (hn:0 < n):b≠R:=by
 intro e
 subst e
 obtain ⟨-,⟨a2,n2,c2,e2,r2,-,-⟩,-⟩:=h _ (upd_wipe w b)
 simp only [Value.slice.injEq] at e2
 obtain ⟨rfl,rfl,rfl⟩:=e2
 obtain ⟨b',off',e3,hb⟩:=r2.at 0 hn
 simp only [Option.some.injEq,Addr.mk.injEq] at e3
 obtain ⟨rfl,rfl,-⟩:=e3
 have h0:=hb.c0
 have hl:b < w.heap.size:=by
  obtain ⟨-,⟨a2,n2,c2,e2,r2,-,-⟩,-⟩:=h _ (Upd.refl _ w)
  simp only [Value.slice.injEq] at e2
  obtain ⟨rfl,rfl,rfl⟩:=e2
  obtain ⟨b',off',e3,hb⟩:=r2.at 0 hn
  simp only [Option.some.injEq,Addr.mk.injEq] at e3
  obtain ⟨rfl,rfl,-⟩:=e3
  exact hb.lt
 simp [World.cell?,hl] at h0
def BkHold (R:Nat) (w:World) (b o:Nat) (x:Blk) (a:Option Addr) (n c:Nat):Prop :=
 ∀ W,Upd R w W→(W.cell? ⟨b,o,none⟩=some (.int .i64 x.bef)∧W.cell? ⟨b,o+1,none⟩=some (.int .i64 x.hgt)∧W.cell? ⟨b,o+2,none⟩=some (.int .i64 x.view)∧W.cell? ⟨b,o+3,none⟩=some (.slice a n c)∧W.cell? ⟨b,o+4,none⟩=some (.int .i64 x.root)∧W.cell? ⟨b,o+5,none⟩=some (.int .i64 x.effs))∧RowA W a n x.acts
theorem tre_hold {w:World} {R b off n c:Nat} {v1 v3:Value} {t:Tre} (h:∀ W,Upd R w W→TreRd W v1 (.slice (some ⟨b,off,none⟩) n c) v3 t) (k:Nat) (hk:k < n):∃ a m e,BkHold R w b (off+k*6) (t.blocks.getD k noBlk) a m e:=by
 have hne:=tre_ne h (by omega)
 have hat:∀ W,Upd R w W→BkIn W b (off+k*6) (t.blocks.getD k noBlk):=by
  intro W hu
  obtain ⟨-,⟨a2,n2,c2,e2,r2,-,-⟩,-⟩:=h W hu
  simp only [Value.slice.injEq] at e2
  obtain ⟨rfl,rfl,rfl⟩:=e2
  obtain ⟨b',off',e3,hb⟩:=r2.at k hk
  simp only [Option.some.injEq,Addr.mk.injEq] at e3
  obtain ⟨rfl,rfl,-⟩:=e3
  exact hb
 obtain ⟨v,hv,a,m,e,rfl,-⟩:=(hat w (Upd.refl _ _)).c3
 refine ⟨a,m,e,fun W hu=>?_⟩
 have hb:=hat W hu
 obtain ⟨v',hv',a',m',e',rfl,ra,-⟩:=hb.c3
 have h3:=hu.cell hv hne
 rw [hv'] at h3
 simp only [Option.some.injEq,Value.slice.injEq] at h3
 obtain ⟨rfl,rfl,rfl⟩:=h3
 exact ⟨⟨hb.c0,hb.c1,hb.c2,hv',hb.c4,hb.c5⟩,ra⟩
end Go.Proofs.Ytolhdacbahgfgaa
namespace Go.Proofs.Ytolhdacbahgfgaa
open Go.RowKit
set_option linter.unusedVariables false
set_option linter.unusedSimpArgs false
def partM (n:Int):Nat→Int
 | 0=>0
 | 1=>n % 2
 | 2=>n % 2+n / 2 % 2
 | 3=>n % 2+n / 2 % 2+n / 4 % 2
 | _=>manyM n
theorem l15Many_spec (n:Int) (w:World) (h0:0≤n) (h1:n≤15) :
  Calls Try.prog 31 #[.int .i64 n] w fun e w'=>e = .returned (.int .i64 (manyM n))∧w=w':=by
 go_enter Try.func31,Try.ntmps31
 go_wp2
 go_loopw [3,4] (fun a i wr=>∃ k:Nat,k≤4∧i = .int .i64 k∧a = .int .i64 (partM n k)∧wr=w) (fun _ i _=>4 - (intOf i).toNat)
 case atStart=>exact ⟨0,by omega,rfl,rfl,rfl⟩
 case round =>
  obtain ⟨k,hk,rfl,rfl,rfl⟩:=hrel
  rcases (by omega:k=0∨k=1∨k=2∨k=3∨k=4) with rfl | rfl | rfl | rfl | rfl
  · simp only [partM]
    go_wp2
    go_roundw
    case rel=>exact ⟨1,by omega,rfl,by simp [partM],by first | rfl | trivial⟩
    case measure=>simp [intOf]
  · simp only [partM]
    go_wp2
    go_roundw
    case rel=>exact ⟨2,by omega,rfl,by simp [partM],by first | rfl | trivial⟩
    case measure=>simp [intOf]
  · simp only [partM]
    go_wp2
    go_roundw
    case rel=>exact ⟨3,by omega,rfl,by simp [partM],by first | rfl | trivial⟩
    case measure=>simp [intOf]
  · simp only [partM]
    go_wp2
    go_roundw
    case rel=>exact ⟨4,by omega,rfl,by simp [partM,manyM],by first | rfl | trivial⟩
    case measure=>simp [intOf]
  · simp only [partM]
    go_wp2
    go_ret
    exact ⟨rfl,rfl⟩
set_option maxHeartbeats 1000000 in
theorem certValid_spec (s v g:Int) (w:World) :
  Calls Try.prog 12 #[.agg #[.int .i64 s,.int .i64 v,.int .i64 g]] w (BoolB (crtB ⟨s,v,g⟩) w):=by
 have HB:=Lib.hid ((Below.refl w.heap.size w).alloc (Nat.le_refl _) (.cells #[.int .i64 s,.int .i64 v,.int .i64 g] 24))
 cases e0:inB s 0 1000002 with
 | false =>
  have HE:Hid (crtB ⟨s,v,g⟩=false):=Lib.hid (by simp [crtB,e0])
  go_enter Try.func12,Try.ntmps12
  go_wp2_with (first | (go_at_call 28;refine (l1In_spec_hid _ _ _ _).mono ?_;rintro e w' ⟨rfl,rfl⟩))
  go_ret
  exact ⟨by rw [HE.out];rfl,HB.out⟩
 | true =>
 cases e1:inB v 0 1000 with
 | false =>
  have HE:Hid (crtB ⟨s,v,g⟩=false):=Lib.hid (by simp [crtB,e1])
  go_enter Try.func12,Try.ntmps12
  go_wp2_with (first | (go_at_call 28;refine (l1In_spec_hid _ _ _ _).mono ?_;rintro e w' ⟨rfl,rfl⟩))
  go_ret
  exact ⟨by rw [HE.out];rfl,HB.out⟩
 | true =>
 have HE:Hid (crtB ⟨s,v,g⟩=inB g 0 15):=Lib.hid (by simp [crtB,e0,e1])
 go_enter Try.func12,Try.ntmps12
 go_wp2_with (first | (go_at_call 28;refine (l1In_spec_hid _ _ _ _).mono ?_;rintro e w' ⟨rfl,rfl⟩))
 go_ret
 exact ⟨by rw [HE.out];rfl,HB.out⟩
set_option maxHeartbeats 1000000 in
theorem certCounts_spec (s v g:Int) (w:World) :
  Calls Try.prog 16 #[.agg #[.int .i64 s,.int .i64 v,.int .i64 g]] w (BoolB (cntB ⟨s,v,g⟩) w):=by
 have HB:=Lib.hid ((Below.refl w.heap.size w).alloc (Nat.le_refl _) (.cells #[.int .i64 s,.int .i64 v,.int .i64 g] 24))
 have HG:=Lib.hid (trAt_new w 24 (.int .i64 s) (.int .i64 v) (.int .i64 g))
 obtain ⟨x,hx⟩:∃ x,x=crtB ⟨s,v,g⟩:=⟨_,rfl⟩
 have HX:=Lib.hid hx.symm
 clear hx
 cases x with
 | false =>
  have HE:Hid (cntB ⟨s,v,g⟩=false):=Lib.hid (cntB_no HX.out)
  go_enter Try.func16,Try.ntmps16
  go_wp2_with fail
  refine (certValid_spec s v g _).mono ?_;rintro e w1 ⟨rfl,hb1⟩
  rw [HX.out]
  obtain ⟨c0,c1,c2,-⟩:=HG.out.below hb1
  have HB1:=Lib.hid (HB.out.trans (hb1.mono HB.out.size))
  clear hb1
  go_wp2_with fail
  go_ret
  exact ⟨by rw [HE.out];rfl,HB1.out⟩
 | true =>
  have HE:Hid (cntB ⟨s,v,g⟩=decide (3≤manyM g)):=Lib.hid (cntB_yes HX.out)
  have HS:=Lib.hid (crtB_true HX.out).2.2
  go_enter Try.func16,Try.ntmps16
  go_wp2_with fail
  refine (certValid_spec s v g _).mono ?_;rintro e w1 ⟨rfl,hb1⟩
  rw [HX.out]
  obtain ⟨c0,c1,c2,-⟩:=HG.out.below hb1
  have HB1:=Lib.hid (HB.out.trans (hb1.mono HB.out.size))
  clear hb1
  go_wp2_with fail
  refine (l15Many_spec g _ HS.out.1 HS.out.2).mono ?_;rintro e w2 ⟨rfl,rfl⟩
  go_wp2_with fail
  go_ret
  exact ⟨by rw [HE.out];rfl,HB1.out⟩
set_option maxHeartbeats 2000000 in
theorem joinCerts_spec (s v g s' v' g':Int) (w:World) :
  Calls Try.prog 19 #[.agg #[.int .i64 s,.int .i64 v,.int .i64 g],.agg #[.int .i64 s',.int .i64 v',.int .i64 g']] w (GotCrtB (joinM ⟨s,v,g⟩ ⟨s',v',g'⟩) (joinB ⟨s,v,g⟩ ⟨s',v',g'⟩) w):=by
 have hb0:=(((Below.refl w.heap.size w).alloc (Nat.le_refl _) (.cells #[.int .i64 s,.int .i64 v,.int .i64 g] 24)).alloc (by simp) (.cells #[.int .i64 s',.int .i64 v',.int .i64 g'] 24)).alloc (by simp;omega) (.cells #[.int .i64 0,.int .i64 0,.int .i64 0] 24)
 have hA:=((trAt_new w 24 (.int .i64 s) (.int .i64 v) (.int .i64 g)).below ((Below.refl _ _).alloc (Nat.le_refl _) (.cells #[.int .i64 s',.int .i64 v',.int .i64 g'] 24))).below ((Below.refl _ _).alloc (Nat.le_refl _) (.cells #[.int .i64 0,.int .i64 0,.int .i64 0] 24))
 have hA':=(trAt_new (w.alloc (.cells #[.int .i64 s,.int .i64 v,.int .i64 g] 24)) 24 (.int .i64 s') (.int .i64 v') (.int .i64 g')).below ((Below.refl _ _).alloc (Nat.le_refl _) (.cells #[.int .i64 0,.int .i64 0,.int .i64 0] 24))
 have hZ:=trAt_new ((w.alloc (.cells #[.int .i64 s,.int .i64 v,.int .i64 g] 24)).alloc (.cells #[.int .i64 s',.int .i64 v',.int .i64 g'] 24)) 24 (.int .i64 0) (.int .i64 0) (.int .i64 0)
 rw [World.size_alloc] at hA'
 rw [World.size_alloc,World.size_alloc] at hZ
 obtain ⟨W1,hW1⟩:∃ W1,W1=((w.alloc (.cells #[.int .i64 s,.int .i64 v,.int .i64 g] 24)).alloc (.cells #[.int .i64 s',.int .i64 v',.int .i64 g'] 24)).alloc (.cells #[.int .i64 0,.int .i64 0,.int .i64 0] 24):=⟨_,rfl⟩
 have HW1:=Lib.hid hW1
 rw [← hW1] at hb0 hA hA' hZ
 clear hW1
 have HA:=Lib.hid hA
 have HA':=Lib.hid hA'
 have HZ:=Lib.hid hZ
 have HB:=Lib.hid hb0
 clear hA hA' hb0 hZ
 obtain ⟨x,hx⟩:∃ x,x=crtB ⟨s,v,g⟩:=⟨_,rfl⟩
 obtain ⟨y,hy⟩:∃ y,y=crtB ⟨s',v',g'⟩:=⟨_,rfl⟩
 have HX:=Lib.hid hx.symm
 have HY:=Lib.hid hy.symm
 clear hx hy
 cases x with
 | false =>
  have hj:joinB ⟨s,v,g⟩ ⟨s',v',g'⟩=false:=by simp [joinB,HX.out]
  have HJ:Hid (joinM ⟨s,v,g⟩ ⟨s',v',g'⟩=noCrt∧joinB ⟨s,v,g⟩ ⟨s',v',g'⟩=false):=Lib.hid ⟨joinM_no hj,hj⟩
  clear hj
  go_enter Try.func19,Try.ntmps19
  go_upto_region 1 with (fail)
  rw [← HW1.out]
  clear HW1
  obtain ⟨c0,c1,c2,-⟩:=HA.out
  obtain ⟨d0,d1,d2,-⟩:=HA'.out
  go_wp2_with fail
  refine (certValid_spec s v g _).mono ?_;rintro e w1 ⟨rfl,hb1⟩
  rw [HX.out]
  have HB1:=Lib.hid (HB.out.trans (hb1.mono HB.out.size))
  have HC1:=Lib.hid (HA.out.below hb1)
  have HD1:=Lib.hid (HA'.out.below hb1)
  have HZ1:=Lib.hid (HZ.out.below hb1)
  clear c0 c1 c2 d0 d1 d2 hb1 HB
  obtain ⟨c0,c1,c2,-⟩:=HC1.out
  obtain ⟨d0,d1,d2,-⟩:=HD1.out
  have HF:=Lib.hid (HZ1.out.set3b (.int .i64 0) (.int .i64 0) (.int .i64 0))
  have HBF:=Lib.hid ((HB1.out).grown (set3b_grown3 _ (w.heap.size+1+1) (.int .i64 0) (.int .i64 0) (.int .i64 0)) (by have:=HB1.out.size;omega) (fun k hk=>by simp only [Option.some.injEq] at hk;omega))
  obtain ⟨z0,z1,z2,f0,f1,f2⟩:=HZ1.out
  unfold set3b at HF HBF
  go_wp2_with fail
  exact bodyPost_ret (results_crtB Try.results19 _ (by rfl) HF.out _ (by rfl)) rfl ⟨by rw [HJ.out.1,HJ.out.2];rfl,HBF.out⟩
 | true =>
 cases y with
 | false =>
  have hj:joinB ⟨s,v,g⟩ ⟨s',v',g'⟩=false:=by simp [joinB,HY.out]
  have HJ:Hid (joinM ⟨s,v,g⟩ ⟨s',v',g'⟩=noCrt∧joinB ⟨s,v,g⟩ ⟨s',v',g'⟩=false):=Lib.hid ⟨joinM_no hj,hj⟩
  clear hj
  go_enter Try.func19,Try.ntmps19
  go_upto_region 1 with (fail)
  rw [← HW1.out]
  clear HW1
  obtain ⟨c0,c1,c2,-⟩:=HA.out
  obtain ⟨d0,d1,d2,-⟩:=HA'.out
  go_wp2_with fail
  refine (certValid_spec s v g _).mono ?_;rintro e w1 ⟨rfl,hb1⟩
  rw [HX.out]
  have HB1:=Lib.hid (HB.out.trans (hb1.mono HB.out.size))
  have HC1:=Lib.hid (HA.out.below hb1)
  have HD1:=Lib.hid (HA'.out.below hb1)
  have HZ1:=Lib.hid (HZ.out.below hb1)
  clear c0 c1 c2 d0 d1 d2 hb1 HB
  obtain ⟨c0,c1,c2,-⟩:=HC1.out
  obtain ⟨d0,d1,d2,-⟩:=HD1.out
  go_wp2_with fail
  refine (certValid_spec s' v' g' _).mono ?_;rintro e w2 ⟨rfl,hb2⟩
  rw [HY.out]
  have HB2:=Lib.hid (HB1.out.trans (hb2.mono HB1.out.size))
  have HC2:=Lib.hid (HC1.out.below hb2)
  have HD2:=Lib.hid (HD1.out.below hb2)
  have HZ2:=Lib.hid (HZ1.out.below hb2)
  clear c0 c1 c2 d0 d1 d2 hb2 HB1 HC1 HD1
  obtain ⟨c0,c1,c2,-⟩:=HC2.out
  obtain ⟨d0,d1,d2,-⟩:=HD2.out
  have HF:=Lib.hid (HZ2.out.set3b (.int .i64 0) (.int .i64 0) (.int .i64 0))
  have HBF:=Lib.hid ((HB2.out).grown (set3b_grown3 _ (w.heap.size+1+1) (.int .i64 0) (.int .i64 0) (.int .i64 0)) (by have:=HB2.out.size;omega) (fun k hk=>by simp only [Option.some.injEq] at hk;omega))
  obtain ⟨z0,z1,z2,f0,f1,f2⟩:=HZ2.out
  unfold set3b at HF HBF
  go_wp2_with fail
  exact bodyPost_ret (results_crtB Try.results19 _ (by rfl) HF.out _ (by rfl)) rfl ⟨by rw [HJ.out.1,HJ.out.2];rfl,HBF.out⟩
 | true =>
 by_cases h1:s=s'
 case neg =>
  have hj:joinB ⟨s,v,g⟩ ⟨s',v',g'⟩=false:=by simp [joinB,h1]
  have HJ:Hid (joinM ⟨s,v,g⟩ ⟨s',v',g'⟩=noCrt∧joinB ⟨s,v,g⟩ ⟨s',v',g'⟩=false):=Lib.hid ⟨joinM_no hj,hj⟩
  clear hj
  have e1:(s != s')=true:=by simp [h1]
  clear h1
  go_enter Try.func19,Try.ntmps19
  go_upto_region 1 with (fail)
  rw [← HW1.out]
  clear HW1
  obtain ⟨c0,c1,c2,-⟩:=HA.out
  obtain ⟨d0,d1,d2,-⟩:=HA'.out
  go_wp2_with fail
  refine (certValid_spec s v g _).mono ?_;rintro e w1 ⟨rfl,hb1⟩
  rw [HX.out]
  have HB1:=Lib.hid (HB.out.trans (hb1.mono HB.out.size))
  have HC1:=Lib.hid (HA.out.below hb1)
  have HD1:=Lib.hid (HA'.out.below hb1)
  have HZ1:=Lib.hid (HZ.out.below hb1)
  clear c0 c1 c2 d0 d1 d2 hb1 HB
  obtain ⟨c0,c1,c2,-⟩:=HC1.out
  obtain ⟨d0,d1,d2,-⟩:=HD1.out
  go_wp2_with fail
  refine (certValid_spec s' v' g' _).mono ?_;rintro e w2 ⟨rfl,hb2⟩
  rw [HY.out]
  have HB2:=Lib.hid (HB1.out.trans (hb2.mono HB1.out.size))
  have HC2:=Lib.hid (HC1.out.below hb2)
  have HD2:=Lib.hid (HD1.out.below hb2)
  have HZ2:=Lib.hid (HZ1.out.below hb2)
  clear c0 c1 c2 d0 d1 d2 hb2 HB1 HC1 HD1
  obtain ⟨c0,c1,c2,-⟩:=HC2.out
  obtain ⟨d0,d1,d2,-⟩:=HD2.out
  have HF:=Lib.hid (HZ2.out.set3b (.int .i64 0) (.int .i64 0) (.int .i64 0))
  have HBF:=Lib.hid ((HB2.out).grown (set3b_grown3 _ (w.heap.size+1+1) (.int .i64 0) (.int .i64 0) (.int .i64 0)) (by have:=HB2.out.size;omega) (fun k hk=>by simp only [Option.some.injEq] at hk;omega))
  obtain ⟨z0,z1,z2,f0,f1,f2⟩:=HZ2.out
  unfold set3b at HF HBF
  go_wp2_with fail
  exact bodyPost_ret (results_crtB Try.results19 _ (by rfl) HF.out _ (by rfl)) rfl ⟨by rw [HJ.out.1,HJ.out.2];rfl,HBF.out⟩
 by_cases h2:v=v'
 case neg =>
  have hj:joinB ⟨s,v,g⟩ ⟨s',v',g'⟩=false:=by simp [joinB,h2]
  have HJ:Hid (joinM ⟨s,v,g⟩ ⟨s',v',g'⟩=noCrt∧joinB ⟨s,v,g⟩ ⟨s',v',g'⟩=false):=Lib.hid ⟨joinM_no hj,hj⟩
  clear hj
  have e1:(s != s')=false:=by simp [h1]
  have e2:(v != v')=true:=by simp [h2]
  clear h1 h2
  go_enter Try.func19,Try.ntmps19
  go_upto_region 1 with (fail)
  rw [← HW1.out]
  clear HW1
  obtain ⟨c0,c1,c2,-⟩:=HA.out
  obtain ⟨d0,d1,d2,-⟩:=HA'.out
  go_wp2_with fail
  refine (certValid_spec s v g _).mono ?_;rintro e w1 ⟨rfl,hb1⟩
  rw [HX.out]
  have HB1:=Lib.hid (HB.out.trans (hb1.mono HB.out.size))
  have HC1:=Lib.hid (HA.out.below hb1)
  have HD1:=Lib.hid (HA'.out.below hb1)
  have HZ1:=Lib.hid (HZ.out.below hb1)
  clear c0 c1 c2 d0 d1 d2 hb1 HB
  obtain ⟨c0,c1,c2,-⟩:=HC1.out
  obtain ⟨d0,d1,d2,-⟩:=HD1.out
  go_wp2_with fail
  refine (certValid_spec s' v' g' _).mono ?_;rintro e w2 ⟨rfl,hb2⟩
  rw [HY.out]
  have HB2:=Lib.hid (HB1.out.trans (hb2.mono HB1.out.size))
  have HC2:=Lib.hid (HC1.out.below hb2)
  have HD2:=Lib.hid (HD1.out.below hb2)
  have HZ2:=Lib.hid (HZ1.out.below hb2)
  clear c0 c1 c2 d0 d1 d2 hb2 HB1 HC1 HD1
  obtain ⟨c0,c1,c2,-⟩:=HC2.out
  obtain ⟨d0,d1,d2,-⟩:=HD2.out
  have HF:=Lib.hid (HZ2.out.set3b (.int .i64 0) (.int .i64 0) (.int .i64 0))
  have HBF:=Lib.hid ((HB2.out).grown (set3b_grown3 _ (w.heap.size+1+1) (.int .i64 0) (.int .i64 0) (.int .i64 0)) (by have:=HB2.out.size;omega) (fun k hk=>by simp only [Option.some.injEq] at hk;omega))
  obtain ⟨z0,z1,z2,f0,f1,f2⟩:=HZ2.out
  unfold set3b at HF HBF
  go_wp2_with fail
  exact bodyPost_ret (results_crtB Try.results19 _ (by rfl) HF.out _ (by rfl)) rfl ⟨by rw [HJ.out.1,HJ.out.2];rfl,HBF.out⟩
 have hj:joinB ⟨s,v,g⟩ ⟨s',v',g'⟩=true:=by unfold joinB;rw [HX.out,HY.out];simp [h1,h2]
 have HJ:Hid (joinM ⟨s,v,g⟩ ⟨s',v',g'⟩=⟨s,v,orM g g'⟩∧joinB ⟨s,v,g⟩ ⟨s',v',g'⟩=true):=Lib.hid ⟨joinM_yes hj,hj⟩
 clear hj
 have e1:(s != s')=false:=by simp [h1]
 have e2:(v != v')=false:=by simp [h2]
 clear h1 h2
 go_enter Try.func19,Try.ntmps19
 go_upto_region 1 with (fail)
 rw [← HW1.out]
 clear HW1
 obtain ⟨c0,c1,c2,-⟩:=HA.out
 obtain ⟨d0,d1,d2,-⟩:=HA'.out
 go_wp2_with fail
 refine (certValid_spec s v g _).mono ?_;rintro e w1 ⟨rfl,hb1⟩
 rw [HX.out]
 have HB1:=Lib.hid (HB.out.trans (hb1.mono HB.out.size))
 have HC1:=Lib.hid (HA.out.below hb1)
 have HD1:=Lib.hid (HA'.out.below hb1)
 have HZ1:=Lib.hid (HZ.out.below hb1)
 clear c0 c1 c2 d0 d1 d2 hb1 HB
 obtain ⟨c0,c1,c2,-⟩:=HC1.out
 obtain ⟨d0,d1,d2,-⟩:=HD1.out
 go_wp2_with fail
 refine (certValid_spec s' v' g' _).mono ?_;rintro e w2 ⟨rfl,hb2⟩
 rw [HY.out]
 have HB2:=Lib.hid (HB1.out.trans (hb2.mono HB1.out.size))
 have HC2:=Lib.hid (HC1.out.below hb2)
 have HD2:=Lib.hid (HD1.out.below hb2)
 have HZ2:=Lib.hid (HZ1.out.below hb2)
 clear c0 c1 c2 d0 d1 d2 hb2 HB1 HC1 HD1
 obtain ⟨c0,c1,c2,-⟩:=HC2.out
 obtain ⟨d0,d1,d2,-⟩:=HD2.out
 have HF:=Lib.hid (HZ2.out.set3b (.int .i64 s) (.int .i64 v) (.int .i64 (bits .or .i64 g g')))
 have HBF:=Lib.hid ((HB2.out).grown (set3b_grown3 _ (w.heap.size+1+1) (.int .i64 s) (.int .i64 v) (.int .i64 (bits .or .i64 g g'))) (by have:=HB2.out.size;omega) (fun k hk=>by simp only [Option.some.injEq] at hk;omega))
 obtain ⟨z0,z1,z2,f0,f1,f2⟩:=HZ2.out
 unfold set3b at HF HBF
 go_wp2_with fail
 exact bodyPost_ret (results_crtB Try.results19 _ (by rfl) HF.out _ (by rfl)) rfl ⟨by rw [HJ.out.1,HJ.out.2];rfl,HBF.out⟩
end Go.Proofs.Ytolhdacbahgfgaa
namespace Go.Proofs.Ytolhdacbahgfgaa
open Go.RowKit
set_option linter.unusedVariables false
set_option linter.unusedSimpArgs false
theorem areMembers_impl (n:Int) (w:World) :
  Calls Try.prog 27 #[.int .i64 n] w fun e w'=>e = .returned (.bool (inB n 0 15))∧w=w':=by
 by_cases h1:0≤n
 · by_cases h2:n≤15
   · rw [inB_yes h1 h2]
     have h3:decide (n < 16)=true:=by simp;omega
     go_enter Try.func27,Try.ntmps27
     go_wp2
     go_ret
     exact ⟨rfl,rfl⟩
   · rw [inB_no (by omega)]
     have h3:decide (n < 16)=false:=by simp;omega
     go_enter Try.func27,Try.ntmps27
     go_wp2
     go_ret
     exact ⟨rfl,rfl⟩
 · rw [inB_no (by omega)]
   go_enter Try.func27,Try.ntmps27
   go_wp2
   go_ret
   exact ⟨rfl,rfl⟩
theorem onesCount64_any (n:Int) (w:World) (h0:0≤n) (h1:n≤15) :
  Calls Try.prog 64 #[.int .u64 n] w fun e w'=>e = .returned (.int .i64 (manyM n))∧w=w':=by
 rcases (by omega:n=0∨n=1∨n=2∨n=3∨n=4∨n=5∨n=6∨n=7∨n=8∨n=9∨n=10∨n=11∨n=12∨n=13∨n=14∨n=15) with rfl | rfl | rfl | rfl | rfl | rfl | rfl | rfl | rfl | rfl | rfl | rfl | rfl | rfl | rfl | rfl
 all_goals
  go_enter Try.func64,Try.ntmps64
  go_wp2
  go_ret
  exact ⟨by kernel_rfl,rfl⟩
theorem onesCount_any (n:Int) (w:World) (h0:0≤n) (h1:n≤15) :
  Calls Try.prog 46 #[.int .u64 n] w fun e w'=>e = .returned (.int .i64 (manyM n))∧w=w':=by
 have HC:=Lib.hid (onesCount64_any n w h0 h1)
 go_enter Try.func46,Try.ntmps46
 go_wp2_with fail
 refine HC.out.mono ?_;rintro e w' ⟨rfl,rfl⟩
 go_wp2_with fail
 go_ret
 exact ⟨rfl,rfl⟩
theorem areQuorum_impl (n:Int) (w:World) (h0:0≤n) (h1:n≤15) :
  Calls Try.prog 30 #[.int .i64 n] w fun e w'=>e = .returned (.bool (decide (3≤manyM n)))∧w=w':=by
 have HC:=Lib.hid (onesCount_any n w h0 h1)
 go_enter Try.func30,Try.ntmps30
 go_wp2_with fail
 refine HC.out.mono ?_
 rintro e w' ⟨rfl,rfl⟩
 go_wp2_with fail
 go_ret
 exact ⟨by simp,rfl⟩
set_option maxHeartbeats 1000000 in
theorem certValid_impl (s v g:Int) (w:World) :
  Calls Try.prog 11 #[.agg #[.int .i64 s,.int .i64 v,.int .i64 g]] w (BoolB (crtB ⟨s,v,g⟩) w):=by
 have HB:=Lib.hid ((Below.refl w.heap.size w).alloc (Nat.le_refl _) (.cells #[.int .i64 s,.int .i64 v,.int .i64 g] 24))
 cases e0:inB s 0 1000002 with
 | false =>
  have HE:Hid (crtB ⟨s,v,g⟩=false):=Lib.hid (by simp [crtB,e0])
  go_enter Try.func11,Try.ntmps11
  go_wp2_with (first | (go_at_call 25;refine (isSum_impl _ _).mono ?_;rintro e w' ⟨rfl,rfl⟩) | (go_at_call 26;refine (isView_impl _ _).mono ?_;rintro e w' ⟨rfl,rfl⟩) | (go_at_call 27;refine (areMembers_impl _ _).mono ?_;rintro e w' ⟨rfl,rfl⟩))
  go_ret
  exact ⟨by rw [HE.out];rfl,HB.out⟩
 | true =>
 cases e1:inB v 0 1000 with
 | false =>
  have HE:Hid (crtB ⟨s,v,g⟩=false):=Lib.hid (by simp [crtB,e1])
  go_enter Try.func11,Try.ntmps11
  go_wp2_with (first | (go_at_call 25;refine (isSum_impl _ _).mono ?_;rintro e w' ⟨rfl,rfl⟩) | (go_at_call 26;refine (isView_impl _ _).mono ?_;rintro e w' ⟨rfl,rfl⟩) | (go_at_call 27;refine (areMembers_impl _ _).mono ?_;rintro e w' ⟨rfl,rfl⟩))
  go_ret
  exact ⟨by rw [HE.out];rfl,HB.out⟩
 | true =>
 have HE:Hid (crtB ⟨s,v,g⟩=inB g 0 15):=Lib.hid (by simp [crtB,e0,e1])
 go_enter Try.func11,Try.ntmps11
 go_wp2_with (first | (go_at_call 25;refine (isSum_impl _ _).mono ?_;rintro e w' ⟨rfl,rfl⟩) | (go_at_call 26;refine (isView_impl _ _).mono ?_;rintro e w' ⟨rfl,rfl⟩) | (go_at_call 27;refine (areMembers_impl _ _).mono ?_;rintro e w' ⟨rfl,rfl⟩))
 go_ret
 exact ⟨by rw [HE.out];rfl,HB.out⟩
set_option maxHeartbeats 1000000 in
theorem certCounts_impl (s v g:Int) (w:World) :
  Calls Try.prog 15 #[.agg #[.int .i64 s,.int .i64 v,.int .i64 g]] w (BoolB (cntB ⟨s,v,g⟩) w):=by
 have HB:=Lib.hid ((Below.refl w.heap.size w).alloc (Nat.le_refl _) (.cells #[.int .i64 s,.int .i64 v,.int .i64 g] 24))
 have HG:=Lib.hid (trAt_new w 24 (.int .i64 s) (.int .i64 v) (.int .i64 g))
 obtain ⟨x,hx⟩:∃ x,x=crtB ⟨s,v,g⟩:=⟨_,rfl⟩
 have HX:=Lib.hid hx.symm
 clear hx
 cases x with
 | false =>
  have HE:Hid (cntB ⟨s,v,g⟩=false):=Lib.hid (cntB_no HX.out)
  go_enter Try.func15,Try.ntmps15
  go_wp2_with fail
  refine (certValid_impl s v g _).mono ?_;rintro e w1 ⟨rfl,hb1⟩
  rw [HX.out]
  obtain ⟨c0,c1,c2,-⟩:=HG.out.below hb1
  have HB1:=Lib.hid (HB.out.trans (hb1.mono HB.out.size))
  clear hb1
  go_wp2_with fail
  go_ret
  exact ⟨by rw [HE.out];rfl,HB1.out⟩
 | true =>
  have HE:Hid (cntB ⟨s,v,g⟩=decide (3≤manyM g)):=Lib.hid (cntB_yes HX.out)
  have HS:=Lib.hid (crtB_true HX.out).2.2
  go_enter Try.func15,Try.ntmps15
  go_wp2_with fail
  refine (certValid_impl s v g _).mono ?_;rintro e w1 ⟨rfl,hb1⟩
  rw [HX.out]
  obtain ⟨c0,c1,c2,-⟩:=HG.out.below hb1
  have HB1:=Lib.hid (HB.out.trans (hb1.mono HB.out.size))
  clear hb1
  go_wp2_with fail
  refine (areQuorum_impl g _ HS.out.1 HS.out.2).mono ?_;rintro e w2 ⟨rfl,rfl⟩
  go_wp2_with fail
  go_ret
  exact ⟨by rw [HE.out];rfl,HB1.out⟩
set_option maxHeartbeats 2000000 in
theorem joinCerts_impl (s v g s' v' g':Int) (w:World) :
  Calls Try.prog 18 #[.agg #[.int .i64 s,.int .i64 v,.int .i64 g],.agg #[.int .i64 s',.int .i64 v',.int .i64 g']] w (GotCrtB (joinM ⟨s,v,g⟩ ⟨s',v',g'⟩) (joinB ⟨s,v,g⟩ ⟨s',v',g'⟩) w):=by
 have hb0:=(((Below.refl w.heap.size w).alloc (Nat.le_refl _) (.cells #[.int .i64 s,.int .i64 v,.int .i64 g] 24)).alloc (by simp) (.cells #[.int .i64 s',.int .i64 v',.int .i64 g'] 24)).alloc (by simp;omega) (.cells #[.int .i64 0,.int .i64 0,.int .i64 0] 24)
 have hA:=((trAt_new w 24 (.int .i64 s) (.int .i64 v) (.int .i64 g)).below ((Below.refl _ _).alloc (Nat.le_refl _) (.cells #[.int .i64 s',.int .i64 v',.int .i64 g'] 24))).below ((Below.refl _ _).alloc (Nat.le_refl _) (.cells #[.int .i64 0,.int .i64 0,.int .i64 0] 24))
 have hA':=(trAt_new (w.alloc (.cells #[.int .i64 s,.int .i64 v,.int .i64 g] 24)) 24 (.int .i64 s') (.int .i64 v') (.int .i64 g')).below ((Below.refl _ _).alloc (Nat.le_refl _) (.cells #[.int .i64 0,.int .i64 0,.int .i64 0] 24))
 have hZ:=trAt_new ((w.alloc (.cells #[.int .i64 s,.int .i64 v,.int .i64 g] 24)).alloc (.cells #[.int .i64 s',.int .i64 v',.int .i64 g'] 24)) 24 (.int .i64 0) (.int .i64 0) (.int .i64 0)
 rw [World.size_alloc] at hA'
 rw [World.size_alloc,World.size_alloc] at hZ
 obtain ⟨W1,hW1⟩:∃ W1,W1=((w.alloc (.cells #[.int .i64 s,.int .i64 v,.int .i64 g] 24)).alloc (.cells #[.int .i64 s',.int .i64 v',.int .i64 g'] 24)).alloc (.cells #[.int .i64 0,.int .i64 0,.int .i64 0] 24):=⟨_,rfl⟩
 have HW1:=Lib.hid hW1
 rw [← hW1] at hb0 hA hA' hZ
 clear hW1
 have HA:=Lib.hid hA
 have HA':=Lib.hid hA'
 have HZ:=Lib.hid hZ
 have HB:=Lib.hid hb0
 clear hA hA' hb0 hZ
 obtain ⟨x,hx⟩:∃ x,x=crtB ⟨s,v,g⟩:=⟨_,rfl⟩
 obtain ⟨y,hy⟩:∃ y,y=crtB ⟨s',v',g'⟩:=⟨_,rfl⟩
 have HX:=Lib.hid hx.symm
 have HY:=Lib.hid hy.symm
 clear hx hy
 cases x with
 | false =>
  have hj:joinB ⟨s,v,g⟩ ⟨s',v',g'⟩=false:=by simp [joinB,HX.out]
  have HJ:Hid (joinM ⟨s,v,g⟩ ⟨s',v',g'⟩=noCrt∧joinB ⟨s,v,g⟩ ⟨s',v',g'⟩=false):=Lib.hid ⟨joinM_no hj,hj⟩
  clear hj
  go_enter Try.func18,Try.ntmps18
  go_upto_region 1 with (fail)
  rw [← HW1.out]
  clear HW1
  obtain ⟨c0,c1,c2,-⟩:=HA.out
  obtain ⟨d0,d1,d2,-⟩:=HA'.out
  go_wp2_with fail
  refine (certValid_impl s v g _).mono ?_;rintro e w1 ⟨rfl,hb1⟩
  rw [HX.out]
  have HB1:=Lib.hid (HB.out.trans (hb1.mono HB.out.size))
  have HC1:=Lib.hid (HA.out.below hb1)
  have HD1:=Lib.hid (HA'.out.below hb1)
  have HZ1:=Lib.hid (HZ.out.below hb1)
  clear c0 c1 c2 d0 d1 d2 hb1 HB
  obtain ⟨c0,c1,c2,-⟩:=HC1.out
  obtain ⟨d0,d1,d2,-⟩:=HD1.out
  have HF:=Lib.hid (HZ1.out.set3b (.int .i64 0) (.int .i64 0) (.int .i64 0))
  have HBF:=Lib.hid ((HB1.out).grown (set3b_grown3 _ (w.heap.size+1+1) (.int .i64 0) (.int .i64 0) (.int .i64 0)) (by have:=HB1.out.size;omega) (fun k hk=>by simp only [Option.some.injEq] at hk;omega))
  obtain ⟨z0,z1,z2,f0,f1,f2⟩:=HZ1.out
  unfold set3b at HF HBF
  go_wp2_with fail
  exact bodyPost_ret (results_crtB Try.results18 _ (by rfl) HF.out _ (by rfl)) rfl ⟨by rw [HJ.out.1,HJ.out.2];rfl,HBF.out⟩
 | true =>
 cases y with
 | false =>
  have hj:joinB ⟨s,v,g⟩ ⟨s',v',g'⟩=false:=by simp [joinB,HY.out]
  have HJ:Hid (joinM ⟨s,v,g⟩ ⟨s',v',g'⟩=noCrt∧joinB ⟨s,v,g⟩ ⟨s',v',g'⟩=false):=Lib.hid ⟨joinM_no hj,hj⟩
  clear hj
  go_enter Try.func18,Try.ntmps18
  go_upto_region 1 with (fail)
  rw [← HW1.out]
  clear HW1
  obtain ⟨c0,c1,c2,-⟩:=HA.out
  obtain ⟨d0,d1,d2,-⟩:=HA'.out
  go_wp2_with fail
  refine (certValid_impl s v g _).mono ?_;rintro e w1 ⟨rfl,hb1⟩
  rw [HX.out]
  have HB1:=Lib.hid (HB.out.trans (hb1.mono HB.out.size))
  have HC1:=Lib.hid (HA.out.below hb1)
  have HD1:=Lib.hid (HA'.out.below hb1)
  have HZ1:=Lib.hid (HZ.out.below hb1)
  clear c0 c1 c2 d0 d1 d2 hb1 HB
  obtain ⟨c0,c1,c2,-⟩:=HC1.out
  obtain ⟨d0,d1,d2,-⟩:=HD1.out
  go_wp2_with fail
  refine (certValid_impl s' v' g' _).mono ?_;rintro e w2 ⟨rfl,hb2⟩
  rw [HY.out]
  have HB2:=Lib.hid (HB1.out.trans (hb2.mono HB1.out.size))
  have HC2:=Lib.hid (HC1.out.below hb2)
  have HD2:=Lib.hid (HD1.out.below hb2)
  have HZ2:=Lib.hid (HZ1.out.below hb2)
  clear c0 c1 c2 d0 d1 d2 hb2 HB1 HC1 HD1
  obtain ⟨c0,c1,c2,-⟩:=HC2.out
  obtain ⟨d0,d1,d2,-⟩:=HD2.out
  have HF:=Lib.hid (HZ2.out.set3b (.int .i64 0) (.int .i64 0) (.int .i64 0))
  have HBF:=Lib.hid ((HB2.out).grown (set3b_grown3 _ (w.heap.size+1+1) (.int .i64 0) (.int .i64 0) (.int .i64 0)) (by have:=HB2.out.size;omega) (fun k hk=>by simp only [Option.some.injEq] at hk;omega))
  obtain ⟨z0,z1,z2,f0,f1,f2⟩:=HZ2.out
  unfold set3b at HF HBF
  go_wp2_with fail
  exact bodyPost_ret (results_crtB Try.results18 _ (by rfl) HF.out _ (by rfl)) rfl ⟨by rw [HJ.out.1,HJ.out.2];rfl,HBF.out⟩
 | true =>
 by_cases h1:s=s'
 case neg =>
  have hj:joinB ⟨s,v,g⟩ ⟨s',v',g'⟩=false:=by simp [joinB,h1]
  have HJ:Hid (joinM ⟨s,v,g⟩ ⟨s',v',g'⟩=noCrt∧joinB ⟨s,v,g⟩ ⟨s',v',g'⟩=false):=Lib.hid ⟨joinM_no hj,hj⟩
  clear hj
  have e1:(s != s')=true:=by simp [h1]
  clear h1
  go_enter Try.func18,Try.ntmps18
  go_upto_region 1 with (fail)
  rw [← HW1.out]
  clear HW1
  obtain ⟨c0,c1,c2,-⟩:=HA.out
  obtain ⟨d0,d1,d2,-⟩:=HA'.out
  go_wp2_with fail
  refine (certValid_impl s v g _).mono ?_;rintro e w1 ⟨rfl,hb1⟩
  rw [HX.out]
  have HB1:=Lib.hid (HB.out.trans (hb1.mono HB.out.size))
  have HC1:=Lib.hid (HA.out.below hb1)
  have HD1:=Lib.hid (HA'.out.below hb1)
  have HZ1:=Lib.hid (HZ.out.below hb1)
  clear c0 c1 c2 d0 d1 d2 hb1 HB
  obtain ⟨c0,c1,c2,-⟩:=HC1.out
  obtain ⟨d0,d1,d2,-⟩:=HD1.out
  go_wp2_with fail
  refine (certValid_impl s' v' g' _).mono ?_;rintro e w2 ⟨rfl,hb2⟩
  rw [HY.out]
  have HB2:=Lib.hid (HB1.out.trans (hb2.mono HB1.out.size))
  have HC2:=Lib.hid (HC1.out.below hb2)
  have HD2:=Lib.hid (HD1.out.below hb2)
  have HZ2:=Lib.hid (HZ1.out.below hb2)
  clear c0 c1 c2 d0 d1 d2 hb2 HB1 HC1 HD1
  obtain ⟨c0,c1,c2,-⟩:=HC2.out
  obtain ⟨d0,d1,d2,-⟩:=HD2.out
  have HF:=Lib.hid (HZ2.out.set3b (.int .i64 0) (.int .i64 0) (.int .i64 0))
  have HBF:=Lib.hid ((HB2.out).grown (set3b_grown3 _ (w.heap.size+1+1) (.int .i64 0) (.int .i64 0) (.int .i64 0)) (by have:=HB2.out.size;omega) (fun k hk=>by simp only [Option.some.injEq] at hk;omega))
  obtain ⟨z0,z1,z2,f0,f1,f2⟩:=HZ2.out
  unfold set3b at HF HBF
  go_wp2_with fail
  exact bodyPost_ret (results_crtB Try.results18 _ (by rfl) HF.out _ (by rfl)) rfl ⟨by rw [HJ.out.1,HJ.out.2];rfl,HBF.out⟩
 by_cases h2:v=v'
 case neg =>
  have hj:joinB ⟨s,v,g⟩ ⟨s',v',g'⟩=false:=by simp [joinB,h2]
  have HJ:Hid (joinM ⟨s,v,g⟩ ⟨s',v',g'⟩=noCrt∧joinB ⟨s,v,g⟩ ⟨s',v',g'⟩=false):=Lib.hid ⟨joinM_no hj,hj⟩
  clear hj
  have e1:(s != s')=false:=by simp [h1]
  have e2:(v != v')=true:=by simp [h2]
  clear h1 h2
  go_enter Try.func18,Try.ntmps18
  go_upto_region 1 with (fail)
  rw [← HW1.out]
  clear HW1
  obtain ⟨c0,c1,c2,-⟩:=HA.out
  obtain ⟨d0,d1,d2,-⟩:=HA'.out
  go_wp2_with fail
  refine (certValid_impl s v g _).mono ?_;rintro e w1 ⟨rfl,hb1⟩
  rw [HX.out]
  have HB1:=Lib.hid (HB.out.trans (hb1.mono HB.out.size))
  have HC1:=Lib.hid (HA.out.below hb1)
  have HD1:=Lib.hid (HA'.out.below hb1)
  have HZ1:=Lib.hid (HZ.out.below hb1)
  clear c0 c1 c2 d0 d1 d2 hb1 HB
  obtain ⟨c0,c1,c2,-⟩:=HC1.out
  obtain ⟨d0,d1,d2,-⟩:=HD1.out
  go_wp2_with fail
  refine (certValid_impl s' v' g' _).mono ?_;rintro e w2 ⟨rfl,hb2⟩
  rw [HY.out]
  have HB2:=Lib.hid (HB1.out.trans (hb2.mono HB1.out.size))
  have HC2:=Lib.hid (HC1.out.below hb2)
  have HD2:=Lib.hid (HD1.out.below hb2)
  have HZ2:=Lib.hid (HZ1.out.below hb2)
  clear c0 c1 c2 d0 d1 d2 hb2 HB1 HC1 HD1
  obtain ⟨c0,c1,c2,-⟩:=HC2.out
  obtain ⟨d0,d1,d2,-⟩:=HD2.out
  have HF:=Lib.hid (HZ2.out.set3b (.int .i64 0) (.int .i64 0) (.int .i64 0))
  have HBF:=Lib.hid ((HB2.out).grown (set3b_grown3 _ (w.heap.size+1+1) (.int .i64 0) (.int .i64 0) (.int .i64 0)) (by have:=HB2.out.size;omega) (fun k hk=>by simp only [Option.some.injEq] at hk;omega))
  obtain ⟨z0,z1,z2,f0,f1,f2⟩:=HZ2.out
  unfold set3b at HF HBF
  go_wp2_with fail
  exact bodyPost_ret (results_crtB Try.results18 _ (by rfl) HF.out _ (by rfl)) rfl ⟨by rw [HJ.out.1,HJ.out.2];rfl,HBF.out⟩
 have hj:joinB ⟨s,v,g⟩ ⟨s',v',g'⟩=true:=by unfold joinB;rw [HX.out,HY.out];simp [h1,h2]
 have HJ:Hid (joinM ⟨s,v,g⟩ ⟨s',v',g'⟩=⟨s,v,orM g g'⟩∧joinB ⟨s,v,g⟩ ⟨s',v',g'⟩=true):=Lib.hid ⟨joinM_yes hj,hj⟩
 clear hj
 have e1:(s != s')=false:=by simp [h1]
 have e2:(v != v')=false:=by simp [h2]
 clear h1 h2
 go_enter Try.func18,Try.ntmps18
 go_upto_region 1 with (fail)
 rw [← HW1.out]
 clear HW1
 obtain ⟨c0,c1,c2,-⟩:=HA.out
 obtain ⟨d0,d1,d2,-⟩:=HA'.out
 go_wp2_with fail
 refine (certValid_impl s v g _).mono ?_;rintro e w1 ⟨rfl,hb1⟩
 rw [HX.out]
 have HB1:=Lib.hid (HB.out.trans (hb1.mono HB.out.size))
 have HC1:=Lib.hid (HA.out.below hb1)
 have HD1:=Lib.hid (HA'.out.below hb1)
 have HZ1:=Lib.hid (HZ.out.below hb1)
 clear c0 c1 c2 d0 d1 d2 hb1 HB
 obtain ⟨c0,c1,c2,-⟩:=HC1.out
 obtain ⟨d0,d1,d2,-⟩:=HD1.out
 go_wp2_with fail
 refine (certValid_impl s' v' g' _).mono ?_;rintro e w2 ⟨rfl,hb2⟩
 rw [HY.out]
 have HB2:=Lib.hid (HB1.out.trans (hb2.mono HB1.out.size))
 have HC2:=Lib.hid (HC1.out.below hb2)
 have HD2:=Lib.hid (HD1.out.below hb2)
 have HZ2:=Lib.hid (HZ1.out.below hb2)
 clear c0 c1 c2 d0 d1 d2 hb2 HB1 HC1 HD1
 obtain ⟨c0,c1,c2,-⟩:=HC2.out
 obtain ⟨d0,d1,d2,-⟩:=HD2.out
 have HF:=Lib.hid (HZ2.out.set3b (.int .i64 s) (.int .i64 v) (.int .i64 (bits .or .i64 g g')))
 have HBF:=Lib.hid ((HB2.out).grown (set3b_grown3 _ (w.heap.size+1+1) (.int .i64 s) (.int .i64 v) (.int .i64 (bits .or .i64 g g'))) (by have:=HB2.out.size;omega) (fun k hk=>by simp only [Option.some.injEq] at hk;omega))
 obtain ⟨z0,z1,z2,f0,f1,f2⟩:=HZ2.out
 unfold set3b at HF HBF
 go_wp2_with fail
 exact bodyPost_ret (results_crtB Try.results18 _ (by rfl) HF.out _ (by rfl)) rfl ⟨by rw [HJ.out.1,HJ.out.2];rfl,HBF.out⟩
end Go.Proofs.Ytolhdacbahgfgaa
namespace Go.Proofs.Ytolhdacbahgfgaa
open Go.RowKit
set_option linter.unusedVariables false
set_option linter.unusedSimpArgs false
def WdIx (R m:Nat):Wd R:=⟨fun v _=>∃ k:Nat,v = .int .i64 (k:Int)∧k < m,fun _ _ _ h _=>h⟩
def WdPl (R b off m:Nat):Wd R:=⟨fun v _=>∃ k:Nat,v = .pointer (some ⟨b,off+k*6,none⟩)∧k < m,fun _ _ _ h _=>h⟩
def WdBk (R:Nat) (w:World) (b off m:Nat) (t:Tre):Wd R:=⟨fun v _=>∃ (k:Nat) (a:Option Addr) (n c:Nat),v = .agg #[.int .i64 (t.blocks.getD k noBlk).bef,.int .i64 (t.blocks.getD k noBlk).hgt,.int .i64 (t.blocks.getD k noBlk).view,.slice a n c,.int .i64 (t.blocks.getD k noBlk).root,.int .i64 (t.blocks.getD k noBlk).effs]∧k < m∧BkHold R w b (off+k*6) (t.blocks.getD k noBlk) a n c,fun _ _ _ h _=>h⟩
def WdC (R:Nat) (s v:Int):Wd R:=⟨fun u _=>∃ x:Int,u = .agg #[.int .i64 s,.int .i64 v,.int .i64 x]∧0≤x∧x≤15,fun _ _ _ h _=>h⟩
def WdCb (R:Nat) (w0:World):Wd R:=⟨fun v w=>∃ Z,v = .pointer (some ⟨Z,0,none⟩)∧w0.heap.size≤Z∧R < Z∧TrAt w Z (.int .i64 0) (.int .i64 0) (.int .i64 0),
 fun v w w' ⟨Z,h1,h2,h3,h4⟩ hu=>⟨Z,h1,h2,h3,h4.upd hu (by omega)⟩⟩
def DrawCt (w:World) (R P c:Nat) (en:Ending) (w':World):Prop :=
 ∃ s v g,en = .returned (.agg #[.int .i64 s,.int .i64 v,.int .i64 g])∧(-1≤s∧s≤1000003)∧(-1≤v∧v≤1001)∧(-1≤g∧g≤16)∧Rd w' R (P+c)∧Upd R w w'
set_option maxRecDepth 100000 in
set_option maxHeartbeats 8000000 in
theorem l20Cert_any (R P:Nat) (n:Int) (b1:Option Addr) (m1 d1:Nat) (b2:Option Addr) (m2 d2:Nat) (b3:Option Addr) (m3 d3:Nat) (t:Tre) (w:World) (h:Rd w R P) (hP:P≤400000) (hn0:0≤n) (hn:n≤1000) (htr:∀ W,Upd R w W→TreRd W (.slice b1 m1 d1) (.slice b2 m2 d2) (.slice b3 m3 d3) t) (hm0:1≤m2) (hm1:m2≤14) :
  Calls Try.prog 23 #[.pointer (some ⟨R,0,none⟩),.agg #[.slice b1 m1 d1,.slice b2 m2 d2,.slice b3 m3 d3],.int .i64 n] w (DrawCt w R P 7):=by
 obtain ⟨b,off,rfl⟩:∃ b off,b2=some ⟨b,off,none⟩:=by
  obtain ⟨-,⟨a2,n2,c2,e2,r2,-,-⟩,-⟩:=htr w (Upd.refl _ _)
  simp only [Value.slice.injEq] at e2
  obtain ⟨rfl,rfl,rfl⟩:=e2
  obtain ⟨b',off',e3,-⟩:=r2.at 0 (by omega)
  exact ⟨b',off',e3⟩
 have hRw:=h.lt
 have hu0:Upd R w ((w.alloc (.cells #[.slice b1 m1 d1,.slice (some ⟨b,off,none⟩) m2 d2,.slice b3 m3 d3] 46)).alloc (.cells #[.int .i64 0,.int .i64 0,.int .i64 0] 24)):=((Upd.refl _ _).alloc _).alloc _
 have hG0:=(trAt_new w 46 (.slice b1 m1 d1) (.slice (some ⟨b,off,none⟩) m2 d2) (.slice b3 m3 d3)).below ((Below.refl _ _).alloc (Nat.le_refl _) (.cells #[.int .i64 0,.int .i64 0,.int .i64 0] 24))
 have hE0:=trAt_new (w.alloc (.cells #[.slice b1 m1 d1,.slice (some ⟨b,off,none⟩) m2 d2,.slice b3 m3 d3] 46)) 24 (.int .i64 0) (.int .i64 0) (.int .i64 0)
 rw [World.size_alloc] at hE0
 have hr2:Rd ((w.alloc (.cells #[.slice b1 m1 d1,.slice (some ⟨b,off,none⟩) m2 d2,.slice b3 m3 d3] 46)).alloc (.cells #[.int .i64 0,.int .i64 0,.int .i64 0] 24)) R P:=(h.alloc _).alloc _
 have hz0:((w.alloc (.cells #[.slice b1 m1 d1,.slice (some ⟨b,off,none⟩) m2 d2,.slice b3 m3 d3] 46)).alloc (.cells #[.int .i64 0,.int .i64 0,.int .i64 0] 24)).heap.size=w.heap.size+1+1:=by simp
 obtain ⟨w2,hw2⟩:∃ W1,W1=(w.alloc (.cells #[.slice b1 m1 d1,.slice (some ⟨b,off,none⟩) m2 d2,.slice b3 m3 d3] 46)).alloc (.cells #[.int .i64 0,.int .i64 0,.int .i64 0] 24):=⟨_,rfl⟩
 have HW2:=Lib.hid hw2
 rw [← hw2] at hu0 hG0 hE0 hr2 hz0
 clear hw2 h
 have HHD:=Lib.hid (tre_hold (w:=w2) (R:=R) (fun W hu=>htr W (hu0.trans hu)))
 obtain ⟨G,hG⟩:∃ G,G=w.heap.size:=⟨_,rfl⟩
 have HGE:=Lib.hid hG
 rw [← hG] at hG0 hE0 hz0
 have HBX:=Lib.hid (fun (W:World) (hu:Upd R w2 W)=>hG0.upd hu (by omega))
 have HEX:=Lib.hid (fun (W:World) (hu:Upd R w2 W)=>hE0.upd hu (by omega))
 have HU0:=Lib.hid hu0
 obtain ⟨P2,hP2⟩:∃ p,p=P:=⟨_,rfl⟩
 have HP2:=Lib.hid hP2
 rw [← hP2] at hr2 hP
 have hRG:R < G:=by omega
 clear hu0 hG0 hE0 htr hP2
 go_enter Try.func23,Try.ntmps23
 go_upto_region 1 with (fail)
 rw [← HW2.out]
 clear HW2
 rw [← hG]
 clear hG
 refine wp_region_light (by kernel_rfl) (StoJ (fun lz fz wz=>WdJ R w2 (P2) [(6,1)] [(0,9,Wd.is R (.pointer (some ⟨G,1,none⟩))),(1,10,Wd.is R (.slice (some ⟨b,off,none⟩) m2 d2)),(2,11,Wd.is R (.pointer (some ⟨R,0,none⟩))),(3,12,Wd.is R (.pointer (some ⟨G,1,none⟩))),(4,13,Wd.is R (.slice (some ⟨b,off,none⟩) m2 d2)),(5,14,Wd.is R (.int .i64 (m2:Int))),(6,15,WdIx R m2),(7,16,WdPl R b off m2),(8,17,WdBk R w2 b off m2 t),(9,7,WdBox R w2)] lz fz wz∧ClJ [(1,[0]),(4,[3]),(5,[4]),(6,[2,5]),(7,[1,6]),(8,[7])] lz) (fun lz fz wz=>(∀ i,i < 10→lz i=true)∧∃ Zb k a n c,fz 7 = .pointer (some ⟨Zb,0,none⟩)∧w2.heap.size≤Zb∧BkAt wz Zb (.int .i64 (t.blocks.getD k noBlk).bef) (.int .i64 (t.blocks.getD k noBlk).hgt) (.int .i64 (t.blocks.getD k noBlk).view) (.slice a n c) (.int .i64 (t.blocks.getD k noBlk).root) (.int .i64 (t.blocks.getD k noBlk).effs)∧k < m2∧BkHold R w2 b (off+k*6) (t.blocks.getD k noBlk) a n c∧Upd R w2 wz∧Rd wz R (P2+1)) 10) 67 rfl [9,10,11,12,13,14,15,16,17,7] (by kernel_rfl) (by kernel_rfl) (by kernel_rfl) (fun f=>StoJ.nothing ⟨WdJ.nothing _ _ f hr2,ClJ.nothing _⟩) ?_ ?_
 · intro i hi
   rcases (by have:i < 11:=hi;omega:i=0∨i=1∨i=2∨i=3∨i=4∨i=5∨i=6∨i=7∨i=8∨i=9∨i=10) with rfl | rfl | rfl | rfl | rfl | rfl | rfl | rfl | rfl | rfl | rfl
   all_goals (clear hi;intro o ho lz fz w' A hJ0 hli ha hA K hK;obtain rfl:=Option.some.inj ho;clear ho)
   · have hM:=hJ0.ahead hli (fun hq=>hq.1 0 (by decide))
     obtain ⟨hJ,hC⟩:=hJ0.1 hM
     have hbd:=costOf_le [(6,1)] lz
     simp only [List.map_cons,List.map_nil,List.sum_cons,List.sum_nil] at hbd
     have g4:=slot_out hA 4 _ (by decide) (by decide) rfl
     simp only [List.getD_cons_succ,List.getD_cons_zero] at g4
     have gg4:=slot_get g4
     rw [if_pos (by rfl)]
     have hF:=hK (.pointer (some ⟨G,1,none⟩)) w' (StoJ.step 0 (by decide) hM ⟨hJ.step 0 0 9 (.pointer (some ⟨G,1,none⟩)) rfl rfl rfl (Upd.refl _ _) (hJ.same 0 hJ.rd) rfl,hC.step 0 (by simp)⟩)
     clear hJ hJ0 ha hK hA hli hbd hC hM
     go_simp
     exact hF
   · have hM:=hJ0.ahead hli (fun hq=>hq.1 1 (by decide))
     obtain ⟨hJ,hC⟩:=hJ0.1 hM
     have hbd:=costOf_le [(6,1)] lz
     simp only [List.map_cons,List.map_nil,List.sum_cons,List.sum_nil] at hbd
     have g9:=si hA 9 (hJ.at 0 rfl (ha 0 (by simp [aftersOf,Region.binds])))
     have gg9:=slot_get g9
     rw [if_pos (by rfl)]
     obtain ⟨z0,z1,z2,-,-,-⟩:=HBX.out w' hJ.upd
     have hF:=hK (.slice (some ⟨b,off,none⟩) m2 d2) w' (StoJ.step 1 (by decide) hM ⟨hJ.step 1 1 10 (.slice (some ⟨b,off,none⟩) m2 d2) rfl rfl rfl (Upd.refl _ _) (hJ.same 1 hJ.rd) rfl,hC.step 1 (by simp [ha 0 (by simp [aftersOf,Region.binds])])⟩)
     clear hJ hJ0 ha hK hA hli hbd hC hM
     go_simp
     exact hF
   · have hM:=hJ0.ahead hli (fun hq=>hq.1 2 (by decide))
     obtain ⟨hJ,hC⟩:=hJ0.1 hM
     have hbd:=costOf_le [(6,1)] lz
     simp only [List.map_cons,List.map_nil,List.sum_cons,List.sum_nil] at hbd
     have g0:=slot_out hA 0 _ (by decide) (by decide) rfl
     simp only [List.getD_cons_succ,List.getD_cons_zero] at g0
     have gg0:=slot_get g0
     rw [if_pos (by rfl)]
     have hF:=hK (.pointer (some ⟨R,0,none⟩)) w' (StoJ.step 2 (by decide) hM ⟨hJ.step 2 2 11 (.pointer (some ⟨R,0,none⟩)) rfl rfl rfl (Upd.refl _ _) (hJ.same 2 hJ.rd) rfl,hC.step 2 (by simp)⟩)
     clear hJ hJ0 ha hK hA hli hbd hC hM
     go_simp
     exact hF
   · have hM:=hJ0.ahead hli (fun hq=>hq.1 3 (by decide))
     obtain ⟨hJ,hC⟩:=hJ0.1 hM
     have hbd:=costOf_le [(6,1)] lz
     simp only [List.map_cons,List.map_nil,List.sum_cons,List.sum_nil] at hbd
     have g4:=slot_out hA 4 _ (by decide) (by decide) rfl
     simp only [List.getD_cons_succ,List.getD_cons_zero] at g4
     have gg4:=slot_get g4
     rw [if_pos (by rfl)]
     have hF:=hK (.pointer (some ⟨G,1,none⟩)) w' (StoJ.step 3 (by decide) hM ⟨hJ.step 3 3 12 (.pointer (some ⟨G,1,none⟩)) rfl rfl rfl (Upd.refl _ _) (hJ.same 3 hJ.rd) rfl,hC.step 3 (by simp)⟩)
     clear hJ hJ0 ha hK hA hli hbd hC hM
     go_simp
     exact hF
   · have hM:=hJ0.ahead hli (fun hq=>hq.1 4 (by decide))
     obtain ⟨hJ,hC⟩:=hJ0.1 hM
     have hbd:=costOf_le [(6,1)] lz
     simp only [List.map_cons,List.map_nil,List.sum_cons,List.sum_nil] at hbd
     have g12:=si hA 12 (hJ.at 3 rfl (ha 3 (by simp [aftersOf,Region.binds])))
     have gg12:=slot_get g12
     rw [if_pos (by rfl)]
     obtain ⟨z0,z1,z2,-,-,-⟩:=HBX.out w' hJ.upd
     have hF:=hK (.slice (some ⟨b,off,none⟩) m2 d2) w' (StoJ.step 4 (by decide) hM ⟨hJ.step 4 4 13 (.slice (some ⟨b,off,none⟩) m2 d2) rfl rfl rfl (Upd.refl _ _) (hJ.same 4 hJ.rd) rfl,hC.step 4 (by simp [ha 3 (by simp [aftersOf,Region.binds])])⟩)
     clear hJ hJ0 ha hK hA hli hbd hC hM
     go_simp
     exact hF
   · have hM:=hJ0.ahead hli (fun hq=>hq.1 5 (by decide))
     obtain ⟨hJ,hC⟩:=hJ0.1 hM
     have hbd:=costOf_le [(6,1)] lz
     simp only [List.map_cons,List.map_nil,List.sum_cons,List.sum_nil] at hbd
     have g13:=si hA 13 (hJ.at 4 rfl (ha 4 (by simp [aftersOf,Region.binds])))
     have gg13:=slot_get g13
     rw [if_pos (by rfl)]
     have hF:=hK (.int .i64 (m2:Int)) w' (StoJ.step 5 (by decide) hM ⟨hJ.step 5 5 14 (.int .i64 (m2:Int)) rfl rfl rfl (Upd.refl _ _) (hJ.same 5 hJ.rd) rfl,hC.step 5 (by simp [ha 4 (by simp [aftersOf,Region.binds])])⟩)
     clear hJ hJ0 ha hK hA hli hbd hC hM
     go_simp
     exact hF
   · have hM:=hJ0.ahead hli (fun hq=>hq.1 6 (by decide))
     obtain ⟨hJ,hC⟩:=hJ0.1 hM
     have hbd:=costOf_le [(6,1)] lz
     simp only [List.map_cons,List.map_nil,List.sum_cons,List.sum_nil] at hbd
     have g11:=si hA 11 (hJ.at 2 rfl (ha 2 (by simp [aftersOf,Region.binds])))
     have g14:=si hA 14 (hJ.at 5 rfl (ha 5 (by simp [aftersOf,Region.binds])))
     have gg11:=slot_get g11
     have gg14:=slot_get g14
     rw [if_pos (by rfl)]
     clear hA
     go_simp
     refine (pick_pos R _ (m2:Int) w' hJ.rd (by omega) (by omega) (by omega)).mono ?_
     rintro e9 w9 ⟨x9,rfl,h90,h91,hr9,hu9⟩
     obtain ⟨k9,rfl⟩:∃ k:Nat,x9=k:=⟨x9.toNat,by omega⟩
     exact hK _ w9 (StoJ.step 6 (by decide) hM ⟨hJ.step 6 6 15 (.int .i64 (k9:Int)) rfl rfl rfl hu9 (hJ.asked 6 (by simp) hli hr9) ⟨k9,rfl,by omega⟩,hC.step 6 (by simp [ha 2 (by simp [aftersOf,Region.binds]),ha 5 (by simp [aftersOf,Region.binds])])⟩)
   · have hM:=hJ0.ahead hli (fun hq=>hq.1 7 (by decide))
     obtain ⟨hJ,hC⟩:=hJ0.1 hM
     have hbd:=costOf_le [(6,1)] lz
     simp only [List.map_cons,List.map_nil,List.sum_cons,List.sum_nil] at hbd
     have g10:=si hA 10 (hJ.at 1 rfl (ha 1 (by simp [aftersOf,Region.binds])))
     obtain ⟨k15,hx15,hl15⟩:=hJ.at 6 rfl (ha 6 (by simp [aftersOf,Region.binds]))
     have g15:=si hA 15 hx15
     have gg10:=slot_get g10
     have gg15:=slot_get g15
     rw [if_pos (by rfl)]
     have hF:=hK (.pointer (some ⟨b,off+k15*6,none⟩)) w' (StoJ.step 7 (by decide) hM ⟨hJ.step 7 7 16 (.pointer (some ⟨b,off+k15*6,none⟩)) rfl rfl rfl (Upd.refl _ _) (hJ.same 7 hJ.rd) ⟨k15,rfl,hl15⟩,hC.step 7 (by simp [ha 1 (by simp [aftersOf,Region.binds]),ha 6 (by simp [aftersOf,Region.binds])])⟩)
     clear hJ hJ0 ha hK hA hli hbd hC hM
     go_simp
     exact hF
   · have hM:=hJ0.ahead hli (fun hq=>hq.1 8 (by decide))
     obtain ⟨hJ,hC⟩:=hJ0.1 hM
     have hbd:=costOf_le [(6,1)] lz
     simp only [List.map_cons,List.map_nil,List.sum_cons,List.sum_nil] at hbd
     obtain ⟨k16,hx16,hl16⟩:=hJ.at 7 rfl (ha 7 (by simp [aftersOf,Region.binds]))
     have g16:=si hA 16 hx16
     have gg16:=slot_get g16
     rw [if_pos (by rfl)]
     obtain ⟨a16,n16,c16,hh16⟩:=HHD.out k16 hl16
     obtain ⟨⟨q0,q1,q2,q3,q4,q5⟩,-⟩:=hh16 w' hJ.upd
     have hF:=hK (.agg #[.int .i64 (t.blocks.getD k16 noBlk).bef,.int .i64 (t.blocks.getD k16 noBlk).hgt,.int .i64 (t.blocks.getD k16 noBlk).view,.slice a16 n16 c16,.int .i64 (t.blocks.getD k16 noBlk).root,.int .i64 (t.blocks.getD k16 noBlk).effs]) w' (StoJ.step 8 (by decide) hM ⟨hJ.step 8 8 17 (.agg #[.int .i64 (t.blocks.getD k16 noBlk).bef,.int .i64 (t.blocks.getD k16 noBlk).hgt,.int .i64 (t.blocks.getD k16 noBlk).view,.slice a16 n16 c16,.int .i64 (t.blocks.getD k16 noBlk).root,.int .i64 (t.blocks.getD k16 noBlk).effs]) rfl rfl rfl (Upd.refl _ _) (hJ.same 8 hJ.rd) ⟨k16,a16,n16,c16,rfl,hl16,hh16⟩,hC.step 8 (by simp [ha 7 (by simp [aftersOf,Region.binds])])⟩)
     clear hJ hJ0 ha hK hA hli hbd hC hM
     go_simp
     exact hF
   · have hM:=hJ0.ahead hli (fun hq=>hq.1 9 (by decide))
     obtain ⟨hJ,hC⟩:=hJ0.1 hM
     have hbd:=costOf_le [(6,1)] lz
     simp only [List.map_cons,List.map_nil,List.sum_cons,List.sum_nil] at hbd
     rw [if_pos (by rfl)]
     have hF:=hK (.pointer (some ⟨w'.heap.size,0,none⟩)) (w'.alloc (.cells #[.int .i64 0,.int .i64 0,.int .i64 0,.slice none 0 0,.int .i64 0,.int .i64 0] 56)) (StoJ.step 9 (by decide) hM ⟨hJ.step 9 9 7 (.pointer (some ⟨w'.heap.size,0,none⟩)) rfl rfl rfl ((Upd.refl _ _).alloc _) (hJ.same 9 (hJ.rd.alloc _)) ⟨_,rfl,hJ.upd.size,hJ.rd.lt,bkAt_new w' _ _ _ _ _ _ _⟩,hC.step 9 (by simp)⟩)
     clear hJ hJ0 ha hK hA hli hbd hC hM
     go_simp
     exact hF
   · obtain ⟨hJ,hC⟩:=hJ0.1 hli
     have hbd:=costOf_le [(6,1)] lz
     simp only [List.map_cons,List.map_nil,List.sum_cons,List.sum_nil] at hbd
     obtain ⟨Z7,hx7,hZ7,hR7,hb7⟩:=hJ.at 9 rfl (ha 9 (by simp [aftersOf,Region.binds]))
     have g7:=si hA 7 hx7
     obtain ⟨k17,a17,n17,c17,hx17,hl17,hh17⟩:=hJ.at 8 rfl (ha 8 (by simp [aftersOf,Region.binds]))
     have g17:=si hA 17 hx17
     have gg7:=slot_get g7
     have gg17:=slot_get g17
     rw [if_pos (by rfl)]
     have l9:lz 9=true:=ha 9 (by simp [aftersOf,Region.binds])
     have l8:lz 8=true:=ha 8 (by simp [aftersOf,Region.binds])
     have l7:lz 7=true:=hC (8,[7]) (by simp) l8 7 (by simp)
     have l1:lz 1=true:=hC (7,[1,6]) (by simp) l7 1 (by simp)
     have l0:lz 0=true:=hC (1,[0]) (by simp) l1 0 (by simp)
     have l6:lz 6=true:=hC (7,[1,6]) (by simp) l7 6 (by simp)
     have l2:lz 2=true:=hC (6,[2,5]) (by simp) l6 2 (by simp)
     have l5:lz 5=true:=hC (6,[2,5]) (by simp) l6 5 (by simp)
     have l4:lz 4=true:=hC (5,[4]) (by simp) l5 4 (by simp)
     have l3:lz 3=true:=hC (4,[3]) (by simp) l4 3 (by simp)
     have hall:∀ i,i < 11→(i == 10 || lz i)=true:=fun i hi =>by
      rcases (by omega:i=0∨i=1∨i=2∨i=3∨i=4∨i=5∨i=6∨i=7∨i=8∨i=9∨i=10) with rfl | rfl | rfl | rfl | rfl | rfl | rfl | rfl | rfl | rfl | rfl <;> simp [*]
     have hbf:=hb7.set6 (.int .i64 (t.blocks.getD k17 noBlk).bef) (.int .i64 (t.blocks.getD k17 noBlk).hgt) (.int .i64 (t.blocks.getD k17 noBlk).view) (.slice a17 n17 c17) (.int .i64 (t.blocks.getD k17 noBlk).root) (.int .i64 (t.blocks.getD k17 noBlk).effs)
     have hupd:Upd R w2 ((((((w'.setCell ⟨Z7,0,none⟩ (.int .i64 (t.blocks.getD k17 noBlk).bef)).setCell ⟨Z7,1,none⟩ (.int .i64 (t.blocks.getD k17 noBlk).hgt)).setCell ⟨Z7,2,none⟩ (.int .i64 (t.blocks.getD k17 noBlk).view)).setCell ⟨Z7,3,none⟩ (.slice a17 n17 c17)).setCell ⟨Z7,4,none⟩ (.int .i64 (t.blocks.getD k17 noBlk).root)).setCell ⟨Z7,5,none⟩ (.int .i64 (t.blocks.getD k17 noBlk).effs)):=(((((hJ.upd.setNewT hZ7).setNewT hZ7).setNewT hZ7).setNewT hZ7).setNewT hZ7).setNewT hZ7
     have hrd:=(((((((hJ.rd.mono (show _≤P2+1 by omega)).setT (o:=0) (v:=.int .i64 (t.blocks.getD k17 noBlk).bef) hR7).setT (o:=1) (v:=.int .i64 (t.blocks.getD k17 noBlk).hgt) hR7).setT (o:=2) (v:=.int .i64 (t.blocks.getD k17 noBlk).view) hR7).setT (o:=3) (v:=.slice a17 n17 c17) hR7).setT (o:=4) (v:=.int .i64 (t.blocks.getD k17 noBlk).root) hR7).setT (o:=5) (v:=.int .i64 (t.blocks.getD k17 noBlk).effs) hR7)
     obtain ⟨z0,z1,z2,z3,z4,z5,f0,f1,f2,f3,f4,f5⟩:=hb7
     have hF:=hK undef _ (StoJ.at ⟨fun i hi=>hall i (by omega),_,k17,a17,n17,c17,by simpa using hx7,hZ7,hbf,hl17,hh17,hupd,hrd⟩)
     clear hJ hJ0 ha hK hA hli hbd hC hall hupd hrd hbf
     go_simp
     exact hF
 intro lz fz w5 hall hJ
 obtain ⟨hq0,Z7,k,a,nn,c,hx7,hZ7,hb7,hk,hh,hu5,hr5⟩:=hJ.2 (hall 10 (by decide))
 have HBK0:=Lib.hid hh
 obtain ⟨y,hy⟩:∃ y,y=t.blocks.getD k noBlk:=⟨_,rfl⟩
 rw [← hy] at hb7 HBK0
 have hZR:R < Z7:=by omega
 have HBK:=Lib.hid (fun (W:World) (hu:Upd R w5 W)=>(⟨hb7.updT hu (by omega),(HBK0.out W (hu5.trans hu)).2⟩:BkAt W Z7 (.int .i64 y.bef) (.int .i64 y.hgt) (.int .i64 y.view) (.slice a nn c) (.int .i64 y.root) (.int .i64 y.effs)∧RowA W a nn y.acts))
 have hsz5:G+2≤w5.heap.size:=by have:=hu5.size;omega
 have hZ7l:Z7 < w5.heap.size:=hb7.lt
 have HU5:=Lib.hid hu5
 clear hJ hall hq0 hh hy hb7 hu5 hr2
 obtain ⟨s1,hs1⟩:∃ s,blkSumM y=s:=⟨_,rfl⟩
 have hsb:=blkSumM_bd y
 rw [hs1] at hsb
 have HS1:=Lib.hid hs1
 obtain ⟨s0,hs0⟩:∃ s,max 0 s1=s:=⟨_,rfl⟩
 obtain ⟨v1,hv1⟩:∃ v,min 1000 y.view=v:=⟨_,rfl⟩
 obtain ⟨v0,hv0⟩:∃ v,max 0 v1=v:=⟨_,rfl⟩
 have hs0b:0≤s0∧s0≤1000002:=by omega
 have hv0b:0≤v0∧v0≤1000:=by omega
 have HS0:=Lib.hid hs0
 have HV1:=Lib.hid hv1
 have HV0:=Lib.hid hv0
 clear hs1 hs0 hv1 hv0
 simp only [mixF,List.contains_cons,List.contains_nil]
 go_simp
 clear hx7
 obtain ⟨P5,hP5⟩:∃ p,p=P2+1:=⟨_,rfl⟩
 rw [← hP5] at hr5
 go_upto_region 2 with (fail)
 refine wp_region_light (by kernel_rfl) (StoJ (fun lz fz wz=>WdJ R w5 (P5) [(8,1),(11,1)] [(0,18,Wd.is R (.agg #[.int .i64 y.bef,.int .i64 y.hgt,.int .i64 y.view,.slice a nn c,.int .i64 y.root,.int .i64 y.effs])),(1,19,Wd.is R (.int .i64 s1)),(2,20,Wd.is R (.int .i64 s0)),(3,21,Wd.is R (.pointer (some ⟨Z7,2,none⟩))),(4,22,Wd.is R (.int .i64 y.view)),(5,23,Wd.is R (.int .i64 v1)),(6,24,Wd.is R (.int .i64 v0)),(7,25,Wd.is R (.pointer (some ⟨R,0,none⟩))),(8,26,Wd.int R (0) (15)),(9,27,Wd.lit R 5 (0) (15)),(10,28,Wd.is R (.pointer (some ⟨R,0,none⟩))),(11,29,Wd.int R (0) (4)),(12,30,Wd.to R (0) (15)),(13,31,Wd.int R (0) (15)),(14,32,WdC R s0 v0),(15,8,WdCb R w5)] lz fz wz∧ClJ [(1,[0]),(2,[1]),(4,[3]),(5,[4]),(6,[5]),(8,[7]),(9,[8]),(11,[10]),(12,[9,11]),(13,[12]),(14,[2,6,13])] lz) (fun lz fz wz=>(∀ i,i < 16→lz i=true)∧∃ Zc x,fz 8 = .pointer (some ⟨Zc,0,none⟩)∧w5.heap.size≤Zc∧TrAt wz Zc (.int .i64 s0) (.int .i64 v0) (.int .i64 x)∧(0≤x∧x≤15)∧Upd R w5 wz∧Rd wz R (P5+2)) 16) 67 rfl [18,19,20,21,22,23,24,25,26,27,28,29,30,31,32,8] (by kernel_rfl) (by kernel_rfl) (by kernel_rfl) (fun f=>StoJ.nothing ⟨WdJ.nothing _ _ f hr5,ClJ.nothing _⟩) ?_ ?_
 · intro i hi
   rcases (by have:i < 17:=hi;omega:i=0∨i=1∨i=2∨i=3∨i=4∨i=5∨i=6∨i=7∨i=8∨i=9∨i=10∨i=11∨i=12∨i=13∨i=14∨i=15∨i=16) with rfl | rfl | rfl | rfl | rfl | rfl | rfl | rfl | rfl | rfl | rfl | rfl | rfl | rfl | rfl | rfl | rfl
   all_goals (clear hi;intro o ho lz fz w' A hJ0 hli ha hA K hK;obtain rfl:=Option.some.inj ho;clear ho)
   · have hM:=hJ0.ahead hli (fun hq=>hq.1 0 (by decide))
     obtain ⟨hJ,hC⟩:=hJ0.1 hM
     have hbd:=costOf_le [(8,1),(11,1)] lz
     simp only [List.map_cons,List.map_nil,List.sum_cons,List.sum_nil] at hbd
     have g7:=slot_out hA 7 _ (by decide) (by decide) rfl
     simp only [List.getD_cons_succ,List.getD_cons_zero] at g7
     have gg7:=slot_get g7
     rw [if_pos (by rfl)]
     obtain ⟨⟨k0,k1,k2,k3,k4,k5,-⟩,-⟩:=HBK.out w' hJ.upd
     have hF:=hK (.agg #[.int .i64 y.bef,.int .i64 y.hgt,.int .i64 y.view,.slice a nn c,.int .i64 y.root,.int .i64 y.effs]) w' (StoJ.step 0 (by decide) hM ⟨hJ.step 0 0 18 (.agg #[.int .i64 y.bef,.int .i64 y.hgt,.int .i64 y.view,.slice a nn c,.int .i64 y.root,.int .i64 y.effs]) rfl rfl rfl (Upd.refl _ _) (hJ.same 0 hJ.rd) rfl,hC.step 0 (by simp)⟩)
     clear hJ hJ0 ha hK hA hli hbd hC hM
     go_simp
     exact hF
   · have hM:=hJ0.ahead hli (fun hq=>hq.1 1 (by decide))
     obtain ⟨hJ,hC⟩:=hJ0.1 hM
     have hbd:=costOf_le [(8,1),(11,1)] lz
     simp only [List.map_cons,List.map_nil,List.sum_cons,List.sum_nil] at hbd
     have g18:=si hA 18 (hJ.at 0 rfl (ha 0 (by simp [aftersOf,Region.binds])))
     have gg18:=slot_get g18
     rw [if_pos (by rfl)]
     clear hA
     go_simp
     refine (blockSum_specV y a nn c w' (HBK.out w' hJ.upd).2).mono ?_
     rintro e9 w9 ⟨rfl,hb9⟩
     rw [HS1.out]
     exact hK _ w9 (StoJ.step 1 (by decide) hM ⟨hJ.step 1 1 19 (.int .i64 s1) rfl rfl rfl (Upd.ofBelow R hb9) (hJ.same 1 (hJ.rd.below hb9)) rfl,hC.step 1 (by simp [ha 0 (by simp [aftersOf,Region.binds])])⟩)
   · have hM:=hJ0.ahead hli (fun hq=>hq.1 2 (by decide))
     obtain ⟨hJ,hC⟩:=hJ0.1 hM
     have hbd:=costOf_le [(8,1),(11,1)] lz
     simp only [List.map_cons,List.map_nil,List.sum_cons,List.sum_nil] at hbd
     have g19:=si hA 19 (hJ.at 1 rfl (ha 1 (by simp [aftersOf,Region.binds])))
     have gg19:=slot_get g19
     rw [if_pos (by rfl)]
     have hmx:=HS0.out
     have hF:=hK (.int .i64 s0) w' (StoJ.step 2 (by decide) hM ⟨hJ.step 2 2 20 (.int .i64 s0) rfl rfl rfl (Upd.refl _ _) (hJ.same 2 hJ.rd) rfl,hC.step 2 (by simp [ha 1 (by simp [aftersOf,Region.binds])])⟩)
     clear hJ hJ0 ha hK hA hli hbd hC hM
     go_simp
     exact hF
   · have hM:=hJ0.ahead hli (fun hq=>hq.1 3 (by decide))
     obtain ⟨hJ,hC⟩:=hJ0.1 hM
     have hbd:=costOf_le [(8,1),(11,1)] lz
     simp only [List.map_cons,List.map_nil,List.sum_cons,List.sum_nil] at hbd
     have g7:=slot_out hA 7 _ (by decide) (by decide) rfl
     simp only [List.getD_cons_succ,List.getD_cons_zero] at g7
     have gg7:=slot_get g7
     rw [if_pos (by rfl)]
     have hF:=hK (.pointer (some ⟨Z7,2,none⟩)) w' (StoJ.step 3 (by decide) hM ⟨hJ.step 3 3 21 (.pointer (some ⟨Z7,2,none⟩)) rfl rfl rfl (Upd.refl _ _) (hJ.same 3 hJ.rd) rfl,hC.step 3 (by simp)⟩)
     clear hJ hJ0 ha hK hA hli hbd hC hM
     go_simp
     exact hF
   · have hM:=hJ0.ahead hli (fun hq=>hq.1 4 (by decide))
     obtain ⟨hJ,hC⟩:=hJ0.1 hM
     have hbd:=costOf_le [(8,1),(11,1)] lz
     simp only [List.map_cons,List.map_nil,List.sum_cons,List.sum_nil] at hbd
     have g21:=si hA 21 (hJ.at 3 rfl (ha 3 (by simp [aftersOf,Region.binds])))
     have gg21:=slot_get g21
     rw [if_pos (by rfl)]
     obtain ⟨⟨k0,k1,k2,k3,k4,k5,-⟩,-⟩:=HBK.out w' hJ.upd
     have hF:=hK (.int .i64 y.view) w' (StoJ.step 4 (by decide) hM ⟨hJ.step 4 4 22 (.int .i64 y.view) rfl rfl rfl (Upd.refl _ _) (hJ.same 4 hJ.rd) rfl,hC.step 4 (by simp [ha 3 (by simp [aftersOf,Region.binds])])⟩)
     clear hJ hJ0 ha hK hA hli hbd hC hM
     go_simp
     exact hF
   · have hM:=hJ0.ahead hli (fun hq=>hq.1 5 (by decide))
     obtain ⟨hJ,hC⟩:=hJ0.1 hM
     have hbd:=costOf_le [(8,1),(11,1)] lz
     simp only [List.map_cons,List.map_nil,List.sum_cons,List.sum_nil] at hbd
     have g22:=si hA 22 (hJ.at 4 rfl (ha 4 (by simp [aftersOf,Region.binds])))
     have gg22:=slot_get g22
     rw [if_pos (by rfl)]
     have hmx:=HV1.out
     have hF:=hK (.int .i64 v1) w' (StoJ.step 5 (by decide) hM ⟨hJ.step 5 5 23 (.int .i64 v1) rfl rfl rfl (Upd.refl _ _) (hJ.same 5 hJ.rd) rfl,hC.step 5 (by simp [ha 4 (by simp [aftersOf,Region.binds])])⟩)
     clear hJ hJ0 ha hK hA hli hbd hC hM
     go_simp
     exact hF
   · have hM:=hJ0.ahead hli (fun hq=>hq.1 6 (by decide))
     obtain ⟨hJ,hC⟩:=hJ0.1 hM
     have hbd:=costOf_le [(8,1),(11,1)] lz
     simp only [List.map_cons,List.map_nil,List.sum_cons,List.sum_nil] at hbd
     have g23:=si hA 23 (hJ.at 5 rfl (ha 5 (by simp [aftersOf,Region.binds])))
     have gg23:=slot_get g23
     rw [if_pos (by rfl)]
     have hmx:=HV0.out
     have hF:=hK (.int .i64 v0) w' (StoJ.step 6 (by decide) hM ⟨hJ.step 6 6 24 (.int .i64 v0) rfl rfl rfl (Upd.refl _ _) (hJ.same 6 hJ.rd) rfl,hC.step 6 (by simp [ha 5 (by simp [aftersOf,Region.binds])])⟩)
     clear hJ hJ0 ha hK hA hli hbd hC hM
     go_simp
     exact hF
   · have hM:=hJ0.ahead hli (fun hq=>hq.1 7 (by decide))
     obtain ⟨hJ,hC⟩:=hJ0.1 hM
     have hbd:=costOf_le [(8,1),(11,1)] lz
     simp only [List.map_cons,List.map_nil,List.sum_cons,List.sum_nil] at hbd
     have g0:=slot_out hA 0 _ (by decide) (by decide) rfl
     simp only [List.getD_cons_succ,List.getD_cons_zero] at g0
     have gg0:=slot_get g0
     rw [if_pos (by rfl)]
     have hF:=hK (.pointer (some ⟨R,0,none⟩)) w' (StoJ.step 7 (by decide) hM ⟨hJ.step 7 7 25 (.pointer (some ⟨R,0,none⟩)) rfl rfl rfl (Upd.refl _ _) (hJ.same 7 hJ.rd) rfl,hC.step 7 (by simp)⟩)
     clear hJ hJ0 ha hK hA hli hbd hC hM
     go_simp
     exact hF
   · have hM:=hJ0.ahead hli (fun hq=>hq.1 8 (by decide))
     obtain ⟨hJ,hC⟩:=hJ0.1 hM
     have hbd:=costOf_le [(8,1),(11,1)] lz
     simp only [List.map_cons,List.map_nil,List.sum_cons,List.sum_nil] at hbd
     have g25:=si hA 25 (hJ.at 7 rfl (ha 7 (by simp [aftersOf,Region.binds])))
     have gg25:=slot_get g25
     rw [if_pos (by rfl)]
     clear hA
     go_simp
     refine (pick_pos R _ 16 w' hJ.rd (by omega) (by omega) (by omega)).mono ?_
     rintro e9 w9 ⟨x9,rfl,h90,h91,hr9,hu9⟩
     exact hK _ w9 (StoJ.step 8 (by decide) hM ⟨hJ.step 8 8 26 (.int .i64 x9) rfl rfl rfl hu9 (hJ.asked 8 (by simp) hli hr9) ⟨x9,rfl,by omega,by omega⟩,hC.step 8 (by simp [ha 7 (by simp [aftersOf,Region.binds])])⟩)
   · have hM:=hJ0.ahead hli (fun hq=>hq.1 9 (by decide))
     obtain ⟨hJ,hC⟩:=hJ0.1 hM
     have hbd:=costOf_le [(8,1),(11,1)] lz
     simp only [List.map_cons,List.map_nil,List.sum_cons,List.sum_nil] at hbd
     obtain ⟨x26,hx26,hl26,hu26⟩:=hJ.at 8 rfl (ha 8 (by simp [aftersOf,Region.binds]))
     have g26:=si hA 26 hx26
     have gg26:=slot_get g26
     rw [if_pos (by rfl)]
     have hRw:=hJ.rd.lt
     have hlo:=wd_lit (w:=w') (R:=R) (n:=5) (T:=3) (lo:=0) (hi:=15) (cs:=[7,11,14,15,x26]) hRw rfl (by intro z hz;simp only [List.mem_cons,List.not_mem_nil,or_false] at hz;omega)
     have hF:=hK (.slice (some ⟨w'.heap.size,0,none⟩) 5 5) (w'.alloc (.cells #[.int .i64 (7),.int .i64 (11),.int .i64 (14),.int .i64 (15),.int .i64 (x26)] 3)) (StoJ.step 9 (by decide) hM ⟨hJ.step 9 9 27 (.slice (some ⟨w'.heap.size,0,none⟩) 5 5) rfl rfl rfl ((Upd.refl _ _).alloc _) (hJ.same 9 (hJ.rd.alloc _)) hlo,hC.step 9 (by simp [ha 8 (by simp [aftersOf,Region.binds])])⟩)
     clear hJ hJ0 ha hK hA hli hbd hC hM
     go_simp
     exact hF
   · have hM:=hJ0.ahead hli (fun hq=>hq.1 10 (by decide))
     obtain ⟨hJ,hC⟩:=hJ0.1 hM
     have hbd:=costOf_le [(8,1),(11,1)] lz
     simp only [List.map_cons,List.map_nil,List.sum_cons,List.sum_nil] at hbd
     have g0:=slot_out hA 0 _ (by decide) (by decide) rfl
     simp only [List.getD_cons_succ,List.getD_cons_zero] at g0
     have gg0:=slot_get g0
     rw [if_pos (by rfl)]
     have hF:=hK (.pointer (some ⟨R,0,none⟩)) w' (StoJ.step 10 (by decide) hM ⟨hJ.step 10 10 28 (.pointer (some ⟨R,0,none⟩)) rfl rfl rfl (Upd.refl _ _) (hJ.same 10 hJ.rd) rfl,hC.step 10 (by simp)⟩)
     clear hJ hJ0 ha hK hA hli hbd hC hM
     go_simp
     exact hF
   · have hM:=hJ0.ahead hli (fun hq=>hq.1 11 (by decide))
     obtain ⟨hJ,hC⟩:=hJ0.1 hM
     have hbd:=costOf_le [(8,1),(11,1)] lz
     simp only [List.map_cons,List.map_nil,List.sum_cons,List.sum_nil] at hbd
     have g28:=si hA 28 (hJ.at 10 rfl (ha 10 (by simp [aftersOf,Region.binds])))
     have gg28:=slot_get g28
     rw [if_pos (by rfl)]
     clear hA
     go_simp
     refine (pick_pos R _ 5 w' hJ.rd (by omega) (by omega) (by omega)).mono ?_
     rintro e9 w9 ⟨x9,rfl,h90,h91,hr9,hu9⟩
     exact hK _ w9 (StoJ.step 11 (by decide) hM ⟨hJ.step 11 11 29 (.int .i64 x9) rfl rfl rfl hu9 (hJ.asked 11 (by simp) hli hr9) ⟨x9,rfl,by omega,by omega⟩,hC.step 11 (by simp [ha 10 (by simp [aftersOf,Region.binds])])⟩)
   · have hM:=hJ0.ahead hli (fun hq=>hq.1 12 (by decide))
     obtain ⟨hJ,hC⟩:=hJ0.1 hM
     have hbd:=costOf_le [(8,1),(11,1)] lz
     simp only [List.map_cons,List.map_nil,List.sum_cons,List.sum_nil] at hbd
     obtain ⟨q27,hx27,hg27,hc27⟩:=hJ.at 9 rfl (ha 9 (by simp [aftersOf,Region.binds]))
     have g27:=si hA 27 hx27
     obtain ⟨x29,hx29,hl29,hu29⟩:=hJ.at 11 rfl (ha 11 (by simp [aftersOf,Region.binds]))
     have g29:=si hA 29 hx29
     have gg27:=slot_get g27
     have gg29:=slot_get g29
     rw [if_pos (by rfl)]
     obtain ⟨y,hy,hy0,hy1⟩:=hc27 x29.toNat (by omega)
     have hx2:x29 < 5:=by omega
     have hF:=hK (.pointer (some ⟨q27,x29.toNat,none⟩)) w' (StoJ.step 12 (by decide) hM ⟨hJ.step 12 12 30 (.pointer (some ⟨q27,x29.toNat,none⟩)) rfl rfl rfl (Upd.refl _ _) (hJ.same 12 hJ.rd) ⟨_,_,rfl,hg27,y,hy,hy0,hy1⟩,hC.step 12 (by simp [ha 9 (by simp [aftersOf,Region.binds]),ha 11 (by simp [aftersOf,Region.binds])])⟩)
     clear hJ hJ0 ha hK hA hli hbd hC hM
     go_simp
     exact hF
   · have hM:=hJ0.ahead hli (fun hq=>hq.1 13 (by decide))
     obtain ⟨hJ,hC⟩:=hJ0.1 hM
     have hbd:=costOf_le [(8,1),(11,1)] lz
     simp only [List.map_cons,List.map_nil,List.sum_cons,List.sum_nil] at hbd
     obtain ⟨q30,i30,hx30,hg30,y30,hy30,hl30,hu30⟩:=hJ.at 12 rfl (ha 12 (by simp [aftersOf,Region.binds]))
     have g30:=si hA 30 hx30
     have gg30:=slot_get g30
     rw [if_pos (by rfl)]
     have hF:=hK (.int .i64 y30) w' (StoJ.step 13 (by decide) hM ⟨hJ.step 13 13 31 (.int .i64 y30) rfl rfl rfl (Upd.refl _ _) (hJ.same 13 hJ.rd) ⟨_,rfl,hl30,hu30⟩,hC.step 13 (by simp [ha 12 (by simp [aftersOf,Region.binds])])⟩)
     clear hJ hJ0 ha hK hA hli hbd hC hM
     go_simp
     exact hF
   · have hM:=hJ0.ahead hli (fun hq=>hq.1 14 (by decide))
     obtain ⟨hJ,hC⟩:=hJ0.1 hM
     have hbd:=costOf_le [(8,1),(11,1)] lz
     simp only [List.map_cons,List.map_nil,List.sum_cons,List.sum_nil] at hbd
     have g20:=si hA 20 (hJ.at 2 rfl (ha 2 (by simp [aftersOf,Region.binds])))
     have g24:=si hA 24 (hJ.at 6 rfl (ha 6 (by simp [aftersOf,Region.binds])))
     obtain ⟨x31,hx31,hl31,hu31⟩:=hJ.at 13 rfl (ha 13 (by simp [aftersOf,Region.binds]))
     have g31:=si hA 31 hx31
     have gg20:=slot_get g20
     have gg24:=slot_get g24
     have gg31:=slot_get g31
     rw [if_pos (by rfl)]
     have hF:=hK (.agg #[.int .i64 s0,.int .i64 v0,.int .i64 x31]) w' (StoJ.step 14 (by decide) hM ⟨hJ.step 14 14 32 (.agg #[.int .i64 s0,.int .i64 v0,.int .i64 x31]) rfl rfl rfl (Upd.refl _ _) (hJ.same 14 hJ.rd) ⟨x31,rfl,hl31,hu31⟩,hC.step 14 (by simp [ha 2 (by simp [aftersOf,Region.binds]),ha 6 (by simp [aftersOf,Region.binds]),ha 13 (by simp [aftersOf,Region.binds])])⟩)
     clear hJ hJ0 ha hK hA hli hbd hC hM
     go_simp
     exact hF
   · have hM:=hJ0.ahead hli (fun hq=>hq.1 15 (by decide))
     obtain ⟨hJ,hC⟩:=hJ0.1 hM
     have hbd:=costOf_le [(8,1),(11,1)] lz
     simp only [List.map_cons,List.map_nil,List.sum_cons,List.sum_nil] at hbd
     rw [if_pos (by rfl)]
     have hF:=hK (.pointer (some ⟨w'.heap.size,0,none⟩)) (w'.alloc (.cells #[.int .i64 0,.int .i64 0,.int .i64 0] 24)) (StoJ.step 15 (by decide) hM ⟨hJ.step 15 15 8 (.pointer (some ⟨w'.heap.size,0,none⟩)) rfl rfl rfl ((Upd.refl _ _).alloc _) (hJ.same 15 (hJ.rd.alloc _)) ⟨_,rfl,hJ.upd.size,hJ.rd.lt,trAt_new w' _ _ _ _⟩,hC.step 15 (by simp)⟩)
     clear hJ hJ0 ha hK hA hli hbd hC hM
     go_simp
     exact hF
   · obtain ⟨hJ,hC⟩:=hJ0.1 hli
     have hbd:=costOf_le [(8,1),(11,1)] lz
     simp only [List.map_cons,List.map_nil,List.sum_cons,List.sum_nil] at hbd
     obtain ⟨Z8,hx8,hZ8,hR8,hb8⟩:=hJ.at 15 rfl (ha 15 (by simp [aftersOf,Region.binds]))
     have g8:=si hA 8 hx8
     obtain ⟨x32,hx32,hl32,hu32⟩:=hJ.at 14 rfl (ha 14 (by simp [aftersOf,Region.binds]))
     have g32:=si hA 32 hx32
     have gg8:=slot_get g8
     have gg32:=slot_get g32
     rw [if_pos (by rfl)]
     have l15:lz 15=true:=ha 15 (by simp [aftersOf,Region.binds])
     have l14:lz 14=true:=ha 14 (by simp [aftersOf,Region.binds])
     have l2:lz 2=true:=hC (14,[2,6,13]) (by simp) l14 2 (by simp)
     have l1:lz 1=true:=hC (2,[1]) (by simp) l2 1 (by simp)
     have l0:lz 0=true:=hC (1,[0]) (by simp) l1 0 (by simp)
     have l6:lz 6=true:=hC (14,[2,6,13]) (by simp) l14 6 (by simp)
     have l5:lz 5=true:=hC (6,[5]) (by simp) l6 5 (by simp)
     have l4:lz 4=true:=hC (5,[4]) (by simp) l5 4 (by simp)
     have l3:lz 3=true:=hC (4,[3]) (by simp) l4 3 (by simp)
     have l13:lz 13=true:=hC (14,[2,6,13]) (by simp) l14 13 (by simp)
     have l12:lz 12=true:=hC (13,[12]) (by simp) l13 12 (by simp)
     have l9:lz 9=true:=hC (12,[9,11]) (by simp) l12 9 (by simp)
     have l8:lz 8=true:=hC (9,[8]) (by simp) l9 8 (by simp)
     have l7:lz 7=true:=hC (8,[7]) (by simp) l8 7 (by simp)
     have l11:lz 11=true:=hC (12,[9,11]) (by simp) l12 11 (by simp)
     have l10:lz 10=true:=hC (11,[10]) (by simp) l11 10 (by simp)
     have hall:∀ i,i < 17→(i == 16 || lz i)=true:=fun i hi =>by
      rcases (by omega:i=0∨i=1∨i=2∨i=3∨i=4∨i=5∨i=6∨i=7∨i=8∨i=9∨i=10∨i=11∨i=12∨i=13∨i=14∨i=15∨i=16) with rfl | rfl | rfl | rfl | rfl | rfl | rfl | rfl | rfl | rfl | rfl | rfl | rfl | rfl | rfl | rfl | rfl <;> simp [*]
     have hbf:=hb8.set3b (.int .i64 s0) (.int .i64 v0) (.int .i64 x32)
     have hupd:=set3b_upd (v1:=.int .i64 s0) (v2:=.int .i64 v0) (v3:=.int .i64 x32) hJ.upd hZ8
     have hrd:=set3b_rd (v1:=.int .i64 s0) (v2:=.int .i64 v0) (v3:=.int .i64 x32) (hJ.rd.mono (show _≤P5+2 by omega)) hR8
     obtain ⟨z0,z1,z2,f0,f1,f2⟩:=hb8
     have hF:=hK undef _ (StoJ.at ⟨fun i hi=>hall i (by omega),_,x32,by simpa using hx8,hZ8,hbf,⟨hl32,hu32⟩,hupd,hrd⟩)
     clear hJ hJ0 ha hK hA hli hbd hC hall hupd hrd hbf
     unfold set3b at hF
     go_simp
     exact hF
 intro lz fz w8 hall hJ
 obtain ⟨hq0,Z8,x8,hx8,hZ8,hb8,hxb,hu8,hr8⟩:=hJ.2 (hall 16 (by decide))
 have hu28:=HU5.out.trans hu8
 have hZ8R:R < Z8:=by omega
 have hZ82:w2.heap.size≤Z8:=by have:=HU5.out.size;omega
 rw [hP5] at hr8
 have hr8':Rd w8 R (P2+3):=hr8
 clear hJ hall hq0 hu8 hr8
 simp only [mixF,List.contains_cons,List.contains_nil]
 go_simp
 clear hx8 HBK HS1 HS0 HV1 HV0 hsz5 hZ7l HU5 HBX HBK0 HHD
 have HFIN:=Lib.hid (fun (F:World) (s v g:Int) (hs : -1≤s∧s≤1000003) (hv : -1≤v∧v≤1001) (hg : -1≤g∧g≤16) (hu:Upd R w2 F) (hr:Rd F R (P2+7))=>(⟨s,v,g,rfl,hs,hv,hg,by rw [HP2.out] at hr;exact set3b_rd hr (by omega),set3b_upd (HU0.out.trans hu) (by have:=HGE.out;omega)⟩:DrawCt w R P 7 (.returned (.agg #[.int .i64 s,.int .i64 v,.int .i64 g])) (set3b F (G+1) (.int .i64 s) (.int .i64 v) (.int .i64 g))))
 go_wp2_with fail
 refine (odd_any R _ 9 _ hr8' (by omega) (by omega) (by omega)).mono ?_;rintro e w9 ⟨x3,rfl,hr9,hu9⟩
 have hb9:=hb8.upd hu9 (by omega)
 have hu29:=hu28.trans hu9
 clear hb8 hu28 hr8' hu9
 cases x3 with
 | false =>
  go_wp2_with fail
  refine (odd_any R _ n _ hr9 (by omega) (by omega) hn0).mono ?_;rintro e wA ⟨xA,rfl,hrA,huA⟩
  have hbA:=hb9.upd huA (by omega)
  have hu2A:=hu29.trans huA
  clear hb9 hu29 hr9 huA
  cases xA with
  | false =>
   have hE:=HEX.out wA hu2A
   have HF:=Lib.hid (hE.set3b (.int .i64 s0) (.int .i64 v0) (.int .i64 x8))
   have HRET:=Lib.hid (HFIN.out wA s0 v0 x8 (by omega) (by omega) (by omega) hu2A (hrA.mono (by omega)))
   obtain ⟨e0,e1,e2,f0,f1,f2⟩:=hE
   obtain ⟨c0,c1,c2,-⟩:=hbA
   unfold set3b at HF HRET
   clear hu2A hrA HFIN HEX
   go_wp2_with fail
   exact bodyPost_ret (results_crt Try.results23 _ (by rfl) HF.out) rfl HRET.out
  | true =>
   go_wp2_with fail
   refine (pick_pos R _ 3 _ hrA (by omega) (by omega) (by omega)).mono ?_;rintro e wB ⟨xB,rfl,hB0,hB1,hrB,huB⟩
   have hbB:=hbA.upd huB (by omega)
   have hu2B:=hu2A.trans huB
   clear hbA hu2A hrA huB
   rcases (by omega:xB=0∨xB=1∨xB=2) with rfl | rfl | rfl
   · have HP:=Lib.hid (pick_pos R _ 2 (wB.alloc (.cells #[.int .i64 (-1),.int .i64 1000003] 3)) (hrB.alloc _) (by omega) (by omega) (by omega))
     have ha0:(wB.alloc (.cells #[.int .i64 (-1),.int .i64 1000003] 3)).cell? ⟨wB.heap.size,0,none⟩=some (.int .i64 (-1)):=by simp [go_sem]
     have ha1:(wB.alloc (.cells #[.int .i64 (-1),.int .i64 1000003] 3)).cell? ⟨wB.heap.size,1,none⟩=some (.int .i64 1000003):=by simp [go_sem]
     have hRB:=hrB.lt
     have hbC0:=hbB.upd ((Upd.refl R wB).alloc (.cells #[.int .i64 (-1),.int .i64 1000003] 3)) (by omega)
     have huC0:=hu2B.alloc (.cells #[.int .i64 (-1),.int .i64 1000003] 3)
     clear hbB hu2B hrB
     go_wp2_with fail
     refine HP.out.mono ?_;rintro e wC ⟨xi,rfl,hi0,hi1,hrC,huC⟩
     obtain ⟨j,rfl⟩:∃ j:Nat,xi=j:=⟨xi.toNat,by omega⟩
     obtain ⟨z,hz,hzb⟩:∃ z:Int,wC.cell? ⟨wB.heap.size,j,none⟩=some (.int .i64 z)∧-1≤z∧z≤1000003:=by
      rcases (by omega:j=0∨j=1) with rfl | rfl
      · exact ⟨_,huC.cell ha0 (by omega),by omega,by omega⟩
      · exact ⟨_,huC.cell ha1 (by omega),by omega,by omega⟩
     have hbC:=hbC0.upd huC (by omega)
     have hu2C:=huC0.trans huC
     clear ha0 ha1 hRB hbC0 huC0 huC HP
     obtain ⟨B8,hB8⟩:∃ B8,B8=wB.heap.size:=⟨_,rfl⟩
     rw [← hB8] at hz ⊢
     clear hB8
     have hbD:=hbC.set0 (.int .i64 z)
     have hu2D:=hu2C.setNewT (o:=0) (v:=.int .i64 z) hZ82
     have hrD:=hrC.setT (o:=0) (v:=.int .i64 z) hZ8R
     obtain ⟨c0,c1,c2,f0,f1,f2⟩:=hbC
     go_upto_region 12 with (fail)
     clear c0 c1 c2 f0 f1 f2 hz
     generalize hww:World.setCell wC _ _=wD at hbD hu2D hrD ⊢
     clear hww hrC hu2C
     have hE:=HEX.out wD hu2D
     have HF:=Lib.hid (hE.set3b (.int .i64 z) (.int .i64 v0) (.int .i64 x8))
     have HRET:=Lib.hid (HFIN.out wD z v0 x8 (by omega) (by omega) (by omega) hu2D (hrD.mono (by omega)))
     obtain ⟨e0,e1,e2,f0,f1,f2⟩:=hE
     obtain ⟨c0,c1,c2,-⟩:=hbD
     unfold set3b at HF HRET
     clear hu2D hrD HFIN HEX
     go_wp2_with fail
     exact bodyPost_ret (results_crt Try.results23 _ (by rfl) HF.out) rfl HRET.out
   · have HP:=Lib.hid (pick_pos R _ 2 (wB.alloc (.cells #[.int .i64 (-1),.int .i64 1001] 3)) (hrB.alloc _) (by omega) (by omega) (by omega))
     have ha0:(wB.alloc (.cells #[.int .i64 (-1),.int .i64 1001] 3)).cell? ⟨wB.heap.size,0,none⟩=some (.int .i64 (-1)):=by simp [go_sem]
     have ha1:(wB.alloc (.cells #[.int .i64 (-1),.int .i64 1001] 3)).cell? ⟨wB.heap.size,1,none⟩=some (.int .i64 1001):=by simp [go_sem]
     have hRB:=hrB.lt
     have hbC0:=hbB.upd ((Upd.refl R wB).alloc (.cells #[.int .i64 (-1),.int .i64 1001] 3)) (by omega)
     have huC0:=hu2B.alloc (.cells #[.int .i64 (-1),.int .i64 1001] 3)
     clear hbB hu2B hrB
     go_wp2_with fail
     refine HP.out.mono ?_;rintro e wC ⟨xi,rfl,hi0,hi1,hrC,huC⟩
     obtain ⟨j,rfl⟩:∃ j:Nat,xi=j:=⟨xi.toNat,by omega⟩
     obtain ⟨z,hz,hzb⟩:∃ z:Int,wC.cell? ⟨wB.heap.size,j,none⟩=some (.int .i64 z)∧-1≤z∧z≤1001:=by
      rcases (by omega:j=0∨j=1) with rfl | rfl
      · exact ⟨_,huC.cell ha0 (by omega),by omega,by omega⟩
      · exact ⟨_,huC.cell ha1 (by omega),by omega,by omega⟩
     have hbC:=hbC0.upd huC (by omega)
     have hu2C:=huC0.trans huC
     clear ha0 ha1 hRB hbC0 huC0 huC HP
     obtain ⟨B8,hB8⟩:∃ B8,B8=wB.heap.size:=⟨_,rfl⟩
     rw [← hB8] at hz ⊢
     clear hB8
     have hbD:=hbC.set1 (.int .i64 z)
     have hu2D:=hu2C.setNewT (o:=1) (v:=.int .i64 z) hZ82
     have hrD:=hrC.setT (o:=1) (v:=.int .i64 z) hZ8R
     obtain ⟨c0,c1,c2,f0,f1,f2⟩:=hbC
     go_upto_region 12 with (fail)
     clear c0 c1 c2 f0 f1 f2 hz
     generalize hww:World.setCell wC _ _=wD at hbD hu2D hrD ⊢
     clear hww hrC hu2C
     have hE:=HEX.out wD hu2D
     have HF:=Lib.hid (hE.set3b (.int .i64 s0) (.int .i64 z) (.int .i64 x8))
     have HRET:=Lib.hid (HFIN.out wD s0 z x8 (by omega) (by omega) (by omega) hu2D (hrD.mono (by omega)))
     obtain ⟨e0,e1,e2,f0,f1,f2⟩:=hE
     obtain ⟨c0,c1,c2,-⟩:=hbD
     unfold set3b at HF HRET
     clear hu2D hrD HFIN HEX
     go_wp2_with fail
     exact bodyPost_ret (results_crt Try.results23 _ (by rfl) HF.out) rfl HRET.out
   · have HP:=Lib.hid (pick_pos R _ 2 (wB.alloc (.cells #[.int .i64 (-1),.int .i64 16] 3)) (hrB.alloc _) (by omega) (by omega) (by omega))
     have ha0:(wB.alloc (.cells #[.int .i64 (-1),.int .i64 16] 3)).cell? ⟨wB.heap.size,0,none⟩=some (.int .i64 (-1)):=by simp [go_sem]
     have ha1:(wB.alloc (.cells #[.int .i64 (-1),.int .i64 16] 3)).cell? ⟨wB.heap.size,1,none⟩=some (.int .i64 16):=by simp [go_sem]
     have hRB:=hrB.lt
     have hbC0:=hbB.upd ((Upd.refl R wB).alloc (.cells #[.int .i64 (-1),.int .i64 16] 3)) (by omega)
     have huC0:=hu2B.alloc (.cells #[.int .i64 (-1),.int .i64 16] 3)
     clear hbB hu2B hrB
     go_wp2_with fail
     refine HP.out.mono ?_;rintro e wC ⟨xi,rfl,hi0,hi1,hrC,huC⟩
     obtain ⟨j,rfl⟩:∃ j:Nat,xi=j:=⟨xi.toNat,by omega⟩
     obtain ⟨z,hz,hzb⟩:∃ z:Int,wC.cell? ⟨wB.heap.size,j,none⟩=some (.int .i64 z)∧-1≤z∧z≤16:=by
      rcases (by omega:j=0∨j=1) with rfl | rfl
      · exact ⟨_,huC.cell ha0 (by omega),by omega,by omega⟩
      · exact ⟨_,huC.cell ha1 (by omega),by omega,by omega⟩
     have hbC:=hbC0.upd huC (by omega)
     have hu2C:=huC0.trans huC
     clear ha0 ha1 hRB hbC0 huC0 huC HP
     obtain ⟨B8,hB8⟩:∃ B8,B8=wB.heap.size:=⟨_,rfl⟩
     rw [← hB8] at hz ⊢
     clear hB8
     have hbD:=hbC.set2 (.int .i64 z)
     have hu2D:=hu2C.setNewT (o:=2) (v:=.int .i64 z) hZ82
     have hrD:=hrC.setT (o:=2) (v:=.int .i64 z) hZ8R
     obtain ⟨c0,c1,c2,f0,f1,f2⟩:=hbC
     go_upto_region 12 with (fail)
     clear c0 c1 c2 f0 f1 f2 hz
     generalize hww:World.setCell wC _ _=wD at hbD hu2D hrD ⊢
     clear hww hrC hu2C
     have hE:=HEX.out wD hu2D
     have HF:=Lib.hid (hE.set3b (.int .i64 s0) (.int .i64 v0) (.int .i64 z))
     have HRET:=Lib.hid (HFIN.out wD s0 v0 z (by omega) (by omega) (by omega) hu2D (hrD.mono (by omega)))
     obtain ⟨e0,e1,e2,f0,f1,f2⟩:=hE
     obtain ⟨c0,c1,c2,-⟩:=hbD
     unfold set3b at HF HRET
     clear hu2D hrD HFIN HEX
     go_wp2_with fail
     exact bodyPost_ret (results_crt Try.results23 _ (by rfl) HF.out) rfl HRET.out
 | true =>
  have hvw:IntKind.i64.wrap (v0+1)=v0+1:=IntWalk.i64_in _ (by omega)
  have hb10:=hb9.set1 (.int .i64 (v0+1))
  have hu210:=hu29.setNewT (o:=1) (v:=.int .i64 (v0+1)) hZ82
  have hr10:=hr9.setT (o:=1) (v:=.int .i64 (v0+1)) hZ8R
  obtain ⟨c0,c1,c2,f0,f1,f2⟩:=hb9
  go_upto_region 5 with (fail)
  clear c0 c1 c2 f0 f1 f2 hvw
  obtain ⟨vx,hvx⟩:∃ x,x=v0+1:=⟨_,rfl⟩
  have hvxb:0≤vx∧vx≤1001:=by omega
  rw [← hvx] at hb10 hu210 hr10 ⊢
  clear hvx
  generalize hww:World.setCell w9 _ _=w10 at hb10 hu210 hr10 ⊢
  clear hww hr9 hu29
  go_wp2_with fail
  refine (odd_any R _ n _ hr10 (by omega) (by omega) hn0).mono ?_;rintro e wA ⟨xA,rfl,hrA,huA⟩
  have hbA:=hb10.upd huA (by omega)
  have hu2A:=hu210.trans huA
  clear hb10 hu210 hr10 huA
  cases xA with
  | false =>
   have hE:=HEX.out wA hu2A
   have HF:=Lib.hid (hE.set3b (.int .i64 s0) (.int .i64 vx) (.int .i64 x8))
   have HRET:=Lib.hid (HFIN.out wA s0 vx x8 (by omega) (by omega) (by omega) hu2A (hrA.mono (by omega)))
   obtain ⟨e0,e1,e2,f0,f1,f2⟩:=hE
   obtain ⟨c0,c1,c2,-⟩:=hbA
   unfold set3b at HF HRET
   clear hu2A hrA HFIN HEX
   go_wp2_with fail
   exact bodyPost_ret (results_crt Try.results23 _ (by rfl) HF.out) rfl HRET.out
  | true =>
   go_wp2_with fail
   refine (pick_pos R _ 3 _ hrA (by omega) (by omega) (by omega)).mono ?_;rintro e wB ⟨xB,rfl,hB0,hB1,hrB,huB⟩
   have hbB:=hbA.upd huB (by omega)
   have hu2B:=hu2A.trans huB
   clear hbA hu2A hrA huB
   rcases (by omega:xB=0∨xB=1∨xB=2) with rfl | rfl | rfl
   · have HP:=Lib.hid (pick_pos R _ 2 (wB.alloc (.cells #[.int .i64 (-1),.int .i64 1000003] 3)) (hrB.alloc _) (by omega) (by omega) (by omega))
     have ha0:(wB.alloc (.cells #[.int .i64 (-1),.int .i64 1000003] 3)).cell? ⟨wB.heap.size,0,none⟩=some (.int .i64 (-1)):=by simp [go_sem]
     have ha1:(wB.alloc (.cells #[.int .i64 (-1),.int .i64 1000003] 3)).cell? ⟨wB.heap.size,1,none⟩=some (.int .i64 1000003):=by simp [go_sem]
     have hRB:=hrB.lt
     have hbC0:=hbB.upd ((Upd.refl R wB).alloc (.cells #[.int .i64 (-1),.int .i64 1000003] 3)) (by omega)
     have huC0:=hu2B.alloc (.cells #[.int .i64 (-1),.int .i64 1000003] 3)
     clear hbB hu2B hrB
     go_wp2_with fail
     refine HP.out.mono ?_;rintro e wC ⟨xi,rfl,hi0,hi1,hrC,huC⟩
     obtain ⟨j,rfl⟩:∃ j:Nat,xi=j:=⟨xi.toNat,by omega⟩
     obtain ⟨z,hz,hzb⟩:∃ z:Int,wC.cell? ⟨wB.heap.size,j,none⟩=some (.int .i64 z)∧-1≤z∧z≤1000003:=by
      rcases (by omega:j=0∨j=1) with rfl | rfl
      · exact ⟨_,huC.cell ha0 (by omega),by omega,by omega⟩
      · exact ⟨_,huC.cell ha1 (by omega),by omega,by omega⟩
     have hbC:=hbC0.upd huC (by omega)
     have hu2C:=huC0.trans huC
     clear ha0 ha1 hRB hbC0 huC0 huC HP
     obtain ⟨B8,hB8⟩:∃ B8,B8=wB.heap.size:=⟨_,rfl⟩
     rw [← hB8] at hz ⊢
     clear hB8
     have hbD:=hbC.set0 (.int .i64 z)
     have hu2D:=hu2C.setNewT (o:=0) (v:=.int .i64 z) hZ82
     have hrD:=hrC.setT (o:=0) (v:=.int .i64 z) hZ8R
     obtain ⟨c0,c1,c2,f0,f1,f2⟩:=hbC
     go_upto_region 12 with (fail)
     clear c0 c1 c2 f0 f1 f2 hz
     generalize hww:World.setCell wC _ _=wD at hbD hu2D hrD ⊢
     clear hww hrC hu2C
     have hE:=HEX.out wD hu2D
     have HF:=Lib.hid (hE.set3b (.int .i64 z) (.int .i64 vx) (.int .i64 x8))
     have HRET:=Lib.hid (HFIN.out wD z vx x8 (by omega) (by omega) (by omega) hu2D (hrD.mono (by omega)))
     obtain ⟨e0,e1,e2,f0,f1,f2⟩:=hE
     obtain ⟨c0,c1,c2,-⟩:=hbD
     unfold set3b at HF HRET
     clear hu2D hrD HFIN HEX
     go_wp2_with fail
     exact bodyPost_ret (results_crt Try.results23 _ (by rfl) HF.out) rfl HRET.out
   · have HP:=Lib.hid (pick_pos R _ 2 (wB.alloc (.cells #[.int .i64 (-1),.int .i64 1001] 3)) (hrB.alloc _) (by omega) (by omega) (by omega))
     have ha0:(wB.alloc (.cells #[.int .i64 (-1),.int .i64 1001] 3)).cell? ⟨wB.heap.size,0,none⟩=some (.int .i64 (-1)):=by simp [go_sem]
     have ha1:(wB.alloc (.cells #[.int .i64 (-1),.int .i64 1001] 3)).cell? ⟨wB.heap.size,1,none⟩=some (.int .i64 1001):=by simp [go_sem]
     have hRB:=hrB.lt
     have hbC0:=hbB.upd ((Upd.refl R wB).alloc (.cells #[.int .i64 (-1),.int .i64 1001] 3)) (by omega)
     have huC0:=hu2B.alloc (.cells #[.int .i64 (-1),.int .i64 1001] 3)
     clear hbB hu2B hrB
     go_wp2_with fail
     refine HP.out.mono ?_;rintro e wC ⟨xi,rfl,hi0,hi1,hrC,huC⟩
     obtain ⟨j,rfl⟩:∃ j:Nat,xi=j:=⟨xi.toNat,by omega⟩
     obtain ⟨z,hz,hzb⟩:∃ z:Int,wC.cell? ⟨wB.heap.size,j,none⟩=some (.int .i64 z)∧-1≤z∧z≤1001:=by
      rcases (by omega:j=0∨j=1) with rfl | rfl
      · exact ⟨_,huC.cell ha0 (by omega),by omega,by omega⟩
      · exact ⟨_,huC.cell ha1 (by omega),by omega,by omega⟩
     have hbC:=hbC0.upd huC (by omega)
     have hu2C:=huC0.trans huC
     clear ha0 ha1 hRB hbC0 huC0 huC HP
     obtain ⟨B8,hB8⟩:∃ B8,B8=wB.heap.size:=⟨_,rfl⟩
     rw [← hB8] at hz ⊢
     clear hB8
     have hbD:=hbC.set1 (.int .i64 z)
     have hu2D:=hu2C.setNewT (o:=1) (v:=.int .i64 z) hZ82
     have hrD:=hrC.setT (o:=1) (v:=.int .i64 z) hZ8R
     obtain ⟨c0,c1,c2,f0,f1,f2⟩:=hbC
     go_upto_region 12 with (fail)
     clear c0 c1 c2 f0 f1 f2 hz
     generalize hww:World.setCell wC _ _=wD at hbD hu2D hrD ⊢
     clear hww hrC hu2C
     have hE:=HEX.out wD hu2D
     have HF:=Lib.hid (hE.set3b (.int .i64 s0) (.int .i64 z) (.int .i64 x8))
     have HRET:=Lib.hid (HFIN.out wD s0 z x8 (by omega) (by omega) (by omega) hu2D (hrD.mono (by omega)))
     obtain ⟨e0,e1,e2,f0,f1,f2⟩:=hE
     obtain ⟨c0,c1,c2,-⟩:=hbD
     unfold set3b at HF HRET
     clear hu2D hrD HFIN HEX
     go_wp2_with fail
     exact bodyPost_ret (results_crt Try.results23 _ (by rfl) HF.out) rfl HRET.out
   · have HP:=Lib.hid (pick_pos R _ 2 (wB.alloc (.cells #[.int .i64 (-1),.int .i64 16] 3)) (hrB.alloc _) (by omega) (by omega) (by omega))
     have ha0:(wB.alloc (.cells #[.int .i64 (-1),.int .i64 16] 3)).cell? ⟨wB.heap.size,0,none⟩=some (.int .i64 (-1)):=by simp [go_sem]
     have ha1:(wB.alloc (.cells #[.int .i64 (-1),.int .i64 16] 3)).cell? ⟨wB.heap.size,1,none⟩=some (.int .i64 16):=by simp [go_sem]
     have hRB:=hrB.lt
     have hbC0:=hbB.upd ((Upd.refl R wB).alloc (.cells #[.int .i64 (-1),.int .i64 16] 3)) (by omega)
     have huC0:=hu2B.alloc (.cells #[.int .i64 (-1),.int .i64 16] 3)
     clear hbB hu2B hrB
     go_wp2_with fail
     refine HP.out.mono ?_;rintro e wC ⟨xi,rfl,hi0,hi1,hrC,huC⟩
     obtain ⟨j,rfl⟩:∃ j:Nat,xi=j:=⟨xi.toNat,by omega⟩
     obtain ⟨z,hz,hzb⟩:∃ z:Int,wC.cell? ⟨wB.heap.size,j,none⟩=some (.int .i64 z)∧-1≤z∧z≤16:=by
      rcases (by omega:j=0∨j=1) with rfl | rfl
      · exact ⟨_,huC.cell ha0 (by omega),by omega,by omega⟩
      · exact ⟨_,huC.cell ha1 (by omega),by omega,by omega⟩
     have hbC:=hbC0.upd huC (by omega)
     have hu2C:=huC0.trans huC
     clear ha0 ha1 hRB hbC0 huC0 huC HP
     obtain ⟨B8,hB8⟩:∃ B8,B8=wB.heap.size:=⟨_,rfl⟩
     rw [← hB8] at hz ⊢
     clear hB8
     have hbD:=hbC.set2 (.int .i64 z)
     have hu2D:=hu2C.setNewT (o:=2) (v:=.int .i64 z) hZ82
     have hrD:=hrC.setT (o:=2) (v:=.int .i64 z) hZ8R
     obtain ⟨c0,c1,c2,f0,f1,f2⟩:=hbC
     go_upto_region 12 with (fail)
     clear c0 c1 c2 f0 f1 f2 hz
     generalize hww:World.setCell wC _ _=wD at hbD hu2D hrD ⊢
     clear hww hrC hu2C
     have hE:=HEX.out wD hu2D
     have HF:=Lib.hid (hE.set3b (.int .i64 s0) (.int .i64 vx) (.int .i64 z))
     have HRET:=Lib.hid (HFIN.out wD s0 vx z (by omega) (by omega) (by omega) hu2D (hrD.mono (by omega)))
     obtain ⟨e0,e1,e2,f0,f1,f2⟩:=hE
     obtain ⟨c0,c1,c2,-⟩:=hbD
     unfold set3b at HF HRET
     clear hu2D hrD HFIN HEX
     go_wp2_with fail
     exact bodyPost_ret (results_crt Try.results23 _ (by rfl) HF.out) rfl HRET.out
end Go.Proofs.Ytolhdacbahgfgaa
namespace Go.Proofs.Ytolhdacbahgfgaa
open Go.RowKit
set_option linter.unusedVariables false
structure BxJ (w0:World) (a s d:Nat) (v1 v2 v3:Value) (l:Nat→Bool) (f:Nat→Value) (w:World):Prop where
 bel:Below w0.heap.size w0 w
 dep:l s=true→l a=true
 box:l a=true→∃ b u1 u2 u3,f d = .pointer (some ⟨b,0,none⟩)∧w0.heap.size≤b∧TrAt w b u1 u2 u3∧(l s=true→u1=v1∧u2=v2∧u3=v3)
theorem BxJ.nothing (w0:World) (a s d:Nat) (v1 v2 v3:Value) (f:Nat→Value):BxJ w0 a s d v1 v2 v3 (fun _=>false) f w0.drew :=
 ⟨(Below.refl _ _).drew,fun h=>(by cases h),fun h=>(by cases h)⟩
theorem BxJ.still {w0 w w':World} {a s d:Nat} {v1 v2 v3:Value} {l:Nat→Bool} {f:Nat→Value} (h:BxJ w0 a s d v1 v2 v3 l f w) (i e:Nat) (v:Value) (hb:Below w.heap.size w w') (ha:(a == i)=false) (hs:(s == i)=false) (he:(e == d)=false) :
  BxJ w0 a s d v1 v2 v3 (fun j=>j == i || l j) (fun x=>if some e=some x then v else f x) w':=by
 refine ⟨h.bel.trans (hb.mono h.bel.size),fun hh=>?_,fun hh=>?_⟩
 · simp only [hs,ha,Bool.false_or] at hh ⊢;exact h.dep hh
 · simp only [ha,Bool.false_or] at hh
   obtain ⟨b,u1,u2,u3,e1,e2,e3,e4⟩:=h.box hh
   have hd:¬ (some e=some d):=by simp;intro x;subst x;simp at he
   refine ⟨b,u1,u2,u3,by simp only [if_neg hd];exact e1,e2,e3.below hb,fun hh2=>?_⟩
   simp only [hs,Bool.false_or] at hh2
   exact e4 hh2
theorem BxJ.make {w0 w:World} {a s d:Nat} {v1 v2 v3:Value} {l:Nat→Bool} {f:Nat→Value} (h:BxJ w0 a s d v1 v2 v3 l f w) (hla:l a=false) (u1 u2 u3:Value) (T:TypeId) (has:(s == a)=false) :
  BxJ w0 a s d v1 v2 v3 (fun j=>j == a || l j) (fun x=>if some d=some x then .pointer (some ⟨w.heap.size,0,none⟩) else f x) (w.alloc (.cells #[u1,u2,u3] T)):=by
 have hls:l s=false:=by cases e:l s with | false=>rfl | true=>rw [h.dep e] at hla;cases hla
 refine ⟨h.bel.alloc h.bel.size _,fun hh=>by simp,fun _=>⟨w.heap.size,u1,u2,u3,by simp,h.bel.size,trAt_new w T u1 u2 u3,fun hh=>?_⟩⟩
 simp only [has,Bool.false_or,hls] at hh;cases hh
theorem BxJ.store {w0 w:World} {a s d b:Nat} {v1 v2 v3 u1 u2 u3:Value} {l:Nat→Bool} {f:Nat→Value} (h:BxJ w0 a s d v1 v2 v3 l f w) (hla:l a=true) (he:f d = .pointer (some ⟨b,0,none⟩)) (hb:w0.heap.size≤b) (ht:TrAt w b u1 u2 u3) (hw:Below w0.heap.size w0 (set3b w b v1 v2 v3)) (v:Value) :
  BxJ w0 a s d v1 v2 v3 (fun j=>j == s || l j) (fun x=>if none=some x then v else f x) (set3b w b v1 v2 v3) :=
 ⟨hw,fun _=>by simp [hla],fun _=>⟨b,v1,v2,v3,by simpa using he,hb,ht.set3b v1 v2 v3,fun _=>⟨rfl,rfl,rfl⟩⟩⟩
theorem set3b_below {w0 w:World} {b:Nat} (h:Below w0.heap.size w0 w) (hb:w0.heap.size≤b) (v1 v2 v3:Value):Below w0.heap.size w0 (set3b w b v1 v2 v3) :=
 ((h.setCell (p:=⟨b,0,none⟩) hb v1).setCell (p:=⟨b,1,none⟩) hb v2).setCell (p:=⟨b,2,none⟩) hb v3
end Go.Proofs.Ytolhdacbahgfgaa
namespace Go.Proofs.Ytolhdacbahgfgaa
open Go.RowKit
set_option linter.unusedVariables false
structure TwoSt (S0 S1 S2:World) (l:Nat→Bool) (w:World):Prop where
 d2:l 2=true→l 0=true
 d3:l 3=true→l 2=true
 d4:l 3=true→l 1=true
 w0:l 2=false→w=S0
 w1:l 2=true→l 3=false→w=S1
 w2:l 3=true→w=S2
theorem TwoSt.nothing (S0 S1 S2:World):TwoSt S0 S1 S2 (fun _=>false) S0 :=
 ⟨(fun h=>nomatch h),(fun h=>nomatch h),(fun h=>nomatch h),(fun _=>rfl),(fun h=>nomatch h),(fun h=>nomatch h)⟩
theorem TwoSt.op0 {S0 S1 S2 w:World} {l:Nat→Bool} (h:TwoSt S0 S1 S2 l w) (hl:l 0=false):w=S0∧TwoSt S0 S1 S2 (fun j=>j == 0 || l j) w:=by
 have h2:l 2=false:=by cases e:l 2 with | false=>rfl | true=>rw [h.d2 e] at hl;cases hl
 exact ⟨h.w0 h2,fun _=>by simp,fun e=>by simpa using h.d3 (by simpa using e),fun e=>by simpa using h.d4 (by simpa using e),fun e=>h.w0 h2,fun e=>by simp [h2] at e,fun e=>h.w2 (by simpa using e)⟩
theorem TwoSt.op1 {S0 S1 S2 w:World} {l:Nat→Bool} (h:TwoSt S0 S1 S2 l w) (hl:l 1=false):(w=S0∨w=S1)∧TwoSt S0 S1 S2 (fun j=>j == 1 || l j) w:=by
 have h3:l 3=false:=by cases e:l 3 with | false=>rfl | true=>rw [h.d4 e] at hl;cases hl
 refine ⟨?_,fun e=>by simpa using h.d2 (by simpa using e),fun e=>by simp [h3] at e,fun e=>by simp,fun e=>h.w0 (by simpa using e),fun e _=>h.w1 (by simpa using e) h3,fun e=>by simp [h3] at e⟩
 cases e:l 2 with
 | false=>exact .inl (h.w0 e)
 | true=>exact .inr (h.w1 e h3)
theorem TwoSt.op2 {S0 S1 S2 w:World} {l:Nat→Bool} (h:TwoSt S0 S1 S2 l w) (hl:l 2=false) (h0:l 0=true):w=S0∧TwoSt S0 S1 S2 (fun j=>j == 2 || l j) S1:=by
 have h3:l 3=false:=by cases e:l 3 with | false=>rfl | true=>rw [h.d3 e] at hl;cases hl
 exact ⟨h.w0 hl,fun _=>by simpa using h0,fun e=>by simp,fun e=>by simp [h3] at e,fun e=>by simp at e,fun _ _=>rfl,fun e=>by simp [h3] at e⟩
theorem TwoSt.op3 {S0 S1 S2 w:World} {l:Nat→Bool} (h:TwoSt S0 S1 S2 l w) (hl:l 3=false) (h1:l 1=true) (h2:l 2=true):w=S1∧TwoSt S0 S1 S2 (fun j=>j == 3 || l j) S2 :=
 ⟨h.w1 h2 hl,fun _=>by simpa using h.d2 h2,fun _=>by simpa using h2,fun _=>by simpa using h1,fun e=>by simp [h2] at e,fun _ e=>by simp at e,fun _=>rfl⟩
end Go.Proofs.Ytolhdacbahgfgaa
namespace Go.Proofs.Ytolhdacbahgfgaa
open Go.RowKit
set_option linter.unusedVariables false
set_option linter.unusedSimpArgs false
theorem results_crt2 {fn:Func} {p q:Tmp} (h:fn.results=#[.cell p 24,.cell q 24]) (tmps:Array Value) {F:World} {Z Y:Nat} (hp:tmps.getD p undef = .pointer (some ⟨Z,0,none⟩)) (hq:tmps.getD q undef = .pointer (some ⟨Y,0,none⟩)) {v1 v2 v3 u1 u2 u3:Value} (hc:TrAt F Z v1 v2 v3) (hd:TrAt F Y u1 u2 u3):(results fn tmps).run Try.prog F = .ok (.tuple #[.agg #[v1,v2,v3],.agg #[u1,u2,u3]]) F:=by
 have hp':tmps[p]?.getD undef = .pointer (some ⟨Z,0,none⟩):=by simpa using hp
 have hq':tmps[q]?.getD undef = .pointer (some ⟨Y,0,none⟩):=by simpa using hq
 obtain ⟨c0,c1,c2,-⟩:=hc
 obtain ⟨d0,d1,d2,-⟩:=hd
 simp [results,h,hp',hq',asAddr,go_sem,c0,c1,c2,d0,d1,d2]
def DrawnCt2 (w:World) (en:Ending) (w':World):Prop :=
 ∃ s v g s' v' g',en = .returned (.tuple #[.agg #[.int .i64 s,.int .i64 v,.int .i64 g],.agg #[.int .i64 s',.int .i64 v',.int .i64 g']])∧((-1≤s∧s≤1000003)∧(-1≤v∧v≤1001)∧(-1≤g∧g≤16))∧((-1≤s'∧s'≤1000003)∧(-1≤v'∧v'≤1001)∧(-1≤g'∧g'≤16))∧Below w.heap.size w w'
set_option maxHeartbeats 4000000 in
theorem drawJoinCerts_any (a:Option Addr) (len cap:Nat) (z:List Int) (w:World) (h:RowB w a len z) (hlc:len≤cap) :
  Calls Try.prog 17 #[.slice a len cap] w (DrawnCt2 w):=by
 have hZ0:=(trAt_new w 24 (.int .i64 0) (.int .i64 0) (.int .i64 0)).below ((Below.refl _ _).alloc (Nat.le_refl _) (.cells #[.int .i64 0,.int .i64 0,.int .i64 0] 24))
 have hY0:=trAt_new (w.alloc (.cells #[.int .i64 0,.int .i64 0,.int .i64 0] 24)) 24 (.int .i64 0) (.int .i64 0) (.int .i64 0)
 rw [World.size_alloc] at hY0
 have hb0:=((Below.refl w.heap.size w).alloc (Nat.le_refl _) (.cells #[.int .i64 0,.int .i64 0,.int .i64 0] 24)).alloc (by simp) (.cells #[.int .i64 0,.int .i64 0,.int .i64 0] 24)
 obtain ⟨w0,hw0⟩:∃ W1,W1=(w.alloc (.cells #[.int .i64 0,.int .i64 0,.int .i64 0] 24)).alloc (.cells #[.int .i64 0,.int .i64 0,.int .i64 0] 24):=⟨_,rfl⟩
 have HW0:=Lib.hid hw0
 have hrb:RowB w0 a len z:=by rw [hw0];exact rowB_belowT h hb0
 rw [← hw0] at hb0 hZ0 hY0
 clear hw0 h
 have HB0:=Lib.hid hb0
 have HZ0:=Lib.hid hZ0
 have HY0:=Lib.hid hY0
 have HOP:=Lib.hid (open_any a len cap z w0 hrb hlc)
 clear hb0 hZ0 hY0 hrb
 go_enter Try.func17,Try.ntmps17
 go_upto_region 1 with (fail)
 rw [← HW0.out]
 clear HW0
 go_wp2_with fail
 refine HOP.out.mono ?_;rintro e w1 ⟨R,rfl,hR,hr1,hb1,hRl⟩
 have HR0:Hid (w.heap.size+1 < R∧R < w1.heap.size):=Lib.hid ⟨by have:=HY0.out.lt;omega,hr1.lt⟩
 have HB1:=Lib.hid (HB0.out.trans (hb1.mono HB0.out.size))
 have HZ1:=Lib.hid (HZ0.out.below hb1)
 have HY1:=Lib.hid (HY0.out.below hb1)
 clear HOP hb1 HB0 HZ0 HY0 hRl hR
 go_wp2_with fail
 refine (l20Tree_any R 0 0 _ hr1 (by omega) (by omega) (by omega)).mono ?_;rintro e w2 ⟨v1,v2,v3,t,rfl,hrd,hsm,hr2,hu2⟩
 obtain ⟨⟨b1,m1,d1,rfl,-⟩,⟨b2,m2,d2,rfl,-⟩,b3,m3,d3,rfl,-⟩:=hrd w2 (fun _ _ _ _=>rfl)
 have hln:=treRd_len (hrd w2 (fun _ _ _ _=>rfl))
 have HM:Hid (1≤m2∧m2≤14):=Lib.hid ⟨by have:=hsm.one;omega,by have:=hsm.most;omega⟩
 go_upto_region 3 with (fail)
 generalize hw3:World.alloc _ _=w3
 have hT3:TrAt w3 w2.heap.size (.slice b1 m1 d1) (.slice b2 m2 d2) (.slice b3 m3 d3):=by rw [← hw3];exact trAt_new w2 _ _ _ _
 have hr3:Rd w3 R (0+4000):=by rw [← hw3];exact hr2.alloc _
 have hu3:Upd R w2 w3:=by rw [← hw3];exact (Upd.refl _ _).alloc _
 have HTR:=Lib.hid (fun (W:World) (hu:Upd R w3 W)=>hrd W (fun k hk0 hk1 hk2=>((hu3.trans hu).block k hk1 (by simp;exact hk2))))
 have HU3:=Lib.hid (hu2.trans hu3)
 have hs2:=hu2.size
 obtain ⟨T,hT⟩:∃ T,T=w2.heap.size:=⟨_,rfl⟩
 rw [← hT] at hT3 ⊢
 have hTR:R < T:=by have:=HR0.out;omega
 have HTB:=Lib.hid (fun (W:World) (hu:Upd R w3 W)=>hT3.upd hu (by omega))
 have hRw3:=hr3.lt
 clear hw3 hT3 hu3 hrd hsm hln hu2 hr2 hr1 hT hs2
 obtain ⟨t0,t1,t2,-⟩:=HTB.out w3 (Upd.refl _ _)
 go_wp2_with fail
 refine (l20Cert_any R (0+4000) 9 b1 m1 d1 b2 m2 d2 b3 m3 d3 t w3 hr3 (by omega) (by omega) (by omega) HTR.out HM.out.1 HM.out.2).mono ?_;rintro e w4 ⟨s,v,g,rfl,hs,hv,hg,hr4,hu4⟩
 clear t0 t1 t2 hr3
 go_upto_region 4 with (fail)
 generalize hw5:World.alloc _ _=w5
 have hA5:TrAt w5 w4.heap.size (.int .i64 s) (.int .i64 v) (.int .i64 g):=by rw [← hw5];exact trAt_new w4 _ _ _ _
 have hr5:Rd w5 R (0+4000+7):=by rw [← hw5];exact hr4.alloc _
 have hu5:Upd R w3 w5:=by rw [← hw5];exact hu4.alloc _
 have hs4:=hu4.size
 obtain ⟨A,hA⟩:∃ A,A=w4.heap.size:=⟨_,rfl⟩
 rw [← hA] at hA5 ⊢
 have hAR:R < A:=by omega
 clear hw5 hu4 hr4 hA hs4
 obtain ⟨t0,t1,t2,-⟩:=HTB.out w5 hu5
 have HC2:=Lib.hid (l20Cert_any R (0+4000+7) 9 b1 m1 d1 b2 m2 d2 b3 m3 d3 t w5 hr5 (by omega) (by omega) (by omega) (fun W hu=>HTR.out W (hu5.trans hu)) HM.out.1 HM.out.2)
 go_wp2_with fail
 refine HC2.out.mono ?_;rintro e w6 ⟨s',v',g',rfl,hs',hv',hg',hr6,hu6⟩
 clear t0 t1 t2 hr5 HC2
 go_upto_region 5 with (fail)
 generalize hw7:World.alloc _ _=w7
 have hB7:TrAt w7 w6.heap.size (.int .i64 s') (.int .i64 v') (.int .i64 g'):=by rw [← hw7];exact trAt_new w6 _ _ _ _
 have hr7:Rd w7 R (0+4000+7+7):=by rw [← hw7];exact hr6.alloc _
 have hu7:Upd R w5 w7:=by rw [← hw7];exact hu6.alloc _
 have hs6:=hu6.size
 have hAl:=hA5.lt
 obtain ⟨B,hB⟩:∃ B,B=w6.heap.size:=⟨_,rfl⟩
 rw [← hB] at hB7 ⊢
 have hBR:R < B∧A < B:=by omega
 have HU7:=Lib.hid ((HU3.out.trans hu5).trans hu7)
 have hA7:=hA5.upd hu7 (by omega)
 have hs1:=HZ1.out.lt
 have hs1':=HY1.out.lt
 have HBG:=Lib.hid (show w1.heap.size≤B by have h1:=HU3.out.size;have h2:=hu5.size;omega)
 clear hw7 hu6 hr6 hB hs6 hA5 hu5 hu7 HTB HTR HU3
 go_wp2_with fail
 refine (pick_pos R _ 3 _ hr7 (by omega) (by omega) (by omega)).mono ?_;rintro e w8 ⟨x,rfl,hx0,hx1,hr8,hu8⟩
 have hB8:=hB7.upd hu8 (by omega)
 have hA8:=hA7.upd hu8 (by omega)
 have hu18:=HU7.out.trans hu8
 clear hB7 hA7 hr7 hu8 HU7
 have HZK:=Lib.hid (fun (W:World) (hu:Upd R w1 W)=>(⟨HZ1.out.upd hu (by have:=HR0.out;omega),HY1.out.upd hu (by have:=HR0.out;omega)⟩:TrAt W w.heap.size (.int .i64 0) (.int .i64 0) (.int .i64 0)∧TrAt W (w.heap.size+1) (.int .i64 0) (.int .i64 0) (.int .i64 0)))
 have HFB:=Lib.hid (fun (W:World) (hu:Upd R w1 W)=>hu.below HB1.out (by omega) (by have:=HR0.out;omega))
 by_cases hx:0 < x
 · have hB9:=hB8.set0 (.int .i64 s)
   have hu19:=hu18.setNewT (o:=0) (v:=.int .i64 s) HBG.out
   have hA9:=hA8.keep (w':=w8.setCell ⟨B,0,none⟩ (.int .i64 s)) ((grownBy_set w8 B 0 (.int .i64 s)).block A hA8.lt (by simp;omega))
   have hr9:=hr8.setT (o:=0) (v:=.int .i64 s) hBR.1
   obtain ⟨a0,a1,a2,-⟩:=hA8
   obtain ⟨b0,b1',b2',bf0,bf1,bf2⟩:=hB8
   go_upto_region 7 with (fail)
   clear a0 a1 a2 b0 b1' b2' bf0 bf1 bf2
   generalize hww:World.setCell w8 _ _=w9 at hB9 hu19 hA9 hr9 ⊢
   clear hww hr8 hu18
   have hB10:=hB9.set1 (.int .i64 v)
   have hu110:=hu19.setNewT (o:=1) (v:=.int .i64 v) HBG.out
   have hA10:=hA9.keep (w':=w9.setCell ⟨B,1,none⟩ (.int .i64 v)) ((grownBy_set w9 B 1 (.int .i64 v)).block A hA9.lt (by simp;omega))
   have hr10:=hr9.setT (o:=1) (v:=.int .i64 v) hBR.1
   obtain ⟨a0,a1,a2,-⟩:=hA9
   obtain ⟨b0,b1',b2',bf0,bf1,bf2⟩:=hB9
   go_upto_region 8 with (fail)
   clear a0 a1 a2 b0 b1' b2' bf0 bf1 bf2
   generalize hww:World.setCell w9 _ _=w10 at hB10 hu110 hA10 hr10 ⊢
   clear hww hr9 hu19
   have HAK:=Lib.hid (fun (W:World) (hu:W=w10)=>(by rw [hu];exact hA10:TrAt W A (.int .i64 s) (.int .i64 v) (.int .i64 g)))
   obtain ⟨hZ,hY⟩:=HZK.out w10 hu110
   have hA:=hA10
   obtain ⟨S0,hS0⟩:∃ S,S=w10.drew:=⟨_,rfl⟩
   obtain ⟨S1,hS1⟩:∃ S,S=set3b S0 w.heap.size (.int .i64 s) (.int .i64 v) (.int .i64 g):=⟨_,rfl⟩
   obtain ⟨S2,hS2⟩:∃ S,S=set3b S1 (w.heap.size+1) (.int .i64 s) (.int .i64 v) (.int .i64 g'):=⟨_,rfl⟩
   have hA0:TrAt S0 A (.int .i64 s) (.int .i64 v) (.int .i64 g):=by rw [hS0];exact hA.below (Below.refl _ _).drew
   have hB0:TrAt S0 B (.int .i64 s) (.int .i64 v) (.int .i64 g'):=by rw [hS0];exact hB10.below (Below.refl _ _).drew
   have hZ0:TrAt S0 w.heap.size (.int .i64 0) (.int .i64 0) (.int .i64 0):=by rw [hS0];exact hZ.below (Below.refl _ _).drew
   have hY0:TrAt S0 (w.heap.size+1) (.int .i64 0) (.int .i64 0) (.int .i64 0):=by rw [hS0];exact hY.below (Below.refl _ _).drew
   have hBS:TrAt S1 B (.int .i64 s) (.int .i64 v) (.int .i64 g'):=by rw [hS1];exact hB0.keep ((set3b_turn S0 w.heap.size (.int .i64 s) (.int .i64 v) (.int .i64 g)).block B hB0.lt (by have:=HBG.out;omega))
   have hYS:TrAt S1 (w.heap.size+1) (.int .i64 0) (.int .i64 0) (.int .i64 0):=by rw [hS1];exact hY0.keep ((set3b_turn S0 w.heap.size (.int .i64 s) (.int .i64 v) (.int .i64 g)).block (w.heap.size+1) hY0.lt (by omega))
   have hE1:TrAt S1 w.heap.size (.int .i64 s) (.int .i64 v) (.int .i64 g):=by rw [hS1];exact hZ0.set3b (.int .i64 s) (.int .i64 v) (.int .i64 g)
   have hE2:TrAt S2 w.heap.size (.int .i64 s) (.int .i64 v) (.int .i64 g):=by rw [hS2];exact hE1.keep ((set3b_turn S1 (w.heap.size+1) (.int .i64 s) (.int .i64 v) (.int .i64 g')).block w.heap.size hE1.lt (by omega))
   have hE3:TrAt S2 (w.heap.size+1) (.int .i64 s) (.int .i64 v) (.int .i64 g'):=by rw [hS2];exact hYS.set3b (.int .i64 s) (.int .i64 v) (.int .i64 g')
   have hE4:DrawnCt2 w (.returned (.tuple #[.agg #[.int .i64 s,.int .i64 v,.int .i64 g],.agg #[.int .i64 s,.int .i64 v,.int .i64 g']])) S2:=by rw [hS2,hS1,hS0];exact ⟨s,v,g,s,v,g',rfl,⟨hs,hv,hg⟩,⟨by omega,by omega,hg'⟩,set3b_below (set3b_below (HFB.out w10 hu110).drew (Nat.le_refl _) _ _ _) (by omega) _ _ _⟩
   have HE:=Lib.hid (⟨hE2,hE3,hE4⟩:TrAt S2 w.heap.size (.int .i64 s) (.int .i64 v) (.int .i64 g)∧TrAt S2 (w.heap.size+1) (.int .i64 s) (.int .i64 v) (.int .i64 g')∧DrawnCt2 w (.returned (.tuple #[.agg #[.int .i64 s,.int .i64 v,.int .i64 g],.agg #[.int .i64 s,.int .i64 v,.int .i64 g']])) S2)
   have HS0:=Lib.hid hS0
   unfold set3b at hS1 hS2
   have HS1:=Lib.hid hS1
   have HS2:=Lib.hid hS2
   clear hE1 hE2 hE3 hE4 hZ hY hA hB10 hu110 hr10 HZK HAK HFB hS0 hS1 hS2
   refine wp_region_light (by kernel_rfl) (fun lz fz wz=>Vals [(0,27,.agg #[.int .i64 s,.int .i64 v,.int .i64 g]),(1,28,.agg #[.int .i64 s,.int .i64 v,.int .i64 g'])] lz fz∧TwoSt S0 S1 S2 lz wz) 29 rfl [27,28] (by kernel_rfl) (by kernel_rfl) (by kernel_rfl) (fun f=>⟨Vals.nothing _ f,by rw [← HS0.out];exact TwoSt.nothing S0 S1 S2⟩) ?_ ?_
   · intro i hi
     rcases (by have:i < 4:=hi;omega:i=0∨i=1∨i=2∨i=3) with rfl | rfl | rfl | rfl
     all_goals (clear hi;intro o ho lz fz w' A' ⟨hv',hr'⟩ hli ha hA' K hK;obtain rfl:=Option.some.inj ho;clear ho)
     · have g6:=slot_out hA' 6 _ (by decide) (by decide) rfl
       simp only [List.getD_cons_succ,List.getD_cons_zero] at g6
       have gg6:=slot_get g6
       rw [if_pos (by rfl)]
       obtain ⟨rfl,h2⟩:=hr'.op0 hli
       have hF:=hK (.agg #[.int .i64 s,.int .i64 v,.int .i64 g]) _ ⟨hv'.step _ _ _ (by simp),h2⟩
       obtain ⟨a0,a1,a2,-⟩:=hA0
       clear hv' hr' ha hK hA' hli h2
       go_simp
       exact hF
     · have g7:=slot_out hA' 7 _ (by decide) (by decide) rfl
       simp only [List.getD_cons_succ,List.getD_cons_zero] at g7
       have gg7:=slot_get g7
       rw [if_pos (by rfl)]
       obtain ⟨h1,h2⟩:=hr'.op1 hli
       have hF:=hK (.agg #[.int .i64 s,.int .i64 v,.int .i64 g']) _ ⟨hv'.step _ _ _ (by simp),h2⟩
       obtain ⟨b0,b1,b2,-⟩:TrAt w' B (.int .i64 s) (.int .i64 v) (.int .i64 g'):=by rcases h1 with rfl | rfl;exact hB0;exact hBS
       clear hv' hr' ha hK hA' hli h2 h1
       go_simp
       exact hF
     · have g2:=slot_out hA' 2 _ (by decide) (by decide) rfl
       simp only [List.getD_cons_succ,List.getD_cons_zero] at g2
       have g27:=slot_in hA' 27 (by decide) (by decide) (hv'.at 0 rfl (ha 0 (by decide)))
       have gg2:=slot_get g2
       have gg27:=slot_get g27
       rw [if_pos (by rfl)]
       obtain ⟨rfl,h2⟩:=hr'.op2 hli (ha 0 (by decide))
       have hF:=hK undef S1 ⟨hv'.stepN _ _ (by simp),h2⟩
       rw [HS1.out] at hF
       obtain ⟨z0,z1,z2,zf0,zf1,zf2⟩:=hZ0
       clear hv' hr' ha hK hA' hli h2
       go_simp
       exact hF
     · have g3:=slot_out hA' 3 _ (by decide) (by decide) rfl
       simp only [List.getD_cons_succ,List.getD_cons_zero] at g3
       have g28:=slot_in hA' 28 (by decide) (by decide) (hv'.at 1 rfl (ha 1 (by decide)))
       have gg3:=slot_get g3
       have gg28:=slot_get g28
       rw [if_pos (by rfl)]
       obtain ⟨rfl,h2⟩:=hr'.op3 hli (ha 1 (by decide)) (ha 2 (by decide))
       have hF:=hK undef S2 ⟨hv'.stepN _ _ (by simp),h2⟩
       rw [HS2.out] at hF
       obtain ⟨z0,z1,z2,zf0,zf1,zf2⟩:=hYS
       clear hv' hr' ha hK hA' hli h2
       go_simp
       exact hF
   · intro lz fz w' hall ⟨hv',hr'⟩
     obtain rfl:=hr'.w2 (hall 3 (by decide))
     clear hv' hr' hall hA0 hB0 hZ0 hY0 hBS hYS
     simp only [mixF,List.contains_cons,List.contains_nil]
     go_simp
     go_wp2_with fail
     exact bodyPost_ret (results_crt2 Try.results17 _ (by rfl) (by rfl) HE.out.1 HE.out.2.1) rfl HE.out.2.2
 · have HAK:=Lib.hid hr8
   obtain ⟨hZ,hY⟩:=HZK.out w8 hu18
   have hA:=hA8
   go_upto_region 8 with (fail)
   obtain ⟨S0,hS0⟩:∃ S,S=w8.drew:=⟨_,rfl⟩
   obtain ⟨S1,hS1⟩:∃ S,S=set3b S0 w.heap.size (.int .i64 s) (.int .i64 v) (.int .i64 g):=⟨_,rfl⟩
   obtain ⟨S2,hS2⟩:∃ S,S=set3b S1 (w.heap.size+1) (.int .i64 s') (.int .i64 v') (.int .i64 g'):=⟨_,rfl⟩
   have hA0:TrAt S0 A (.int .i64 s) (.int .i64 v) (.int .i64 g):=by rw [hS0];exact hA.below (Below.refl _ _).drew
   have hB0:TrAt S0 B (.int .i64 s') (.int .i64 v') (.int .i64 g'):=by rw [hS0];exact hB8.below (Below.refl _ _).drew
   have hZ0:TrAt S0 w.heap.size (.int .i64 0) (.int .i64 0) (.int .i64 0):=by rw [hS0];exact hZ.below (Below.refl _ _).drew
   have hY0:TrAt S0 (w.heap.size+1) (.int .i64 0) (.int .i64 0) (.int .i64 0):=by rw [hS0];exact hY.below (Below.refl _ _).drew
   have hBS:TrAt S1 B (.int .i64 s') (.int .i64 v') (.int .i64 g'):=by rw [hS1];exact hB0.keep ((set3b_turn S0 w.heap.size (.int .i64 s) (.int .i64 v) (.int .i64 g)).block B hB0.lt (by have:=HBG.out;omega))
   have hYS:TrAt S1 (w.heap.size+1) (.int .i64 0) (.int .i64 0) (.int .i64 0):=by rw [hS1];exact hY0.keep ((set3b_turn S0 w.heap.size (.int .i64 s) (.int .i64 v) (.int .i64 g)).block (w.heap.size+1) hY0.lt (by omega))
   have hE1:TrAt S1 w.heap.size (.int .i64 s) (.int .i64 v) (.int .i64 g):=by rw [hS1];exact hZ0.set3b (.int .i64 s) (.int .i64 v) (.int .i64 g)
   have hE2:TrAt S2 w.heap.size (.int .i64 s) (.int .i64 v) (.int .i64 g):=by rw [hS2];exact hE1.keep ((set3b_turn S1 (w.heap.size+1) (.int .i64 s') (.int .i64 v') (.int .i64 g')).block w.heap.size hE1.lt (by omega))
   have hE3:TrAt S2 (w.heap.size+1) (.int .i64 s') (.int .i64 v') (.int .i64 g'):=by rw [hS2];exact hYS.set3b (.int .i64 s') (.int .i64 v') (.int .i64 g')
   have hE4:DrawnCt2 w (.returned (.tuple #[.agg #[.int .i64 s,.int .i64 v,.int .i64 g],.agg #[.int .i64 s',.int .i64 v',.int .i64 g']])) S2:=by rw [hS2,hS1,hS0];exact ⟨s,v,g,s',v',g',rfl,⟨hs,hv,hg⟩,⟨by omega,by omega,hg'⟩,set3b_below (set3b_below (HFB.out w8 hu18).drew (Nat.le_refl _) _ _ _) (by omega) _ _ _⟩
   have HE:=Lib.hid (⟨hE2,hE3,hE4⟩:TrAt S2 w.heap.size (.int .i64 s) (.int .i64 v) (.int .i64 g)∧TrAt S2 (w.heap.size+1) (.int .i64 s') (.int .i64 v') (.int .i64 g')∧DrawnCt2 w (.returned (.tuple #[.agg #[.int .i64 s,.int .i64 v,.int .i64 g],.agg #[.int .i64 s',.int .i64 v',.int .i64 g']])) S2)
   have HS0:=Lib.hid hS0
   unfold set3b at hS1 hS2
   have HS1:=Lib.hid hS1
   have HS2:=Lib.hid hS2
   clear hE1 hE2 hE3 hE4 hZ hY hA hB8 hu18 hr8 HZK HAK HFB hS0 hS1 hS2
   refine wp_region_light (by kernel_rfl) (fun lz fz wz=>Vals [(0,27,.agg #[.int .i64 s,.int .i64 v,.int .i64 g]),(1,28,.agg #[.int .i64 s',.int .i64 v',.int .i64 g'])] lz fz∧TwoSt S0 S1 S2 lz wz) 29 rfl [27,28] (by kernel_rfl) (by kernel_rfl) (by kernel_rfl) (fun f=>⟨Vals.nothing _ f,by rw [← HS0.out];exact TwoSt.nothing S0 S1 S2⟩) ?_ ?_
   · intro i hi
     rcases (by have:i < 4:=hi;omega:i=0∨i=1∨i=2∨i=3) with rfl | rfl | rfl | rfl
     all_goals (clear hi;intro o ho lz fz w' A' ⟨hv',hr'⟩ hli ha hA' K hK;obtain rfl:=Option.some.inj ho;clear ho)
     · have g6:=slot_out hA' 6 _ (by decide) (by decide) rfl
       simp only [List.getD_cons_succ,List.getD_cons_zero] at g6
       have gg6:=slot_get g6
       rw [if_pos (by rfl)]
       obtain ⟨rfl,h2⟩:=hr'.op0 hli
       have hF:=hK (.agg #[.int .i64 s,.int .i64 v,.int .i64 g]) _ ⟨hv'.step _ _ _ (by simp),h2⟩
       obtain ⟨a0,a1,a2,-⟩:=hA0
       clear hv' hr' ha hK hA' hli h2
       go_simp
       exact hF
     · have g7:=slot_out hA' 7 _ (by decide) (by decide) rfl
       simp only [List.getD_cons_succ,List.getD_cons_zero] at g7
       have gg7:=slot_get g7
       rw [if_pos (by rfl)]
       obtain ⟨h1,h2⟩:=hr'.op1 hli
       have hF:=hK (.agg #[.int .i64 s',.int .i64 v',.int .i64 g']) _ ⟨hv'.step _ _ _ (by simp),h2⟩
       obtain ⟨b0,b1,b2,-⟩:TrAt w' B (.int .i64 s') (.int .i64 v') (.int .i64 g'):=by rcases h1 with rfl | rfl;exact hB0;exact hBS
       clear hv' hr' ha hK hA' hli h2 h1
       go_simp
       exact hF
     · have g2:=slot_out hA' 2 _ (by decide) (by decide) rfl
       simp only [List.getD_cons_succ,List.getD_cons_zero] at g2
       have g27:=slot_in hA' 27 (by decide) (by decide) (hv'.at 0 rfl (ha 0 (by decide)))
       have gg2:=slot_get g2
       have gg27:=slot_get g27
       rw [if_pos (by rfl)]
       obtain ⟨rfl,h2⟩:=hr'.op2 hli (ha 0 (by decide))
       have hF:=hK undef S1 ⟨hv'.stepN _ _ (by simp),h2⟩
       rw [HS1.out] at hF
       obtain ⟨z0,z1,z2,zf0,zf1,zf2⟩:=hZ0
       clear hv' hr' ha hK hA' hli h2
       go_simp
       exact hF
     · have g3:=slot_out hA' 3 _ (by decide) (by decide) rfl
       simp only [List.getD_cons_succ,List.getD_cons_zero] at g3
       have g28:=slot_in hA' 28 (by decide) (by decide) (hv'.at 1 rfl (ha 1 (by decide)))
       have gg3:=slot_get g3
       have gg28:=slot_get g28
       rw [if_pos (by rfl)]
       obtain ⟨rfl,h2⟩:=hr'.op3 hli (ha 1 (by decide)) (ha 2 (by decide))
       have hF:=hK undef S2 ⟨hv'.stepN _ _ (by simp),h2⟩
       rw [HS2.out] at hF
       obtain ⟨z0,z1,z2,zf0,zf1,zf2⟩:=hYS
       clear hv' hr' ha hK hA' hli h2
       go_simp
       exact hF
   · intro lz fz w' hall ⟨hv',hr'⟩
     obtain rfl:=hr'.w2 (hall 3 (by decide))
     clear hv' hr' hall hA0 hB0 hZ0 hY0 hBS hYS
     simp only [mixF,List.contains_cons,List.contains_nil]
     go_simp
     go_wp2_with fail
     exact bodyPost_ret (results_crt2 Try.results17 _ (by rfl) (by rfl) HE.out.1 HE.out.2.1) rfl HE.out.2.2
end Go.Proofs.Ytolhdacbahgfgaa
namespace Go.Proofs.Ytolhdacbahgfgaa
open Go.RowKit
set_option linter.unusedVariables false
set_option linter.unusedSimpArgs false
theorem or_tab:∀ g k:Fin 16,(0≤bits .or .i64 (g.val:Int) (k.val:Int)∧bits .or .i64 (g.val:Int) (k.val:Int)≤15)∧(3≤manyM (g.val:Int)→3≤manyM (bits .or .i64 (g.val:Int) (k.val:Int)))∧(3≤manyM (k.val:Int)→3≤manyM (bits .or .i64 (g.val:Int) (k.val:Int)))∧bits .or .i64 (k.val:Int) (g.val:Int)=bits .or .i64 (g.val:Int) (k.val:Int):=by decide +kernel
theorem or_of {g k:Int} (h0:0≤g∧g≤15) (h1:0≤k∧k≤15):(0≤orM g k∧orM g k≤15)∧(3≤manyM g→3≤manyM (orM g k))∧(3≤manyM k→3≤manyM (orM g k))∧orM k g=orM g k:=by
 have e:g=((⟨g.toNat,by omega⟩:Fin 16).val:Int):=by simp;omega
 have e':k=((⟨k.toNat,by omega⟩:Fin 16).val:Int):=by simp;omega
 unfold orM
 rw [e,e']
 exact or_tab _ _
theorem joinB_true {a b:Crt} (h:joinB a b=true):crtB a=true∧crtB b=true∧a.sum=b.sum∧a.view=b.view:=by
 simp only [joinB,Bool.and_eq_true,decide_eq_true_eq] at h
 exact ⟨h.1.1.1,h.1.1.2,h.1.2,h.2⟩
theorem joinB_symm (a b:Crt):joinB b a=joinB a b:=by
 unfold joinB
 cases crtB a <;> cases crtB b <;> simp [eq_comm]
theorem joinM_symm (a b:Crt):joinM b a=joinM a b:=by
 cases h:joinB a b with
 | false=>rw [joinM_no h,joinM_no (by rw [joinB_symm];exact h)]
 | true =>
  obtain ⟨h1,h2,h3,h4⟩:=joinB_true h
  rw [joinM_yes h,joinM_yes (by rw [joinB_symm];exact h)]
  rw [h3,h4,(or_of (crtB_true h1).2.2 (crtB_true h2).2.2).2.2.2]
theorem join_facts {a b:Crt} (h:joinB a b=true):crtB (joinM a b)=true∧(cntB a=true→cntB (joinM a b)=true)∧(cntB b=true→cntB (joinM a b)=true)∧(joinM a b).sig=orM a.sig b.sig:=by
 obtain ⟨h1,h2,h3,h4⟩:=joinB_true h
 obtain ⟨o1,o2,o3,-⟩:=or_of (crtB_true h1).2.2 (crtB_true h2).2.2
 rw [joinM_yes h]
 have hc:crtB ⟨a.sum,a.view,orM a.sig b.sig⟩=true:=by
  have:=h1
  simp only [crtB,Bool.and_eq_true] at this ⊢
  exact ⟨this.1,inB_yes o1.1 o1.2⟩
 refine ⟨hc,fun h=>?_,fun h=>?_,rfl⟩
 · rw [cntB_yes h1] at h;rw [cntB_yes hc];simpa using o2 (by simpa using h)
 · rw [cntB_yes h2] at h;rw [cntB_yes hc];simpa using o3 (by simpa using h)
set_option maxRecDepth 100000 in
set_option maxHeartbeats 8000000 in
theorem lawJoinCerts (a:Option Addr) (len cap:Nat) (z:List Int) (w:World) (h:RowB w a len z) (hc:a=none→cap=0) (hlc:len≤cap) :
  Calls Try.prog 5 #[.slice a len cap] w (LawTrue w):=by
 by_cases hs:len≤1048576
 · have hs':¬ (1048576:Int) < (len:Int):=by omega
   go_enter Try.func5,Try.ntmps5
   go_wp2_with fail
   refine (drawJoinCerts_any a len cap z w h hlc).mono ?_;rintro e w1 ⟨s,v,g,s',v',g',rfl,-,-,hb1⟩
   have HB1:=Lib.hid hb1
   clear h hs hs' hc hlc hb1
   go_upto_region 4 with (fail)
   generalize hw2:World.alloc _ _=w2
   have hb2:Below w1.heap.size w1 w2:=by rw [← hw2];exact ((Below.refl _ _).alloc (Nat.le_refl _) _).alloc (by simp) _
   have hA2:TrAt w2 w1.heap.size (.int .i64 s) (.int .i64 v) (.int .i64 g):=by rw [← hw2];exact (trAt_new w1 _ _ _ _).below ((Below.refl _ _).alloc (Nat.le_refl _) _)
   have hB2:TrAt w2 (w1.heap.size+1) (.int .i64 s') (.int .i64 v') (.int .i64 g'):=by
    have:=trAt_new (w1.alloc (.cells #[.int .i64 s,.int .i64 v,.int .i64 g] 24)) 24 (.int .i64 s') (.int .i64 v') (.int .i64 g')
    rw [World.size_alloc] at this
    rw [← hw2];exact this
   have HK:=Lib.hid (fun (W:World) (hb:Below w2.heap.size w2 W)=>(⟨hA2.below hb,hB2.below hb,HB1.out.trans ((hb2.trans (hb.mono hb2.size)).mono HB1.out.size)⟩:TrAt W w1.heap.size (.int .i64 s) (.int .i64 v) (.int .i64 g)∧TrAt W (w1.heap.size+1) (.int .i64 s') (.int .i64 v') (.int .i64 g')∧Below w.heap.size w W))
   clear hw2 hb2 hA2 hB2 HB1
   obtain ⟨m,hm⟩:∃ m,joinM ⟨s,v,g⟩ ⟨s',v',g'⟩=m:=⟨_,rfl⟩
   obtain ⟨j,hj⟩:∃ j,joinB ⟨s,v,g⟩ ⟨s',v',g'⟩=j:=⟨_,rfl⟩
   have HM:=Lib.hid hm
   have HJ:=Lib.hid hj
   have HJI:=Lib.hid (fun (W:World)=>(by have h:=joinCerts_impl s v g s' v' g' W;rw [hm,hj] at h;exact h:Calls Try.prog 18 #[.agg #[.int .i64 s,.int .i64 v,.int .i64 g],.agg #[.int .i64 s',.int .i64 v',.int .i64 g']] W (GotCrtB m j W)))
   have HJS:=Lib.hid (fun (W:World)=>(by have h:=joinCerts_spec s v g s' v' g' W;rw [hm,hj] at h;exact h:Calls Try.prog 19 #[.agg #[.int .i64 s,.int .i64 v,.int .i64 g],.agg #[.int .i64 s',.int .i64 v',.int .i64 g']] W (GotCrtB m j W)))
   have HJR:=Lib.hid (fun (W:World)=>(by have h:=joinCerts_impl s' v' g' s v g W;rw [joinM_symm,joinB_symm,hm,hj] at h;exact h:Calls Try.prog 18 #[.agg #[.int .i64 s',.int .i64 v',.int .i64 g'],.agg #[.int .i64 s,.int .i64 v,.int .i64 g]] W (GotCrtB m j W)))
   clear hm hj
   have hjj:(j != j)=false:=by cases j <;> rfl
   obtain ⟨⟨a0,a1,a2,-⟩,⟨b0,b1,b2,-⟩,-⟩:=HK.out w2 (Below.refl _ _)
   go_wp2_with fail
   refine (HJI.out w2).mono ?_;rintro e w9 ⟨rfl,hb9⟩
   clear a0 a1 a2 b0 b1 b2
   go_upto_region 5 with (fail)
   generalize hww:World.alloc _ _=w3
   have hbn:Below w9.heap.size w9 w3:=by rw [← hww];exact (Below.refl _ _).alloc (Nat.le_refl _) _
   have hXX:TrAt w3 w9.heap.size (.int .i64 m.sum) (.int .i64 m.view) (.int .i64 m.sig):=by rw [← hww];exact trAt_new w9 _ _ _ _
   have hbX:=hb9.trans (hbn.mono hb9.size)
   obtain ⟨X,hX⟩:∃ X,X=w9.heap.size:=⟨_,rfl⟩
   rw [← hX] at hXX ⊢
   clear hww hbn hb9 hX
   have HX3:=Lib.hid hXX
   have HB3:=Lib.hid hbX
   clear hXX hbX
   obtain ⟨⟨a0,a1,a2,-⟩,⟨b0,b1,b2,-⟩,-⟩:=HK.out w3 HB3.out
   go_wp2_with fail
   refine (HJS.out w3).mono ?_;rintro e w9 ⟨rfl,hb9⟩
   clear a0 a1 a2 b0 b1 b2
   go_upto_region 6 with (fail)
   generalize hww:World.alloc _ _=w4
   have hbn:Below w9.heap.size w9 w4:=by rw [← hww];exact (Below.refl _ _).alloc (Nat.le_refl _) _
   have hXY:TrAt w4 w9.heap.size (.int .i64 m.sum) (.int .i64 m.view) (.int .i64 m.sig):=by rw [← hww];exact trAt_new w9 _ _ _ _
   have hbY:=hb9.trans (hbn.mono hb9.size)
   obtain ⟨Y,hY⟩:∃ X,X=w9.heap.size:=⟨_,rfl⟩
   rw [← hY] at hXY ⊢
   clear hww hbn hb9 hY
   have HX4:=Lib.hid (HX3.out.below hbY)
   have HY4:=Lib.hid hXY
   have HB4:=Lib.hid (HB3.out.trans (hbY.mono HB3.out.size))
   clear hXY hbY HX3 HB3
   obtain ⟨⟨a0,a1,a2,-⟩,⟨b0,b1,b2,-⟩,-⟩:=HK.out w4 HB4.out
   go_wp2_with fail
   refine (HJR.out w4).mono ?_;rintro e w9 ⟨rfl,hb9⟩
   clear a0 a1 a2 b0 b1 b2
   go_upto_region 7 with (fail)
   generalize hww:World.alloc _ _=w5
   have hbn:Below w9.heap.size w9 w5:=by rw [← hww];exact (Below.refl _ _).alloc (Nat.le_refl _) _
   have hXV:TrAt w5 w9.heap.size (.int .i64 m.sum) (.int .i64 m.view) (.int .i64 m.sig):=by rw [← hww];exact trAt_new w9 _ _ _ _
   have hbV:=hb9.trans (hbn.mono hb9.size)
   obtain ⟨V,hV⟩:∃ X,X=w9.heap.size:=⟨_,rfl⟩
   rw [← hV] at hXV ⊢
   clear hww hbn hb9 hV
   have HX5:=Lib.hid (HX4.out.below hbV)
   have HY5:=Lib.hid (HY4.out.below hbV)
   have HV5:=Lib.hid hXV
   have HB5:=Lib.hid (HB4.out.trans (hbV.mono HB4.out.size))
   clear hXV hbV HX4 HY4 HB4 HJI HJS HJR
   cases j with
   | false =>
    have hmz:m=noCrt:=by rw [← HM.out];exact joinM_no HJ.out
    subst hmz
    obtain ⟨x0,x1,x2,-⟩:=HX5.out
    obtain ⟨y0,y1,y2,-⟩:=HY5.out
    obtain ⟨u0,u1,u2,-⟩:=HV5.out
    simp only [noCrt] at x0 x1 x2 y0 y1 y2 u0 u1 u2
    go_wp2_with fail
    refine (alive_any w5).mono ?_;rintro e w6 ⟨rfl,hb6⟩
    have HBF:=Lib.hid ((HK.out w5 HB5.out).2.2.trans (hb6.mono (HK.out w5 HB5.out).2.2.size))
    clear x0 x1 x2 y0 y1 y2 u0 u1 u2 hb6
    go_wp2
    go_ret
    exact ⟨rfl,HBF.out⟩
   | true =>
    obtain ⟨f1,f2,f3,f4⟩:=join_facts HJ.out
    rw [HM.out] at f1 f2 f3 f4
    have HF1:=Lib.hid f1
    have HF2:=Lib.hid f2
    have HF3:=Lib.hid f3
    have hor:bits .or .i64 g g'=m.sig:=by rw [f4];rfl
    have hmm:(m.sig == m.sig)=true:=by simp
    clear f1 f2 f3 f4
    obtain ⟨x0,x1,x2,-⟩:=HX5.out
    obtain ⟨y0,y1,y2,-⟩:=HY5.out
    obtain ⟨u0,u1,u2,-⟩:=HV5.out
    go_wp2_with fail
    refine (certValid_impl m.sum m.view m.sig w5).mono ?_;rintro e w6 ⟨rfl,hb6⟩
    rw [HF1.out]
    have HX6:=Lib.hid (HX5.out.below hb6)
    have HB6:=Lib.hid (HB5.out.trans (hb6.mono HB5.out.size))
    clear x0 x1 x2 y0 y1 y2 u0 u1 u2 hb6 HX5 HY5 HV5 HB5
    obtain ⟨⟨a0,a1,a2,-⟩,-,-⟩:=HK.out w6 HB6.out
    go_wp2_with fail
    refine (certCounts_impl s v g w6).mono ?_;rintro e w7 ⟨rfl,hb7⟩
    have HX7:=Lib.hid (HX6.out.below hb7)
    have HB7:=Lib.hid (HB6.out.trans (hb7.mono HB6.out.size))
    clear a0 a1 a2 hb7 HX6 HB6
    obtain ⟨ca,hca⟩:∃ x,cntB ⟨s,v,g⟩=x:=⟨_,rfl⟩
    obtain ⟨cb,hcb⟩:∃ x,cntB ⟨s',v',g'⟩=x:=⟨_,rfl⟩
    rw [hca] at HF2 ⊢
    have HCB:=Lib.hid hcb
    clear hca hcb
    cases ca with
    | false =>
     obtain ⟨-,⟨b0,b1,b2,-⟩,-⟩:=HK.out w7 HB7.out
     go_wp2_with fail
     refine (certCounts_impl s' v' g' w7).mono ?_;rintro e w8 ⟨rfl,hbn⟩
     rw [HCB.out]
     have HX8:=Lib.hid (HX7.out.below hbn)
     have HB8:=Lib.hid (HB7.out.trans (hbn.mono HB7.out.size))
     clear b0 b1 b2 hbn HX7 HB7
     cases cb with
     | false =>
      obtain ⟨x0,x1,x2,-⟩:=HX8.out
      obtain ⟨⟨a0,a1,a2,-⟩,⟨b0,b1,b2,-⟩,hbf⟩:=HK.out w8 HB8.out
      have HBF:=Lib.hid hbf
      clear hbf
      go_wp2
      go_ret
      exact ⟨rfl,HBF.out⟩
     | true =>
      obtain ⟨x0,x1,x2,-⟩:=HX8.out
      go_wp2_with fail
      refine (certCounts_impl m.sum m.view m.sig w8).mono ?_;rintro e wz ⟨rfl,hbz⟩
      rw [HF3.out HCB.out]
      have HXZ:=Lib.hid (HX8.out.below hbz)
      have HBZ:=Lib.hid (HB8.out.trans (hbz.mono HB8.out.size))
      clear x0 x1 x2 hbz
      obtain ⟨x0,x1,x2,-⟩:=HXZ.out
      obtain ⟨⟨a0,a1,a2,-⟩,⟨b0,b1,b2,-⟩,hbf⟩:=HK.out wz HBZ.out
      have HBF:=Lib.hid hbf
      clear hbf
      go_wp2
      go_ret
      exact ⟨rfl,HBF.out⟩
    | true =>
     obtain ⟨x0,x1,x2,-⟩:=HX7.out
     go_wp2_with fail
     refine (certCounts_impl m.sum m.view m.sig w7).mono ?_;rintro e w8 ⟨rfl,hb8⟩
     rw [HF2.out (by first | trivial | rfl)]
     have HX8:=Lib.hid (HX7.out.below hb8)
     have HB8:=Lib.hid (HB7.out.trans (hb8.mono HB7.out.size))
     clear x0 x1 x2 hb8 HX7 HB7
     obtain ⟨-,⟨b0,b1,b2,-⟩,-⟩:=HK.out w8 HB8.out
     go_wp2_with fail
     refine (certCounts_impl s' v' g' w8).mono ?_;rintro e w10 ⟨rfl,hbn⟩
     rw [HCB.out]
     have HX9:=Lib.hid (HX8.out.below hbn)
     have HB9:=Lib.hid (HB8.out.trans (hbn.mono HB8.out.size))
     clear b0 b1 b2 hbn HX8 HB8
     cases cb with
     | false =>
      obtain ⟨x0,x1,x2,-⟩:=HX9.out
      obtain ⟨⟨a0,a1,a2,-⟩,⟨b0,b1,b2,-⟩,hbf⟩:=HK.out w10 HB9.out
      have HBF:=Lib.hid hbf
      clear hbf
      go_wp2
      go_ret
      exact ⟨rfl,HBF.out⟩
     | true =>
      obtain ⟨x0,x1,x2,-⟩:=HX9.out
      go_wp2_with fail
      refine (certCounts_impl m.sum m.view m.sig w10).mono ?_;rintro e wz ⟨rfl,hbz⟩
      rw [HF3.out HCB.out]
      have HXZ:=Lib.hid (HX9.out.below hbz)
      have HBZ:=Lib.hid (HB9.out.trans (hbz.mono HB9.out.size))
      clear x0 x1 x2 hbz
      obtain ⟨x0,x1,x2,-⟩:=HXZ.out
      obtain ⟨⟨a0,a1,a2,-⟩,⟨b0,b1,b2,-⟩,hbf⟩:=HK.out wz HBZ.out
      have HBF:=Lib.hid hbf
      clear hbf
      go_wp2
      go_ret
      exact ⟨rfl,HBF.out⟩
 · have hs':(1048576:Int) < (len:Int):=by omega
   clear h hlc
   go_enter Try.func5,Try.ntmps5
   go_wp2
   go_ret
   exact ⟨rfl,Below.refl _ _⟩
end Go.Proofs.Ytolhdacbahgfgaa
namespace Go.Proofs.Ytolhdacbahgfgaa.fnJoinCerts
open Go.ChangeShapes Go.WideShapes Go.ChangeAt Go.RowKit
set_option linter.unusedVariables false

theorem own : ownKnob Try.prog.godebug = none := by kernel_rfl
theorem laidOut : laidOutB Try.prog = true := by kernel_rfl

set_option maxRecDepth 100000 in
theorem lifted (os : Os) (started : os.Started) (H : Type) (enc : TypeId × Value → H) :
    ReturnsInHanded {} Try.checked os 5 .any (Rows.fnJoinCertsSpec.pre6 enc Try.prog Try.f5 Rows.fnJoinCertsRow.domain false) (Rows.fnJoinCertsSpec.post enc Try.prog Try.f5 false true false false) := by
  refine returnsInHanded_of_change (C := Try.checked) own started (by kernel_rfl) Try.func5
    (ChangeSpec.witness6 (enc := enc) (C := Try.checked) false ⟨#[], #[.slice none 0 0], []⟩ 8 (by kernel_rfl) (by kernel_rfl) (by kernel_rfl) (by kernel_rfl)) ?_
  intro W base args ds gs before hval0 hW hcnd _
  have hval : ∀ (j : Nat) t v, Try.f5.params[j]? = some t → args[j]? = some v → Value.okWide Try.prog W .any base t v := hval0
  have hW' := hW
  obtain ⟨p, q, hA0, hV, rfl, hfz, hnd⟩ := hW
  have hA : DataW.TrodAll enc Try.prog W 0 (fun _ => true) true Try.f5.params.toList args.toList ds p := hA0
  rw [Try.params5] at hA hval
  obtain ⟨v0, vs0, d0, ds0, p0, q0, hargs, rfl, rfl, h0, r0⟩ := trodAll_cons hA
  obtain ⟨rfl, rfl, rfl⟩ := trodAll_nil r0
  obtain rfl : args = #[v0] := by cases args; simp_all
  obtain ⟨rfl, rfl⟩ := trodVars_none hV
  obtain ⟨a0, len0, cap0, rfl⟩ := okWide_slice Try.underlying22 (hval 0 22 v0 rfl rfl)
  have k0 := h0
  have lt0 : ∀ x ∈ p0, x.block < W.heap.size := by obtain ⟨m, hm⟩ := k0; exact DataW.trod_lt m _ _ _ hm
  obtain ⟨z0, w0, cz0, lc0⟩ := in_rowB h0
  clear hA0 hval0
  refine (lawJoinCerts a0 len0 cap0 z0 W w0 cz0 lc0).mono fun e W' ⟨he, bel⟩ => ?_
  subst he
  exact ⟨_, rfl, _, _, _, [], _, [], hW', trodAll_mk1 (shut_bool Try.underlying4 _), (trodAll_cons_mk (Below.trod laidOut (by kernel_rfl) (of_decide_eq_true (by kernel_rfl)) k0 bel lt0) trodAll_mk0), rfl, bel.frame _, fun h => by cases h⟩

theorem over : Rows.fnJoinCertsRow.holds Try.pinned (OpenSpec.ofChange Rows.fnJoinCertsSpec) :=
  OpenClaim.holds_of_wide 5 Try.f5 rfl rfl rfl rfl rfl rfl rfl ⟨rfl, rfl, rfl, rfl, rfl⟩ rfl rfl rfl rfl rfl (by kernel_rfl) Try.func5 (by kernel_rfl)
    (of_decide_eq_true (by kernel_rfl)) (by unfold Func.isWrapper; first | (rw [if_pos (by decide +kernel)]; kernel_rfl) | (rw [if_neg (by decide +kernel)]; exact ⟨rfl, rfl⟩))
    (fun os started H enc _ => lifted os started H enc)

theorem proved : Rows.FnJoinCertsSaid := over
end Go.Proofs.Ytolhdacbahgfgaa.fnJoinCerts
