/- The contracts of the model's CertValid,CertCounts,JoinCerts,and what they call (gen18/cert.py). -/
import Derived.Test.YtolhdacbahgfgaaGreatCertMath
import Derived.Test.YtolhdacbahgfgaaGreatSpecAct
import Derived.Test.YtolhdacbahgfgaaGreatTwo
import Derived.Deep.Cut
namespace Go.Proofs.YtolhdacbahgfgaaGreat
open Go.RowKit
set_option linter.unusedVariables false
set_option linter.unusedSimpArgs false
def partM (n:Int):Nat→Int
 | 0=>0
 | 1=>n % 2
 | 2=>n % 2+n / 2 % 2
 | 3=>n % 2+n / 2 % 2+n / 4 % 2
 | _=>manyM n
theorem l15Many_spec (n:Int) (w:World) (h0:0≤n) (h1:n≤15) :
  Calls Tryz.prog 73 #[.int .i64 n] w fun e w'=>e = .returned (.int .i64 (manyM n))∧w=w':=by
 go_enter Tryz.func73,Tryz.ntmps73
 go_wp2
 go_loopw [3,4] (fun a i wr=>∃ k:Nat,k≤4∧i = .int .i64 k∧a = .int .i64 (partM n k)∧wr=w) (fun _ i _=>4 - (intOf i).toNat)
 case atStart=>exact ⟨0,by omega,rfl,rfl,rfl⟩
 case round =>
  obtain ⟨k,hk,rfl,rfl,rfl⟩:=hrel
  rcases (by omega:k=0∨k=1∨k=2∨k=3∨k=4) with rfl | rfl | rfl | rfl | rfl
  · simp only [partM]
    go_wp2
    go_roundw
    case rel=>exact ⟨1,by omega,rfl,by simp [partM],by first | rfl | trivial⟩
    case measure=>simp [intOf]
  · simp only [partM]
    go_wp2
    go_roundw
    case rel=>exact ⟨2,by omega,rfl,by simp [partM],by first | rfl | trivial⟩
    case measure=>simp [intOf]
  · simp only [partM]
    go_wp2
    go_roundw
    case rel=>exact ⟨3,by omega,rfl,by simp [partM],by first | rfl | trivial⟩
    case measure=>simp [intOf]
  · simp only [partM]
    go_wp2
    go_roundw
    case rel=>exact ⟨4,by omega,rfl,by simp [partM,manyM],by first | rfl | trivial⟩
    case measure=>simp [intOf]
  · simp only [partM]
    go_wp2
    go_ret
    exact ⟨rfl,rfl⟩
set_option maxHeartbeats 1000000 in
theorem certValid_spec (s v g:Int) (w:World) :
  Calls Tryz.prog 72 #[.agg #[.int .i64 s,.int .i64 v,.int .i64 g]] w (BoolB (crtB ⟨s,v,g⟩) w):=by
 have HB:=Lib.hid ((Below.refl w.heap.size w).alloc (Nat.le_refl _) (.cells #[.int .i64 s,.int .i64 v,.int .i64 g] 36))
 cases e0:inB s 0 1000002 with
 | false =>
  have HE:Hid (crtB ⟨s,v,g⟩=false):=Lib.hid (by simp [crtB,e0])
  go_enter Tryz.func72,Tryz.ntmps72
  go_wp2_with (first | (go_at_call 65;refine (l1In_spec_hid _ _ _ _).mono ?_;rintro e w' ⟨rfl,rfl⟩))
  go_ret
  exact ⟨by rw [HE.out];rfl,HB.out⟩
 | true =>
 cases e1:inB v 0 1000 with
 | false =>
  have HE:Hid (crtB ⟨s,v,g⟩=false):=Lib.hid (by simp [crtB,e1])
  go_enter Tryz.func72,Tryz.ntmps72
  go_wp2_with (first | (go_at_call 65;refine (l1In_spec_hid _ _ _ _).mono ?_;rintro e w' ⟨rfl,rfl⟩))
  go_ret
  exact ⟨by rw [HE.out];rfl,HB.out⟩
 | true =>
 have HE:Hid (crtB ⟨s,v,g⟩=inB g 0 15):=Lib.hid (by simp [crtB,e0,e1])
 go_enter Tryz.func72,Tryz.ntmps72
 go_wp2_with (first | (go_at_call 65;refine (l1In_spec_hid _ _ _ _).mono ?_;rintro e w' ⟨rfl,rfl⟩))
 go_ret
 exact ⟨by rw [HE.out];rfl,HB.out⟩
set_option maxHeartbeats 1000000 in
theorem certCounts_spec (s v g:Int) (w:World) :
  Calls Tryz.prog 37 #[.agg #[.int .i64 s,.int .i64 v,.int .i64 g]] w (BoolB (cntB ⟨s,v,g⟩) w):=by
 have HB:=Lib.hid ((Below.refl w.heap.size w).alloc (Nat.le_refl _) (.cells #[.int .i64 s,.int .i64 v,.int .i64 g] 36))
 have HG:=Lib.hid (trAt_new w 36 (.int .i64 s) (.int .i64 v) (.int .i64 g))
 obtain ⟨x,hx⟩:∃ x,x=crtB ⟨s,v,g⟩:=⟨_,rfl⟩
 have HX:=Lib.hid hx.symm
 clear hx
 cases x with
 | false =>
  have HE:Hid (cntB ⟨s,v,g⟩=false):=Lib.hid (cntB_no HX.out)
  go_enter Tryz.func37,Tryz.ntmps37
  go_wp2_with fail
  refine (certValid_spec s v g _).mono ?_;rintro e w1 ⟨rfl,hb1⟩
  rw [HX.out]
  obtain ⟨c0,c1,c2,-⟩:=HG.out.below hb1
  have HB1:=Lib.hid (HB.out.trans (hb1.mono HB.out.size))
  clear hb1
  go_wp2_with fail
  go_ret
  exact ⟨by rw [HE.out];rfl,HB1.out⟩
 | true =>
  have HE:Hid (cntB ⟨s,v,g⟩=decide (3≤manyM g)):=Lib.hid (cntB_yes HX.out)
  have HS:=Lib.hid (crtB_true HX.out).2.2
  go_enter Tryz.func37,Tryz.ntmps37
  go_wp2_with fail
  refine (certValid_spec s v g _).mono ?_;rintro e w1 ⟨rfl,hb1⟩
  rw [HX.out]
  obtain ⟨c0,c1,c2,-⟩:=HG.out.below hb1
  have HB1:=Lib.hid (HB.out.trans (hb1.mono HB.out.size))
  clear hb1
  go_wp2_with fail
  refine (l15Many_spec g _ HS.out.1 HS.out.2).mono ?_;rintro e w2 ⟨rfl,rfl⟩
  go_wp2_with fail
  go_ret
  exact ⟨by rw [HE.out];rfl,HB1.out⟩
end Go.Proofs.YtolhdacbahgfgaaGreat
