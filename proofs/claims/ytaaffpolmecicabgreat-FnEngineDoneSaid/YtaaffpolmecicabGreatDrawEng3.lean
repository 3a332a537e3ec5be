/- The contracts of the draws that are an engine alone (gen15/draweng3.py). -/
import Derived.Test.YtaaffpolmecicabGreatDrawEng2
namespace Go.Proofs.YtaaffpolmecicabGreat
open Go.RowKit
set_option linter.unusedVariables false
set_option linter.unusedSimpArgs false
theorem rowB_belowE {w w':World} {a:Option Addr} {len:Nat} {z:List Int} (h:RowB w a len z) (hb:Below w.heap.size w w'):RowB w' a len z:=by
 obtain ⟨h1,h2,h3,h4⟩:=h
 refine ⟨h1,h2,fun hl=>?_,h4⟩
 obtain ⟨b,off,he,hc⟩:=h3 hl
 refine ⟨b,off,he,fun i hi=>?_⟩
 have hlt:b < w.heap.size:=World.block_lt_of_cell? w ⟨b,off+i,none⟩ (hc i hi)
 rw [hb.cell (p:=⟨b,off+i,none⟩) hlt]
 exact hc i hi
def DrawnE (w:World) (en:Ending) (w':World):Prop :=
 ∃ b1 m1 d1 b2 m2 d2 b3 m3 d3 b4 m4 d4 e,en = .returned (.agg #[.slice b1 m1 d1,.slice b2 m2 d2,.slice b3 m3 d3,.slice b4 m4 d4])∧(∀ W,Below w'.heap.size w' W→EngRd W (.slice b1 m1 d1) (.slice b2 m2 d2) (.slice b3 m3 d3) (.slice b4 m4 d4) e)∧EngSm e∧Below w.heap.size w w'
theorem drawnE_fin {w w1 w2:World} {R:Nat} {b1 b2 b3 b4:Option Addr} {m1 d1 m2 d2 m3 d3 m4 d4:Nat} {e:Eng} (hb:Below w.heap.size w w1) (h1:w.heap.size < w1.heap.size) (hR:w.heap.size≤R) (hu:Upd R w1 w2) (hrd:∀ W:World,(∀ k,w1.heap.size < k→k < w2.heap.size→k≠R→W.heap[k]? = w2.heap[k]?)→EngRd W (.slice b1 m1 d1) (.slice b2 m2 d2) (.slice b3 m3 d3) (.slice b4 m4 d4) e) (hs:EngSm e) :
  DrawnE w (.returned (.agg #[.slice b1 m1 d1,.slice b2 m2 d2,.slice b3 m3 d3,.slice b4 m4 d4])) (set4 w2 w.heap.size (.slice b1 m1 d1) (.slice b2 m2 d2) (.slice b3 m3 d3) (.slice b4 m4 d4)):=by
 have hG:=set4_grown w2 w.heap.size (.slice b1 m1 d1) (.slice b2 m2 d2) (.slice b3 m3 d3) (.slice b4 m4 d4)
 refine ⟨b1,m1,d1,b2,m2,d2,b3,m3,d3,b4,m4,d4,e,rfl,fun W hW=>hrd W (fun k hk0 hk1 _=>(hW.block k (Nat.lt_of_lt_of_le hk1 hG.size)).trans (hG.block k hk1 (fun h=>by simp only [Option.some.injEq] at h;omega))),hs,?_⟩
 exact (hu.below hb (Nat.le_of_lt h1) hR).grown hG (by have:=hu.size;omega) (fun k hk=>by simp only [Option.some.injEq] at hk;omega)
set_option maxHeartbeats 4000000 in
theorem drawEngineValid_any (a:Option Addr) (len cap:Nat) (z:List Int) (w:World) (h:RowB w a len z) (hlc:len≤cap) :
  Calls Tryz.prog 44 #[.slice a len cap] w (DrawnE w):=by
 have hZ0:=egAt_new w 57 (.slice none 0 0) (.slice none 0 0) (.slice none 0 0) (.slice none 0 0)
 have hb0:=(Below.refl w.heap.size w).alloc (Nat.le_refl _) (.cells #[.slice none 0 0,.slice none 0 0,.slice none 0 0,.slice none 0 0] 57)
 obtain ⟨w0,hw0⟩:∃ W1,W1=w.alloc (.cells #[.slice none 0 0,.slice none 0 0,.slice none 0 0,.slice none 0 0] 57):=⟨_,rfl⟩
 have HW0:=Lib.hid hw0
 have hrb:RowB w0 a len z:=by rw [hw0];exact rowB_belowE h hb0
 rw [← hw0] at hb0 hZ0
 clear hw0 h
 have HB0:=Lib.hid hb0
 have HZ0:=Lib.hid hZ0
 have HOP:=Lib.hid (open_any a len cap z w0 hrb hlc)
 clear hb0 hZ0 hrb
 go_enter Tryz.func44,Tryz.ntmps44
 go_upto_region 1 with (fail)
 rw [← HW0.out]
 clear HW0
 go_wp2_with fail
 refine HOP.out.mono ?_;rintro e w1 ⟨R,rfl,hR,hr1,hb1,hRl⟩
 have HR0:Hid (w.heap.size < R∧R < w1.heap.size):=Lib.hid ⟨by have:=HZ0.out.lt;omega,hr1.lt⟩
 have HB1:=Lib.hid (HB0.out.trans (hb1.mono HB0.out.size))
 have HZ1:=Lib.hid (HZ0.out.below hb1)
 clear HOP hb1 HB0 HZ0 hRl hR
 go_wp2_with fail
 refine (l20Engine_any R 0 2 _ hr1 (by omega) (by omega) (by omega)).mono ?_;rintro e w2 ⟨v1,v2,v3,v4,E,rfl,hrd,hsm,-,hu2⟩
 have hrd0:=hrd w2 (fun _ _ _ _=>rfl)
 obtain ⟨⟨b1,m1,d1,rfl,-⟩,⟨b2,m2,d2,rfl,-⟩,⟨b3,m3,d3,rfl,-⟩,b4,m4,d4,rfl,-⟩:=hrd0
 have HZ2:=Lib.hid (HZ1.out.upd hu2 (by have:=HR0.out;omega))
 have HFIN:=Lib.hid (drawnE_fin HB1.out HZ1.out.lt (Nat.le_of_lt HR0.out.1) hu2 hrd hsm)
 have HE:=Lib.hid (HZ2.out.set4 (.slice b1 m1 d1) (.slice b2 m2 d2) (.slice b3 m3 d3) (.slice b4 m4 d4))
 clear hr1 hrd hsm hu2 HB1 HZ1
 obtain ⟨q0,q1,q2,q3,p0,p1,p2,p3⟩:=HZ2.out
 unfold set4 at HFIN HE
 go_wp2_with fail
 exact bodyPost_ret (results_eng Tryz.results44 _ (by rfl) HE.out) rfl HFIN.out
end Go.Proofs.YtaaffpolmecicabGreat
