/- The contracts of the draws of stage 7: l20Effects,DrawRunSerial,DrawDoneCount,DrawEffectsSum. -/
import Derived.Test.YtaaffpolmecicabGreatSpecXb
import Derived.Test.YtaaffpolmecicabGreatDrawAc
import Derived.Test.YtaaffpolmecicabGreatDrawEf
namespace Go.Proofs.YtaaffpolmecicabGreat
open Go.RowKit
set_option linter.unusedVariables false
def EntsActsD (w:World) (e:Ending) (w':World):Prop :=
 ∃ (g c:Nat) (S:List Ent) (g2 c2:Nat) (L:List Acn),e = .returned (.tuple #[.slice (some ⟨g,0,none⟩) S.length c,.slice (some ⟨g2,0,none⟩) L.length c2])∧RowE w' (some ⟨g,0,none⟩) S.length S∧S.length≤1000 ∧
  RowA w' (some ⟨g2,0,none⟩) L.length L∧L.length≤c2∧L.length≤20∧Below w.heap.size w w'
theorem OwnFs.upd {w w':World} {B T R:Nat} {eX eE:TypeId} {v:Value} {L:List Eff} (h:OwnFs w B T eX eE v L) (hu:Upd R w w') (hR:R < B):OwnFs w' B T eX eE v L :=
 h.turn (Turn.ofGrown (B:=R) (T:=R+1) hu (fun k hk=>by simp at hk;omega)) (.inr (.inl (by omega)))
set_option maxHeartbeats 1000000 in
theorem drawRunSerial_any (a:Option Addr) (len cap:Nat) (z:List Int) (w:World) (h:RowB w a len z) (hlc:len≤cap) :
  Calls Tryz.prog 14 #[.slice a len cap] w (EntsActsD w):=by
 have HR:=Lib.hid h
 clear h
 go_enter Tryz.func14,Tryz.ntmps14
 go_wp2_with fail
 refine (open_any a len cap z _ HR.out hlc).mono ?_;rintro e w1 ⟨R,rfl,hR,hr1,hb1,hRw⟩
 have HB1:=Lib.hid hb1
 clear hb1
 go_wp2_with fail
 refine (l20Store_any R 0 12 _ hr1 (by omega) (by omega) (by omega)).mono ?_;rintro e w2 ⟨v,S,rfl,hown,hwf,hlen,hr2,hu2⟩
 have HB2:=Lib.hid (hu2.below HB1.out HB1.out.size (by omega))
 clear hr1 hu2
 obtain ⟨g,c,rfl,hgB,hrow⟩:=rowE_of_own hown (by omega) hwf
 have hgl:g < w2.heap.size:=(hown.1.lt g rfl).2
 have hgR:g≠R:=by omega
 clear hown
 go_wp2_with fail
 refine (l20Actions_any R _ 12 _ hr2 (by omega) (by omega) (by omega)).mono ?_;rintro e w3 ⟨v3,L,rfl,ho3,hw3,hl3,hr3,hu3⟩
 have hrow3:RowE w3 (some ⟨g,0,none⟩) S.length S:=hrow.grown hu3 (by simp;exact hgR)
 have HB3:=Lib.hid (hu3.below HB2.out HB2.out.size (by omega))
 obtain ⟨g3,c3,rfl,-,-,hra,hlc3⟩:=rowA_of_own ho3 (by omega) hw3
 clear hr2 hr3 hu3 ho3 hrow
 go_wp2
 go_ret2
 exact ⟨g,c,S,g3,c3,L,rfl,hrow3,by omega,hra,hlc3,hl3,HB3.out⟩
end Go.Proofs.YtaaffpolmecicabGreat
