/- A tree that reads in every world behind which only the reader has moved: its blocks' cells are not the reader's. No function of the program is named here. -/
import Derived.Test.YtolhdacbahgfgabTrM
import Derived.Test.YtolhdacbahgfgabCore
namespace Go.Proofs.Ytolhdacbahgfgab
open Go.RowKit
set_option linter.unusedVariables false
theorem upd_wipe (w:World) (R:Nat):Upd R w { w with heap:=w.heap.setIfInBounds R (.cells #[] 0 (0,0)) } :=
 ⟨rfl,rfl,rfl,by simp,fun q hq hr=>by
  have hne:R≠q:=fun e=>hr (by rw [e])
  simp [hne]⟩
theorem tre_ne {w:World} {R b off n c:Nat} {v1 v3:Value} {t:Tre} (h:∀ W,Upd R w W→TreRd W v1 (.slice (some ⟨b,off,none⟩) n c) v3 t) (hn:0 < n):b≠R:=by
 intro e
 subst e
 obtain ⟨-,⟨a2,n2,c2,e2,r2,-,-⟩,-⟩:=h _ (upd_wipe w b)
 simp only [Value.slice.injEq] at e2
 obtain ⟨rfl,rfl,rfl⟩:=e2
 obtain ⟨b',off',e3,hb⟩:=r2.at 0 hn
 simp only [Option.some.injEq,Addr.mk.injEq] at e3
 obtain ⟨rfl,rfl,-⟩:=e3
 have h0:=hb.c0
 have hl:b < w.heap.size:=by
  obtain ⟨-,⟨a2,n2,c2,e2,r2,-,-⟩,-⟩:=h _ (Upd.refl _ w)
  simp only [Value.slice.injEq] at e2
  obtain ⟨rfl,rfl,rfl⟩:=e2
  obtain ⟨b',off',e3,hb⟩:=r2.at 0 hn
  simp only [Option.some.injEq,Addr.mk.injEq] at e3
  obtain ⟨rfl,rfl,-⟩:=e3
  exact hb.lt
 simp [World.cell?,hl] at h0
def BkHold (R:Nat) (w:World) (b o:Nat) (x:Blk) (a:Option Addr) (n c:Nat):Prop :=
 ∀ W,Upd R w W→(W.cell? ⟨b,o,none⟩=some (.int .i64 x.bef)∧W.cell? ⟨b,o+1,none⟩=some (.int .i64 x.hgt)∧W.cell? ⟨b,o+2,none⟩=some (.int .i64 x.view)∧W.cell? ⟨b,o+3,none⟩=some (.slice a n c)∧W.cell? ⟨b,o+4,none⟩=some (.int .i64 x.root)∧W.cell? ⟨b,o+5,none⟩=some (.int .i64 x.effs))∧RowA W a n x.acts
theorem tre_hold {w:World} {R b off n c:Nat} {v1 v3:Value} {t:Tre} (h:∀ W,Upd R w W→TreRd W v1 (.slice (some ⟨b,off,none⟩) n c) v3 t) (k:Nat) (hk:k < n):∃ a m e,BkHold R w b (off+k*6) (t.blocks.getD k noBlk) a m e:=by
 have hne:=tre_ne h (by omega)
 have hat:∀ W,Upd R w W→BkIn W b (off+k*6) (t.blocks.getD k noBlk):=by
  intro W hu
  obtain ⟨-,⟨a2,n2,c2,e2,r2,-,-⟩,-⟩:=h W hu
  simp only [Value.slice.injEq] at e2
  obtain ⟨rfl,rfl,rfl⟩:=e2
  obtain ⟨b',off',e3,hb⟩:=r2.at k hk
  simp only [Option.some.injEq,Addr.mk.injEq] at e3
  obtain ⟨rfl,rfl,-⟩:=e3
  exact hb
 obtain ⟨v,hv,a,m,e,rfl,-⟩:=(hat w (Upd.refl _ _)).c3
 refine ⟨a,m,e,fun W hu=>?_⟩
 have hb:=hat W hu
 obtain ⟨v',hv',a',m',e',rfl,ra,-⟩:=hb.c3
 have h3:=hu.cell hv hne
 rw [hv'] at h3
 simp only [Option.some.injEq,Value.slice.injEq] at h3
 obtain ⟨rfl,rfl,rfl⟩:=h3
 exact ⟨⟨hb.c0,hb.c1,hb.c2,hv',hb.c4,hb.c5⟩,ra⟩
end Go.Proofs.Ytolhdacbahgfgab
