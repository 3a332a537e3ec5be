/- The draw of blocks over stores: DrawBlockRight. -/
import Derived.Test.YtnojhgckinibgabGreatSpecNext
import Derived.Test.YtnojhgckinibgabGreatSpecRight
import Derived.Test.YtnojhgckinibgabGreatDrawAc
import Derived.Test.YtnojhgckinibgabGreatDrawT
import Derived.Deep.Cut
namespace Go.Proofs.YtnojhgckinibgabGreat
open Go.RowKit
set_option linter.unusedVariables false
set_option linter.unusedSimpArgs false
theorem rowB_belowD {w w':World} {a:Option Addr} {len:Nat} {z:List Int} (h:RowB w a len z) (hb:Below w.heap.size w w'):RowB w' a len z:=by
 obtain ⟨h1,h2,h3,h4⟩:=h
 refine ⟨h1,h2,fun hl=>?_,h4⟩
 obtain ⟨b,off,he,hc⟩:=h3 hl
 refine ⟨b,off,he,fun i hi=>?_⟩
 have hlt:b < w.heap.size:=World.block_lt_of_cell? w ⟨b,off+i,none⟩ (hc i hi)
 rw [hb.cell (p:=⟨b,off+i,none⟩) hlt]
 exact hc i hi
theorem firstM_acts (S:List Ent):(firstM S).acts=[]:=by
 unfold firstM;split <;> rfl
theorem nextM_acts (b:Blk) (S:List Ent) (view:Int) (M:List Acn):(nextM b S view M).acts.length≤M.length:=by
 unfold nextM;split
 · exact Nat.le_refl _
 · exact Nat.zero_le _
theorem nextM_root (b:Blk) (S:List Ent) (view:Int) (M:List Acn) : -1≤(nextM b S view M).root∧(nextM b S view M).root≤1000002:=by
 unfold nextM;split
 · exact rootM_bd _
 · exact ⟨by decide,by decide⟩
theorem BkAt.put3 {w:World} {Z:Nat} {v0 v1 v2 v3 v4 v5:Value} (h:BkAt w Z v0 v1 v2 v3 v4 v5) (x:Value):BkAt (w.setCell ⟨Z,3,none⟩ x) Z v0 v1 v2 x v4 v5:=by
 constructor <;> simp [go_sem,h.c0,h.c1,h.c2,h.c3,h.c4,h.c5,h.f0,h.f1,h.f2,h.f3,h.f4,h.f5]
theorem BkAt.put4 {w:World} {Z:Nat} {v0 v1 v2 v3 v4 v5:Value} (h:BkAt w Z v0 v1 v2 v3 v4 v5) (x:Value):BkAt (w.setCell ⟨Z,4,none⟩ x) Z v0 v1 v2 v3 x v5:=by
 constructor <;> simp [go_sem,h.c0,h.c1,h.c2,h.c3,h.c4,h.c5,h.f0,h.f1,h.f2,h.f3,h.f4,h.f5]
theorem BkAt.put5 {w:World} {Z:Nat} {v0 v1 v2 v3 v4 v5:Value} (h:BkAt w Z v0 v1 v2 v3 v4 v5) (x:Value):BkAt (w.setCell ⟨Z,5,none⟩ x) Z v0 v1 v2 v3 v4 x:=by
 constructor <;> simp [go_sem,h.c0,h.c1,h.c2,h.c3,h.c4,h.c5,h.f0,h.f1,h.f2,h.f3,h.f4,h.f5]
def DrawBkS (w:World) (e:Ending) (w':World):Prop :=
 ∃ (p q r:Int) (a:Option Addr) (n c:Nat) (t u:Int) (L:List Acn) (g cS:Nat) (S:List Ent),e = .returned (.tuple #[.agg #[.int .i64 p,.int .i64 q,.int .i64 r,.slice a n c,.int .i64 t,.int .i64 u],.slice (some ⟨g,0,none⟩) S.length cS])∧RowA w' a n L∧L.length≤20∧RowE w' (some ⟨g,0,none⟩) S.length S∧S.length≤1000∧Below w.heap.size w w'
theorem BkAt.upd {w w':World} {Z R:Nat} {v0 v1 v2 v3 v4 v5:Value} (h:BkAt w Z v0 v1 v2 v3 v4 v5) (hu:Upd R w w') (hne:Z≠R):BkAt w' Z v0 v1 v2 v3 v4 v5:=h.keep (hu.block Z h.lt (fun e=>hne (by simpa using e)))
theorem owns_upd {w w':World} {B R:Nat} {e:TypeId} {size n:Nat} {v:Value} {xs:List Value} (h:w.ownsRow B e size v n xs) (hu:Upd R w w') (hR:R < B):w'.ownsRow B e size v n xs:=owns_grown h hu (fun k hk=>by simp at hk;omega)
set_option maxRecDepth 100000 in
set_option maxHeartbeats 8000000 in
theorem drawBlockRight_any (a:Option Addr) (len cap:Nat) (z:List Int) (w:World) (h:RowB w a len z) (hlc:len≤cap) :
  Calls Tryz.prog 51 #[.slice a len cap] w (DrawBkS w):=by
 have hZ0:=bkAt_new w 41 (.int .i64 0) (.int .i64 0) (.int .i64 0) (.slice none 0 0) (.int .i64 0) (.int .i64 0)
 have hb0:=(Below.refl w.heap.size w).alloc (Nat.le_refl _) (.cells #[.int .i64 0,.int .i64 0,.int .i64 0,.slice none 0 0,.int .i64 0,.int .i64 0] 41)
 obtain ⟨w0,hw0⟩:∃ W1,W1=w.alloc (.cells #[.int .i64 0,.int .i64 0,.int .i64 0,.slice none 0 0,.int .i64 0,.int .i64 0] 41):=⟨_,rfl⟩
 have HW0:=Lib.hid hw0
 have hrb:RowB w0 a len z:=by rw [hw0];exact rowB_belowD h hb0
 rw [← hw0] at hb0 hZ0
 clear hw0 h
 have HB0:=Lib.hid hb0
 have HZ0:=Lib.hid hZ0
 obtain ⟨Z,hZe⟩:∃ Z,Z=w.heap.size:=⟨_,rfl⟩
 have HZE:=Lib.hid hZe
 have HOP:=Lib.hid (open_any a len cap z w0 hrb hlc)
 clear hb0 hZ0 hrb hZe
 go_enter Tryz.func51,Tryz.ntmps51
 go_upto_region 1 with (fail)
 rw [← HW0.out]
 clear HW0
 go_wp2_with fail
 refine HOP.out.mono ?_;rintro e w1 ⟨R,rfl,hR,hr1,hb1,hRl⟩
 have HR0:Hid (w.heap.size < R∧R < w1.heap.size):=Lib.hid ⟨by have:=HZ0.out.lt;omega,hr1.lt⟩
 have HB1:=Lib.hid (HB0.out.trans (hb1.mono HB0.out.size))
 have HZ1:=Lib.hid (HZ0.out.below hb1)
 clear HOP hb1 HB0 HZ0 hRl hR
 go_wp2_with fail
 refine (l20Store_any R 0 0 _ hr1 (by omega) (by omega) (by omega)).mono ?_;rintro e w2 ⟨v2,S,rfl,ho2,hw2,hl2,hr2,hu2⟩
 obtain ⟨g2,c2,rfl,hg2,hrS2⟩:=rowE_of_own ho2 (by omega) hw2
 have HSL:=Lib.hid hl2
 have HG2:=Lib.hid hg2
 have HU2:=Lib.hid hu2
 have HG2L:Hid (g2 < w2.heap.size):=Lib.hid (ho2.1.lt g2 rfl).2
 clear ho2 hw2 hr1 hu2 hl2 hg2
 go_wp2_with fail
 refine (firstBlock_spec _ _ c2 S _ hrS2).mono ?_;rintro e w3 ⟨v3,rfl,ho3,hwa3,-,hb3⟩
 obtain ⟨a3,c3,rfl,hr3,-,-,-⟩:=rowA_of_owns ho3 (by rw [firstM_acts];simp) hwa3
 have hrd3:=hr2.below hb3
 have HS3:=Lib.hid (hrS2.below hb3)
 have HU3:=Lib.hid (HU2.out.trans (Upd.ofBelow R hb3))
 have HF3:=Lib.hid hr3
 have HF3S:=Lib.hid ho3
 have HSZ3:Hid (w1.heap.size≤w2.heap.size∧w2.heap.size≤w3.heap.size):=Lib.hid ⟨HU2.out.size,hb3.size⟩
 clear hr2 hrS2 ho3 hwa3 hb3 hr3 HU2
 go_wp2_with fail
 refine (l20Actions_any R _ 0 _ hrd3 (by omega) (by omega) (by omega)).mono ?_;rintro e w4 ⟨v4,M,rfl,ho4,hw4,hl4,hr4,hu4⟩
 obtain ⟨g4,c4,rfl,hg4,-,hrM4,-⟩:=rowA_of_own ho4 (by omega) hw4
 have hne2:some g2≠some R:=fun e=>by have:=HG2.out;have:=HR0.out;simp at e;omega
 have HS4:=Lib.hid (HS3.out.grown hu4 hne2)
 have HF4:Hid (RowA w4 a3 (firstM S).acts.length (firstM S).acts):=Lib.hid (by
  have:=owns_upd HF3S.out hu4 (by have:=HR0.out;have:=HSZ3.out;omega)
  obtain ⟨a9,c9,e9,r9,-⟩:=rowA_of_owns this (by rw [firstM_acts];simp) (by rw [firstM_acts];intro x hx;cases hx)
  simp only [Value.slice.injEq] at e9
  obtain ⟨rfl,-,-⟩:=e9
  exact r9)
 have HU4:=Lib.hid (HU3.out.trans hu4)
 have hu4s:=hu4.size
 have HML:=Lib.hid hl4
 clear HS3 HU3 HF3 HF3S hrd3 ho4 hw4 hu4 hl4 hg4 hne2
 go_wp2_with fail
 refine (nextBlock_spec (firstM S).bef (firstM S).hgt (firstM S).view (firstM S).root (firstM S).effs a3 _ c3 (firstM S).acts _ _ c2 S 1 _ _ c4 M _ HF4.out HS4.out (fun h=>by cases h) hrM4 (fun h=>by cases h) rfl).mono ?_;rintro e w5 ⟨v5,rfl,ho5,hwa5,-,hb5⟩
 have hxl:=nextM_acts (firstM S) S 1 M
 have hxr:=nextM_root (firstM S) S 1 M
 obtain ⟨x,hx⟩:∃ x,x=nextM (firstM S) S 1 M:=⟨_,rfl⟩
 have hxe:nextM ⟨(firstM S).bef,(firstM S).hgt,(firstM S).view,(firstM S).acts,(firstM S).root,(firstM S).effs⟩ S 1 M=x:=hx.symm
 rw [← hx] at hxl hxr
 have HRT0:=Lib.hid hxr
 rw [hxe] at ho5 hwa5 ⊢
 obtain ⟨a5,n5,c5,rfl⟩:=slice_form ho5
 have HXL:Hid (x.acts.length≤20):=Lib.hid (by have:=HML.out;omega)
 have HWX:=Lib.hid hwa5
 have HO5:=Lib.hid ho5
 have HS5:=Lib.hid (HS4.out.below hb5)
 have HR5:=Lib.hid (hr4.below hb5)
 have HU5:=Lib.hid (HU4.out.trans (Upd.ofBelow R hb5))
 have HOG:Hid (∀ k,Value.ownBlock (.slice a5 n5 c5)=some k→k < w5.heap.size):=Lib.hid (fun k hk=>(ho5.lt k hk).2)
 have HSZ4:=Lib.hid hu4s
 have HSZ5:Hid (R < w4.heap.size∧w4.heap.size≤w5.heap.size):=Lib.hid ⟨by have:=HU4.out.size;have:=HR0.out;omega,hb5.size⟩
 clear hx hxe hxl hxr hu4s ho5 hwa5 hb5 hr4 hrM4 HS4 HF4 HU4
 go_upto_region 4 with (fail)
 generalize hw6:World.alloc _ _=w6
 have hb6:Below w5.heap.size w5 w6:=by rw [← hw6];exact (Below.refl _ _).alloc (Nat.le_refl _) _
 have hG6:BkAt w6 w5.heap.size (.int .i64 x.bef) (.int .i64 x.hgt) (.int .i64 x.view) (.slice a5 n5 c5) (.int .i64 x.root) (.int .i64 x.effs):=by rw [← hw6];exact bkAt_new w5 _ _ _ _ _ _ _
 have HR6:=Lib.hid (HR5.out.below hb6)
 have hu6:=HU5.out.trans (Upd.ofBelow R hb6)
 have HSTK:=Lib.hid (fun (W:World) (hu:Upd R w6 W)=>(⟨HZ1.out.upd (hu6.trans hu) (by have:=HR0.out;omega),hG6.upd hu (by have:=HSZ5.out;omega),(HS5.out.below hb6).grown hu (fun e=>by have:=HG2.out;have:=HR0.out;simp at e;omega),owns_upd (owns_below HO5.out hb6) hu (by have:=HSZ5.out;omega),(hu6.trans hu).below HB1.out HB1.out.size (by have:=HR0.out;omega)⟩:BkAt W w.heap.size (.int .i64 0) (.int .i64 0) (.int .i64 0) (.slice none 0 0) (.int .i64 0) (.int .i64 0)∧BkAt W w5.heap.size (.int .i64 x.bef) (.int .i64 x.hgt) (.int .i64 x.view) (.slice a5 n5 c5) (.int .i64 x.root) (.int .i64 x.effs)∧RowE W (some ⟨g2,0,none⟩) S.length S∧W.ownsRow w4.heap.size 141 4 (.slice a5 n5 c5) x.acts.length (flatA x.acts)∧Below w.heap.size w W))
 obtain ⟨G,hGe⟩:∃ G,G=w5.heap.size:=⟨_,rfl⟩
 have HGG:Hid (g2 < G∧G < w6.heap.size):=Lib.hid ⟨by have h1:=HG2L.out;have h2:=HSZ3.out;have h3:=HSZ4.out;have h4:=HSZ5.out;omega,by rw [hGe];exact hG6.lt⟩
 rw [← hGe] at HSTK HOG ⊢
 have HGZ:Hid (w.heap.size < G):=Lib.hid (by have:=HSZ5.out;have:=HR0.out;omega)
 clear hw6 hb6 hG6 hu6 hGe HR5 HU5 HO5 HS5 HZ1 HB1 HZE
 go_wp2_with fail
 refine (odd_any R _ 2 _ HR6.out (by omega) (by omega) (by omega)).mono ?_;rintro e w7 ⟨x7,rfl,hr7,hu7⟩
 have HU7:=Lib.hid hu7
 clear hu7 HR6
 have HEND:Hid (∀ (F:World) (p q r:Int) (a9:Option Addr) (n9 c9:Nat) (t u:Int) (L9:List Acn) (g9 c8:Nat) (S9:List Ent),BkAt F G (.int .i64 p) (.int .i64 q) (.int .i64 r) (.slice a9 n9 c9) (.int .i64 t) (.int .i64 u)→BkAt F w.heap.size (.int .i64 0) (.int .i64 0) (.int .i64 0) (.slice none 0 0) (.int .i64 0) (.int .i64 0) →
   (∃ B,w.heap.size < B∧F.ownsRow B 141 4 (.slice a9 n9 c9) L9.length (flatA L9))→WfAs L9→L9.length≤20→RowE F (some ⟨g9,0,none⟩) S9.length S9→g9≠w.heap.size→S9.length≤1000→Below w.heap.size w F →
   ∃ F',F'=(((((F.setCell ⟨w.heap.size,0,none⟩ (.int .i64 p)).setCell ⟨w.heap.size,1,none⟩ (.int .i64 q)).setCell ⟨w.heap.size,2,none⟩ (.int .i64 r)).setCell ⟨w.heap.size,3,none⟩ (.slice a9 n9 c9)).setCell ⟨w.heap.size,4,none⟩ (.int .i64 t)).setCell ⟨w.heap.size,5,none⟩ (.int .i64 u) ∧
    BkAt F' w.heap.size (.int .i64 p) (.int .i64 q) (.int .i64 r) (.slice a9 n9 c9) (.int .i64 t) (.int .i64 u)∧DrawBkS w (.returned (.tuple #[.agg #[.int .i64 p,.int .i64 q,.int .i64 r,.slice a9 n9 c9,.int .i64 t,.int .i64 u],.slice (some ⟨g9,0,none⟩) S9.length c8])) F'):=Lib.hid (by
  intro F p q r a9 n9 c9 t u L9 g9 c8 S9 hg hz ho hw hl hs hne hsl hb
  obtain ⟨B,hB,ho⟩:=ho
  have hno:Value.ownBlock (.slice a9 n9 c9)≠some w.heap.size:=fun e=>by have:=(ho.lt _ e).1;omega
  have ho2:=owns_set6 ho hno (.int .i64 p) (.int .i64 q) (.int .i64 r) (.slice a9 n9 c9) (.int .i64 t) (.int .i64 u)
  have hG:F.grownBy ((((((F.setCell ⟨w.heap.size,0,none⟩ (.int .i64 p)).setCell ⟨w.heap.size,1,none⟩ (.int .i64 q)).setCell ⟨w.heap.size,2,none⟩ (.int .i64 r)).setCell ⟨w.heap.size,3,none⟩ (.slice a9 n9 c9)).setCell ⟨w.heap.size,4,none⟩ (.int .i64 t)).setCell ⟨w.heap.size,5,none⟩ (.int .i64 u)) (some w.heap.size) :=
   grownBy_trans (grownBy_trans (grownBy_trans (grownBy_trans (grownBy_trans (grownBy_set F _ 0 _) (grownBy_set _ _ 1 _)) (grownBy_set _ _ 2 _)) (grownBy_set _ _ 3 _)) (grownBy_set _ _ 4 _)) (grownBy_set _ _ 5 _)
  obtain ⟨a8,k8,e8,r8,-⟩:=rowA_of_owns ho2 (by omega) hw
  simp only [Value.slice.injEq] at e8
  obtain ⟨rfl,rfl,rfl⟩:=e8
  exact ⟨_,rfl,hz.set6 _ _ _ _ _ _,p,q,r,a9,_,c9,t,u,L9,g9,c8,S9,rfl,r8,hl,hs.grown hG (by simpa using hne),hsl,below_set6 hb (Nat.le_refl _) _ _ _ _ _ _⟩)
 have HG2W:Hid (g2≠w.heap.size∧w.heap.size < w4.heap.size):=Lib.hid (by have:=HG2.out;have:=HR0.out;have:=HSZ5.out;omega)
 cases x7 with
 | false =>
  obtain ⟨hz7,hg7,hs7,ho7,hb7⟩:=HSTK.out w7 HU7.out
  obtain ⟨F,hFe,hF,hRet⟩:=HEND.out w7 x.bef x.hgt x.view a5 n5 c5 x.root x.effs x.acts g2 c2 S hg7 hz7 ⟨_,HG2W.out.2,ho7⟩ HWX.out HXL.out hs7 HG2W.out.1 HSL.out hb7
  have HF:=Lib.hid hF
  have HRET:=Lib.hid hRet
  have HFE:=Lib.hid hFe
  obtain ⟨zc0,zc1,zc2,zc3,zc4,zc5,zf0,zf1,zf2,zf3,zf4,zf5⟩:=hz7
  obtain ⟨gc0,gc1,gc2,gc3,gc4,gc5,gf0,gf1,gf2,gf3,gf4,gf5⟩:=hg7
  clear hF hRet hFe hs7 ho7 hb7 HEND HSTK
  go_wp2_with fail
  rw [← HFE.out]
  exact bodyPost_ret (results_blkB Tryz.results51 _ (by rfl) HF.out (.slice (some ⟨g2,0,none⟩) S.length c2) (by rfl)) rfl HRET.out
 | true =>
  go_wp2_with fail
  refine (pick_pos R _ 4 _ hr7 (by omega) (by omega) (by omega)).mono ?_;rintro e w8 ⟨x8,rfl,hq0,hq1,hr8,hu8⟩
  have HU8:=Lib.hid (HU7.out.trans hu8)
  have HR8:=Lib.hid hr8
  clear hr7 hu8 HU7 hr8
  have HST:=Lib.hid (fun (W:World) (hu:Upd R w6 W) (o:Nat) (v:Value)=>(⟨(HSTK.out W hu).1.grown (grownBy_set W G o v) (by have:=HGZ.out;simp;omega),(HSTK.out W hu).2.2.1.grown (grownBy_set W G o v) (by have:=HGG.out;simp;omega),(HSTK.out W hu).2.2.2.1.kept (grownBy_set W G o v) (.inr (fun e=>by have:=HOG.out G e;omega)),(HSTK.out W hu).2.2.2.2.setCell (p:=⟨G,o,none⟩) (by have:=HGZ.out;show w.heap.size≤G;omega) v⟩:BkAt (W.setCell ⟨G,o,none⟩ v) w.heap.size (.int .i64 0) (.int .i64 0) (.int .i64 0) (.slice none 0 0) (.int .i64 0) (.int .i64 0)∧RowE (W.setCell ⟨G,o,none⟩ v) (some ⟨g2,0,none⟩) S.length S∧(W.setCell ⟨G,o,none⟩ v).ownsRow w4.heap.size 141 4 (.slice a5 n5 c5) x.acts.length (flatA x.acts)∧Below w.heap.size w (W.setCell ⟨G,o,none⟩ v)))
  rcases (by omega:x8=0∨x8=1∨x8=2∨x8=3) with rfl | rfl | rfl | rfl
  · obtain ⟨-,hg8,-,-,-⟩:=HSTK.out w8 HU8.out
    have hrt:=HRT0.out
    have hwp:IntKind.i64.wrap (x.root+1)=x.root+1:=IntWalk.i64_in _ (by omega)
    have HG9:=Lib.hid (hg8.put4 (.int .i64 ((x.root+1) % 1000003)))
    have HT9:=Lib.hid (HST.out w8 HU8.out 4 (.int .i64 ((x.root+1) % 1000003)))
    obtain ⟨gc0,gc1,gc2,gc3,gc4,gc5,gf0,gf1,gf2,gf3,gf4,gf5⟩:=hg8
    go_upto_region 13 with (fail)
    clear gc0 gc1 gc2 gc3 gc4 gc5 gf0 gf1 gf2 gf3 gf4 gf5 hwp hrt
    generalize hrr:(x.root+1) % 1000003=rr at HG9 HT9 ⊢
    generalize hww:World.setCell w8 _ _=w9 at HG9 HT9 ⊢
    clear hrr hww
    obtain ⟨hz9,hs9,ho9,hb9⟩:=HT9.out
    have hg9:=HG9.out
    clear HG9 HT9
    obtain ⟨F,hFe,hF,hRet⟩:=HEND.out _ x.bef x.hgt x.view a5 n5 c5 rr x.effs x.acts g2 c2 S hg9 hz9 ⟨_,HG2W.out.2,ho9⟩ HWX.out HXL.out hs9 HG2W.out.1 HSL.out hb9
    have HF:=Lib.hid hF
    have HRET:=Lib.hid hRet
    have HFE:=Lib.hid hFe
    obtain ⟨zc0,zc1,zc2,zc3,zc4,zc5,zf0,zf1,zf2,zf3,zf4,zf5⟩:=hz9
    obtain ⟨gc0,gc1,gc2,gc3,gc4,gc5,gf0,gf1,gf2,gf3,gf4,gf5⟩:=hg9
    clear hF hRet hFe hs9 ho9 hb9 HEND HSTK HST
    go_wp2_with fail
    rw [← HFE.out]
    exact bodyPost_ret (results_blkB Tryz.results51 _ (by rfl) HF.out (.slice (some ⟨g2,0,none⟩) S.length c2) (by rfl)) rfl HRET.out
  · have HP2:=Lib.hid (pick_pos R _ 2 (w8.alloc (.cells #[.int .i64 (-1),.int .i64 0] 3)) (HR8.out.alloc _) (by omega) (by omega) (by omega))
    have hl8:R≠w8.heap.size:=by have:=HR8.out.lt;omega
    have ha0:(w8.alloc (.cells #[.int .i64 (-1),.int .i64 0] 3)).cell? ⟨w8.heap.size,0,none⟩=some (.int .i64 (-1)):=by simp [go_sem]
    have ha1:(w8.alloc (.cells #[.int .i64 (-1),.int .i64 0] 3)).cell? ⟨w8.heap.size,1,none⟩=some (.int .i64 0):=by simp [go_sem]
    have hua:=HU8.out.trans (Upd.ofBelow R ((Below.refl w8.heap.size w8).alloc (Nat.le_refl _) (.cells #[.int .i64 (-1),.int .i64 0] 3)))
    go_wp2_with fail
    refine HP2.out.mono ?_;rintro e w9 ⟨xi,rfl,hi0,hi1,hr9,hu9⟩
    have hb0:=hu9.cell (w:=w8.alloc (.cells #[.int .i64 (-1),.int .i64 0] 3)) ha0 (fun h=>hl8 h.symm)
    have hb1:=hu9.cell (w:=w8.alloc (.cells #[.int .i64 (-1),.int .i64 0] 3)) ha1 (fun h=>hl8 h.symm)
    have HU9:=Lib.hid (hua.trans hu9)
    clear ha0 ha1 hua hu9 hr9 HP2
    obtain ⟨-,hg8,-,-,-⟩:=HSTK.out w9 HU9.out
    obtain ⟨B8,hB8⟩:∃ B8,B8=w8.heap.size:=⟨_,rfl⟩
    rw [← hB8] at hb0 hb1 ⊢
    clear hB8 hl8
    rcases (by omega:xi=0∨xi=1) with rfl | rfl
    · skip
      have HG9:=Lib.hid (hg8.put5 (.int .i64 (-1)))
      have HT9:=Lib.hid (HST.out w9 HU9.out 5 (.int .i64 (-1)))
      obtain ⟨gc0,gc1,gc2,gc3,gc4,gc5,gf0,gf1,gf2,gf3,gf4,gf5⟩:=hg8
      go_upto_region 13 with (fail)
      clear gc0 gc1 gc2 gc3 gc4 gc5 gf0 gf1 gf2 gf3 gf4 gf5 hb0 hb1
      generalize hww:World.setCell w9 _ _=w10 at HG9 HT9 ⊢
      clear hww
      obtain ⟨hz9,hs9,ho9,hb9⟩:=HT9.out
      have hg9:=HG9.out
      clear HG9 HT9
      obtain ⟨F,hFe,hF,hRet⟩:=HEND.out _ x.bef x.hgt x.view a5 n5 c5 x.root (-1) x.acts g2 c2 S hg9 hz9 ⟨_,HG2W.out.2,ho9⟩ HWX.out HXL.out hs9 HG2W.out.1 HSL.out hb9
      have HF:=Lib.hid hF
      have HRET:=Lib.hid hRet
      have HFE:=Lib.hid hFe
      obtain ⟨zc0,zc1,zc2,zc3,zc4,zc5,zf0,zf1,zf2,zf3,zf4,zf5⟩:=hz9
      obtain ⟨gc0,gc1,gc2,gc3,gc4,gc5,gf0,gf1,gf2,gf3,gf4,gf5⟩:=hg9
      clear hF hRet hFe hs9 ho9 hb9 HEND HSTK HST
      go_wp2_with fail
      rw [← HFE.out]
      exact bodyPost_ret (results_blkB Tryz.results51 _ (by rfl) HF.out (.slice (some ⟨g2,0,none⟩) S.length c2) (by rfl)) rfl HRET.out
    · skip
      have HG9:=Lib.hid (hg8.put5 (.int .i64 0))
      have HT9:=Lib.hid (HST.out w9 HU9.out 5 (.int .i64 0))
      obtain ⟨gc0,gc1,gc2,gc3,gc4,gc5,gf0,gf1,gf2,gf3,gf4,gf5⟩:=hg8
      go_upto_region 13 with (fail)
      clear gc0 gc1 gc2 gc3 gc4 gc5 gf0 gf1 gf2 gf3 gf4 gf5 hb0 hb1
      generalize hww:World.setCell w9 _ _=w10 at HG9 HT9 ⊢
      clear hww
      obtain ⟨hz9,hs9,ho9,hb9⟩:=HT9.out
      have hg9:=HG9.out
      clear HG9 HT9
      obtain ⟨F,hFe,hF,hRet⟩:=HEND.out _ x.bef x.hgt x.view a5 n5 c5 x.root 0 x.acts g2 c2 S hg9 hz9 ⟨_,HG2W.out.2,ho9⟩ HWX.out HXL.out hs9 HG2W.out.1 HSL.out hb9
      have HF:=Lib.hid hF
      have HRET:=Lib.hid hRet
      have HFE:=Lib.hid hFe
      obtain ⟨zc0,zc1,zc2,zc3,zc4,zc5,zf0,zf1,zf2,zf3,zf4,zf5⟩:=hz9
      obtain ⟨gc0,gc1,gc2,gc3,gc4,gc5,gf0,gf1,gf2,gf3,gf4,gf5⟩:=hg9
      clear hF hRet hFe hs9 ho9 hb9 HEND HSTK HST
      go_wp2_with fail
      rw [← HFE.out]
      exact bodyPost_ret (results_blkB Tryz.results51 _ (by rfl) HF.out (.slice (some ⟨g2,0,none⟩) S.length c2) (by rfl)) rfl HRET.out
  · go_wp2_with fail
    refine (l20Store_any R _ 3 _ HR8.out (by omega) (by omega) (by omega)).mono ?_;rintro e w9 ⟨v9,S9,rfl,ho9',hw9,hl9,hr9,hu9⟩
    obtain ⟨g9,c9,rfl,hg9',hs9⟩:=rowE_of_own ho9' (by omega) hw9
    have HU9:=Lib.hid (HU8.out.trans hu9)
    have HL9:=Lib.hid hl9
    have hgn:g9≠w.heap.size:=by have h1:=HG2W.out.2;have h2:=HU8.out.size;have h3:=HGG.out;have h4:=HGZ.out;omega
    have HGN:=Lib.hid hgn
    obtain ⟨hz9,hg9,-,ho9,hb9⟩:=HSTK.out w9 HU9.out
    clear ho9' hw9 hl9 hr9 hu9 hgn hg9'
    obtain ⟨F,hFe,hF,hRet⟩:=HEND.out _ x.bef x.hgt x.view a5 n5 c5 x.root x.effs x.acts g9 c9 S9 hg9 hz9 ⟨_,HG2W.out.2,ho9⟩ HWX.out HXL.out hs9 HGN.out HL9.out hb9
    have HF:=Lib.hid hF
    have HRET:=Lib.hid hRet
    have HFE:=Lib.hid hFe
    obtain ⟨zc0,zc1,zc2,zc3,zc4,zc5,zf0,zf1,zf2,zf3,zf4,zf5⟩:=hz9
    obtain ⟨gc0,gc1,gc2,gc3,gc4,gc5,gf0,gf1,gf2,gf3,gf4,gf5⟩:=hg9
    clear hF hRet hFe hs9 ho9 hb9 HEND HSTK HST
    go_wp2_with fail
    rw [← HFE.out]
    exact bodyPost_ret (results_blkB Tryz.results51 _ (by rfl) HF.out (.slice (some ⟨g9,0,none⟩) S9.length c9) (by rfl)) rfl HRET.out
  · go_wp2_with fail
    refine (l20Actions_any R _ 3 _ HR8.out (by omega) (by omega) (by omega)).mono ?_;rintro e w9 ⟨v9,M9,rfl,ho9',hw9,hl9,hr9,hu9⟩
    obtain ⟨g9,c9,rfl,hg9',-⟩:=ho9'.slice
    have HU9:=Lib.hid (HU8.out.trans hu9)
    have HL9:=Lib.hid hl9
    have HW9:=Lib.hid hw9
    obtain ⟨-,hg8,-,-,-⟩:=HSTK.out w9 HU9.out
    have HG9:=Lib.hid (hg8.put3 (.slice (some ⟨g9,0,none⟩) M9.length c9))
    have HT9:=Lib.hid (HST.out w9 HU9.out 3 (.slice (some ⟨g9,0,none⟩) M9.length c9))
    have hsz8:=HU8.out.size
    have HO9:Hid ((w9.setCell ⟨G,3,none⟩ (.slice (some ⟨g9,0,none⟩) M9.length c9)).ownsRow w8.heap.size 141 4 (.slice (some ⟨g9,0,none⟩) M9.length c9) M9.length (flatA M9)):=Lib.hid (owns_set ho9'.1 (by have:=HGG.out;simp [Value.ownBlock];omega) 3 _)
    have HB8:Hid (w.heap.size < w8.heap.size):=Lib.hid (by have:=HGG.out;have:=HGZ.out;omega)
    obtain ⟨gc0,gc1,gc2,gc3,gc4,gc5,gf0,gf1,gf2,gf3,gf4,gf5⟩:=hg8
    clear ho9' hw9 hl9 hr9 hu9 hsz8 hg9'
    go_upto_region 13 with (fail)
    clear gc0 gc1 gc2 gc3 gc4 gc5 gf0 gf1 gf2 gf3 gf4 gf5
    generalize hww:World.setCell w9 _ _=w10 at HG9 HT9 HO9 ⊢
    clear hww
    obtain ⟨hz9,hs9,-,hb9⟩:=HT9.out
    have hg9:=HG9.out
    have ho9:=HO9.out
    clear HG9 HT9 HO9
    obtain ⟨F,hFe,hF,hRet⟩:=HEND.out _ x.bef x.hgt x.view (some ⟨g9,0,none⟩) M9.length c9 x.root x.effs M9 g2 c2 S hg9 hz9 ⟨_,HB8.out,ho9⟩ HW9.out HL9.out hs9 HG2W.out.1 HSL.out hb9
    have HF:=Lib.hid hF
    have HRET:=Lib.hid hRet
    have HFE:=Lib.hid hFe
    obtain ⟨zc0,zc1,zc2,zc3,zc4,zc5,zf0,zf1,zf2,zf3,zf4,zf5⟩:=hz9
    obtain ⟨gc0,gc1,gc2,gc3,gc4,gc5,gf0,gf1,gf2,gf3,gf4,gf5⟩:=hg9
    clear hF hRet hFe hs9 ho9 hb9 HEND HSTK HST
    go_wp2_with fail
    rw [← HFE.out]
    exact bodyPost_ret (results_blkB Tryz.results51 _ (by rfl) HF.out (.slice (some ⟨g2,0,none⟩) S.length c2) (by rfl)) rfl HRET.out
end Go.Proofs.YtnojhgckinibgabGreat
