/- Texts of ours that stand together: Clone, SxAt, Copied, Copied2 -/
import Derived.Test.YtaaffpolmecicabGreatSpecE0
import Derived.Lib.BufferMore
import Derived.Test.YtaaffpolmecicabGreatEngM
import Derived.Test.YtaaffpolmecicabGreatOwnG
import Derived.Test.YtaaffpolmecicabGreatSpecX
import Derived.Deep.RegionHeld3
import Derived.Deep.MidRow
/- The contracts of slices.Clone at entries and actions (gen11/engof.py). -/
namespace Go.Proofs.YtaaffpolmecicabGreat
open Go.RowKit
set_option linter.unusedVariables false
def CopyR (w:World) (e0:TypeId) (size n:Nat) (cs:List Value) (e:Ending) (w':World):Prop:=∃ v,e = .returned v∧w'.ownsRow w.heap.size e0 size v n cs∧Below w.heap.size w w'
set_option maxRecDepth 100000 in
set_option maxHeartbeats 1000000 in
theorem cloneE_any (a:Option Addr) (n cap:Nat) (S:List Ent) (w:World) (h:RowE w a n S) (hz:a=none→cap=0) (hn:n≤3000000) :
  Calls Tryz.prog 65 #[.slice a n cap] w (CopyR w 43 2 n (flatE S)):=by
 have hl:=h.1
 cases a with
 | none =>
  have h0:n=0:=by
   rcases Nat.eq_zero_or_pos n with e | e
   · exact e
   · obtain ⟨b,o,he,-⟩:=h.2.2.1 e;cases he
  obtain rfl:cap=0:=hz rfl
  subst h0
  obtain rfl:S=[]:=List.eq_nil_of_length_eq_zero hl
  clear h hz hl
  have hnil:∀ W,(binOp .eql 23 (.slice none 0 0) (.slice none 0 0)).run Tryz.prog W = .ok (.bool true) W:=fun W=>Lib.run_eql_slice_nil_nil W 0 0 Tryz.underlying23
  go_enter Tryz.func65,Tryz.ntmps65
  go_wp2
  go_ret
  exact ⟨_,rfl,World.ownsRow_nil _ _ _ _,Below.refl _ _⟩
 | some p =>
  have ho:=own_lit (w:=w) (B:=w.heap.size) 43 2 #[] 0 (Nat.le_refl _) (by unfold maxLen;omega) rfl
  have hb3:=(Below.refl w.heap.size w).alloc (Nat.le_refl _) (.cells #[] 43)
  have HR3:=Lib.hid (h.below hb3)
  have HNL:Hid ((some p:Option Addr)=none→n=0∧cap=0):=Lib.hid (fun e=>by cases e)
  have HLN:=Lib.hid (show (flatE S).length=n*2 by rw [flatE_len,hl])
  have HL:=Lib.hid hl
  clear h hz hl
  have hnil:∀ W,(binOp .eql 23 (.slice (some p) n cap) (.slice none 0 0)).run Tryz.prog W = .ok (.bool false) W:=fun W=>Lib.run_eql_slice_some_nil W p n cap Tryz.underlying23
  go_enter Tryz.func65,Tryz.ntmps65
  go_wp2_with (first | (at_builtin;refine wpList_append_rows rfl _ _ 23 rfl w.heap.size 43 (.agg #[.int .i64 0,.int .i64 0]) 2 16 Tryz.underlying23 infoEnt rfl (by decide) _ 0 [] (flatE S) (by rfl) ho (some p) n cap (by rfl) HNL.out HLN.out HR3.out.news (flatE_oneCell S) (by omega) (by decide) (by simp) ?_;intro v5 w5 ho5 hg5;have hb5:=hb3.grown hg5 (by simp) (fun q hq=>(ho.1.lt q hq).1)))
  rw [Nat.zero_add,List.nil_append] at ho5
  have HO:=Lib.hid ho5.1
  have HB:=Lib.hid hb5
  clear ho ho5 hg5 hb5 hb3
  go_ret
  exact ⟨_,rfl,HO.out,HB.out⟩
set_option maxRecDepth 100000 in
set_option maxHeartbeats 1000000 in
theorem cloneA_any (a:Option Addr) (n cap:Nat) (S:List Acn) (w:World) (h:RowA w a n S) (hz:a=none→cap=0) (hn:n≤3000000) :
  Calls Tryz.prog 103 #[.slice a n cap] w (CopyR w 87 4 n (flatA S)):=by
 have hl:=h.1
 cases a with
 | none =>
  have h0:n=0:=by
   rcases Nat.eq_zero_or_pos n with e | e
   · exact e
   · obtain ⟨b,o,he,-⟩:=h.2.2.1 e;cases he
  obtain rfl:cap=0:=hz rfl
  subst h0
  obtain rfl:S=[]:=List.eq_nil_of_length_eq_zero hl
  clear h hz hl
  have hnil:∀ W,(binOp .eql 24 (.slice none 0 0) (.slice none 0 0)).run Tryz.prog W = .ok (.bool true) W:=fun W=>Lib.run_eql_slice_nil_nil W 0 0 Tryz.underlying24
  go_enter Tryz.func103,Tryz.ntmps103
  go_wp2
  go_ret
  exact ⟨_,rfl,World.ownsRow_nil _ _ _ _,Below.refl _ _⟩
 | some p =>
  have ho:=own_lit (w:=w) (B:=w.heap.size) 87 4 #[] 0 (Nat.le_refl _) (by unfold maxLen;omega) rfl
  have hb3:=(Below.refl w.heap.size w).alloc (Nat.le_refl _) (.cells #[] 87)
  have HR3:=Lib.hid (h.below hb3)
  have HNL:Hid ((some p:Option Addr)=none→n=0∧cap=0):=Lib.hid (fun e=>by cases e)
  have HLN:=Lib.hid (show (flatA S).length=n*4 by rw [flatA_len,hl])
  have HL:=Lib.hid hl
  clear h hz hl
  have hnil:∀ W,(binOp .eql 24 (.slice (some p) n cap) (.slice none 0 0)).run Tryz.prog W = .ok (.bool false) W:=fun W=>Lib.run_eql_slice_some_nil W p n cap Tryz.underlying24
  go_enter Tryz.func103,Tryz.ntmps103
  go_wp2_with (first | (at_builtin;refine wpList_append_rows rfl _ _ 24 rfl w.heap.size 87 (.agg #[.int .i64 0,.int .i64 0,.int .i64 0,.int .i64 0]) 4 32 Tryz.underlying24 infoActE rfl (by decide) _ 0 [] (flatA S) (by rfl) ho (some p) n cap (by rfl) HNL.out HLN.out HR3.out.news (flatA_one S) (by omega) (by decide) (by simp) ?_;intro v5 w5 ho5 hg5;have hb5:=hb3.grown hg5 (by simp) (fun q hq=>(ho.1.lt q hq).1)))
  rw [Nat.zero_add,List.nil_append] at ho5
  have HO:=Lib.hid ho5.1
  have HB:=Lib.hid hb5
  clear ho ho5 hg5 hb5 hb3
  go_ret
  exact ⟨_,rfl,HO.out,HB.out⟩
end Go.Proofs.YtaaffpolmecicabGreat
/- A block that holds a slot;a new slot. No function of the program is named here. -/
namespace Go.Proofs.YtaaffpolmecicabGreat
open Go.RowKit
set_option linter.unusedVariables false
def slV (s:Slt) (x y z:Value):Value:=.agg #[.int .i64 s.stage,.int .i64 s.tries,x,.bool s.res.done,y,z]
structure SxAt (w:World) (Z:Nat) (v0 v1 v2 v3 v4 v5:Value):Prop where
 c0:w.cell? ⟨Z,0,none⟩=some v0
 c1:w.cell? ⟨Z,1,none⟩=some v1
 c2:w.cell? ⟨Z,2,none⟩=some v2
 c3:w.cell? ⟨Z,3,none⟩=some v3
 c4:w.cell? ⟨Z,4,none⟩=some v4
 c5:w.cell? ⟨Z,5,none⟩=some v5
 f0:w.frozen? ⟨Z,0,none⟩=false
 f1:w.frozen? ⟨Z,1,none⟩=false
 f2:w.frozen? ⟨Z,2,none⟩=false
 f3:w.frozen? ⟨Z,3,none⟩=false
 f4:w.frozen? ⟨Z,4,none⟩=false
 f5:w.frozen? ⟨Z,5,none⟩=false
theorem SxAt.lt {w:World} {Z:Nat} {v0 v1 v2 v3 v4 v5:Value} (h:SxAt w Z v0 v1 v2 v3 v4 v5):Z < w.heap.size:=World.block_lt_of_cell? w ⟨Z,0,none⟩ h.c0
theorem SxAt.keep {w w':World} {Z:Nat} {v0 v1 v2 v3 v4 v5:Value} (h:SxAt w Z v0 v1 v2 v3 v4 v5) (hb:w'.heap[Z]? = w.heap[Z]?):SxAt w' Z v0 v1 v2 v3 v4 v5 :=
 ⟨(World.cell?_of_block hb).trans h.c0, (World.cell?_of_block hb).trans h.c1, (World.cell?_of_block hb).trans h.c2, (World.cell?_of_block hb).trans h.c3, (World.cell?_of_block hb).trans h.c4, (World.cell?_of_block hb).trans h.c5,
  (World.frozen?_of_block hb).trans h.f0,(World.frozen?_of_block hb).trans h.f1,(World.frozen?_of_block hb).trans h.f2,(World.frozen?_of_block hb).trans h.f3,(World.frozen?_of_block hb).trans h.f4,(World.frozen?_of_block hb).trans h.f5⟩
theorem SxAt.below {w w':World} {Z:Nat} {v0 v1 v2 v3 v4 v5:Value} (h:SxAt w Z v0 v1 v2 v3 v4 v5) (hb:Below w.heap.size w w'):SxAt w' Z v0 v1 v2 v3 v4 v5:=h.keep (hb.block Z h.lt)
theorem sxAt_new (w:World) (T:TypeId) (v0 v1 v2 v3 v4 v5:Value):SxAt (w.alloc (.cells #[v0,v1,v2,v3,v4,v5] T)) w.heap.size v0 v1 v2 v3 v4 v5:=by constructor <;> simp [go_sem]
theorem SxAt.set2 {w:World} {Z:Nat} {v0 v1 v2 v3 v4 v5:Value} (h:SxAt w Z v0 v1 v2 v3 v4 v5) (x:Value):SxAt (w.setCell ⟨Z,2,none⟩ x) Z v0 v1 x v3 v4 v5:=by
 constructor <;> simp [go_sem,h.c0,h.c1,h.c2,h.c3,h.c4,h.c5,h.f0,h.f1,h.f2,h.f3,h.f4,h.f5]
theorem SxAt.set3 {w:World} {Z:Nat} {v0 v1 v2 v3 v4 v5:Value} (h:SxAt w Z v0 v1 v2 v3 v4 v5) (x y z:Value):SxAt (((w.setCell ⟨Z,3,none⟩ x).setCell ⟨Z,4,none⟩ y).setCell ⟨Z,5,none⟩ z) Z v0 v1 v2 x y z:=by
 constructor <;> simp [go_sem,h.c0,h.c1,h.c2,h.c3,h.c4,h.c5,h.f0,h.f1,h.f2,h.f3,h.f4,h.f5]
theorem SxAt.set6 {w:World} {Z:Nat} {v0 v1 v2 v3 v4 v5:Value} (h:SxAt w Z v0 v1 v2 v3 v4 v5) (x0 x1 x2 x3 x4 x5:Value):SxAt ((((((w.setCell ⟨Z,0,none⟩ x0).setCell ⟨Z,1,none⟩ x1).setCell ⟨Z,2,none⟩ x2).setCell ⟨Z,3,none⟩ x3).setCell ⟨Z,4,none⟩ x4).setCell ⟨Z,5,none⟩ x5) Z x0 x1 x2 x3 x4 x5:=by
 constructor <;> simp [go_sem,h.c0,h.c1,h.c2,h.c3,h.c4,h.c5,h.f0,h.f1,h.f2,h.f3,h.f4,h.f5]
def NewSl (w:World) (tI tE:TypeId) (s:Slt) (e:Ending) (w':World):Prop :=
 ∃ x y z,e = .returned (slV s x y z)∧OwnR w' w.heap.size w'.heap.size (slRs tI tE s (x,y,z))∧(∀ i∈s.from_,(Lit.int .i64 i).wf=true)∧WfE s.res.rds∧WfE s.res.wrs∧Below w.heap.size w w'
end Go.Proofs.YtaaffpolmecicabGreat
/- The contracts of slices.Clone at ints,of the program's Effect.copied and Slot.copied. -/
namespace Go.Proofs.YtaaffpolmecicabGreat
open Go.RowKit
set_option linter.unusedVariables false
theorem below_cz {B G o:Nat} {w w':World} {v:Value} (hb:Below B w w') (hG:G < B) (hc:w.cell? ⟨G,o,none⟩=some v):w'.cell? ⟨G,o,none⟩=some v:=(hb.cell (p:=⟨G,o,none⟩) hG).trans hc
theorem eAt_newC (w:World) (T:TypeId):EAt (w.alloc (.cells #[.bool false,.slice none 0 0,.slice none 0 0] T)) w.heap.size false (.slice none 0 0) (.slice none 0 0):=by
 refine ⟨⟨?_,?_,?_⟩,⟨?_,?_,?_⟩,by simp⟩ <;> simp [go_sem]
theorem RowI.newsD {w:World} {a:Option Addr} {n:Nat} {l:List Int} (h:RowI w a n l):∀ ad,a=some ad→∀ j u,(l.map (Value.int .i64))[j]? = some u→w.cell? (ad.add j)=some u:=by
 intro ad he j u hu
 have hj:j < n:=by
  have:=(List.getElem?_eq_some_iff.1 hu).1
  rw [List.length_map,h.1] at this;exact this
 obtain ⟨b,off,he',hc⟩:=h.2.2.1 (by omega)
 rw [he] at he'
 cases he'
 rw [show (⟨b,off,none⟩:Addr).add j=⟨b,off+j,none⟩ by unfold Addr.add;split <;> simp_all]
 rw [hc j hj,List.getD_eq_getElem?_getD]
 rw [List.getElem?_map] at hu
 cases hl:l[j]? with
 | none=>rw [hl] at hu;cases hu
 | some y=>rw [hl] at hu;exact hu
theorem intCells_one (S:List Int):∀ u∈S.map (Value.int .i64),u.oneCell'=true:=fun u hu=>by
 obtain ⟨x,-,rfl⟩:=List.mem_map.1 hu;rfl
set_option maxRecDepth 100000 in
set_option maxHeartbeats 1000000 in
theorem cloneI_any (a:Option Addr) (n cap:Nat) (S:List Int) (w:World) (h:RowI w a n S) (hz:a=none→cap=0) (hn:n≤3000000) :
  Calls Tryz.prog 183 #[.slice a n cap] w (CopyR w 3 1 n (S.map (Value.int .i64))):=by
 have hl:=h.1
 cases a with
 | none =>
  have h0:n=0:=by
   rcases Nat.eq_zero_or_pos n with e | e
   · exact e
   · obtain ⟨b,o,he,-⟩:=h.2.2.1 e;cases he
  obtain rfl:cap=0:=hz rfl
  subst h0
  obtain rfl:S=[]:=List.eq_nil_of_length_eq_zero hl
  clear h hz hl
  have hnil:∀ W,(binOp .eql 65 (.slice none 0 0) (.slice none 0 0)).run Tryz.prog W = .ok (.bool true) W:=fun W=>Lib.run_eql_slice_nil_nil W 0 0 Tryz.underlying65
  go_enter Tryz.func183,Tryz.ntmps183
  go_wp2
  go_ret
  exact ⟨_,rfl,World.ownsRow_nil _ _ _ _,Below.refl _ _⟩
 | some p =>
  have ho:=own_lit (w:=w) (B:=w.heap.size) 3 1 #[] 0 (Nat.le_refl _) (by unfold maxLen;omega) rfl
  have hb3:=(Below.refl w.heap.size w).alloc (Nat.le_refl _) (.cells #[] 3)
  have HR3:=Lib.hid (h.below hb3)
  have HNL:Hid ((some p:Option Addr)=none→n=0∧cap=0):=Lib.hid (fun e=>by cases e)
  have HLN:=Lib.hid (show (S.map (Value.int .i64)).length=n*1 by rw [List.length_map,hl,Nat.mul_one])
  have HL:=Lib.hid hl
  clear h hz hl
  have hnil:∀ W,(binOp .eql 65 (.slice (some p) n cap) (.slice none 0 0)).run Tryz.prog W = .ok (.bool false) W:=fun W=>Lib.run_eql_slice_some_nil W p n cap Tryz.underlying65
  go_enter Tryz.func183,Tryz.ntmps183
  go_wp2_with (first | (at_builtin;refine wpList_append_rows rfl _ _ 65 rfl w.heap.size 3 (.int .i64 0) 1 8 Tryz.underlying65 infoInt rfl (by decide) _ 0 [] (S.map (Value.int .i64)) (by rfl) ho (some p) n cap (by rfl) HNL.out HLN.out HR3.out.newsD (intCells_one S) (by omega) (by decide) (by simp) ?_;intro v5 w5 ho5 hg5;have hb5:=hb3.grown hg5 (by simp) (fun q hq=>(ho.1.lt q hq).1)))
  rw [Nat.zero_add,List.nil_append] at ho5
  have HO:=Lib.hid ho5.1
  have HB:=Lib.hid hb5
  clear ho ho5 hg5 hb5 hb3
  go_ret
  exact ⟨_,rfl,HO.out,HB.out⟩
theorem fin_eff {w w0 W:World} {Z:Nat} {dn d0:Bool} {X Y:List Ent} {v u x0 y0:Value} {e0:TypeId} (hb0:Below w.heap.size w w0) (hz:EAt W Z d0 x0 y0) (hzl:Z < w0.heap.size) (hz1:w.heap.size≤Z) (hb:Below w0.heap.size w0 W) (hR:OwnR W w0.heap.size W.heap.size [⟨v,e0,2,X.length,flatE X⟩,⟨u,e0,2,Y.length,flatE Y⟩]) (hX:WfE X) (hY:WfE Y) :
  EAt (((W.setCell ⟨Z,0,none⟩ (.bool dn)).setCell ⟨Z,1,none⟩ v).setCell ⟨Z,2,none⟩ u) Z dn v u∧OwnF (((W.setCell ⟨Z,0,none⟩ (.bool dn)).setCell ⟨Z,1,none⟩ v).setCell ⟨Z,2,none⟩ u) w.heap.size e0 (.agg #[.bool dn,v,u]) ⟨dn,X,Y⟩∧Below w.heap.size w (((W.setCell ⟨Z,0,none⟩ (.bool dn)).setCell ⟨Z,1,none⟩ v).setCell ⟨Z,2,none⟩ u):=by
 have hs0:=hb0.size
 have hR2:OwnR (((W.setCell ⟨Z,0,none⟩ (.bool dn)).setCell ⟨Z,1,none⟩ v).setCell ⟨Z,2,none⟩ u) w0.heap.size W.heap.size [⟨v,e0,2,X.length,flatE X⟩,⟨u,e0,2,Y.length,flatE Y⟩] :=
  hR.turn ((((Turn.refl Z (Z+1) W).setCell (g:=Z) ⟨Nat.le_refl _,Nat.lt_succ_self _⟩ 0 (.bool dn)).setCell (g:=Z) ⟨Nat.le_refl _,Nat.lt_succ_self _⟩ 1 v).setCell (g:=Z) ⟨Nat.le_refl _,Nat.lt_succ_self _⟩ 2 u) (.inr (.inl hzl))
 have o8:=hR2.head
 have o12:=hR2.tail.head
 have hoff:=hR2.off _ List.mem_cons_self
 simp only [Off] at o8 o12 hoff
 rw [owns_blk o8,owns_blk o12] at hoff
 exact ⟨((hz.set0 dn).set1 v).set2 u,⟨v,u,rfl,owns_mono o8 hs0,owns_mono o12 hs0,hX,hY,hoff⟩,below_set3 (hb0.trans (hb.mono hs0)) hz1 _ _ _ _ _ _⟩
theorem ownR_two {w0 w1 w2:World} {r s:Rw} (hr:w1.ownsRow w0.heap.size r.e r.size r.v r.n r.cs) (hb:Below w1.heap.size w1 w2) (hs:w2.ownsRow w1.heap.size s.e s.size s.v s.n s.cs) (hsz:w0.heap.size≤w1.heap.size):OwnR w2 w0.heap.size w2.heap.size [r,s]:=by
 have h1:OwnR w1 w0.heap.size w1.heap.size [r]:=(OwnR.nil _ _ _).cons r hr (fun b hq=>by rw [owns_blk hr] at hq;exact (hr.lt b hq).2) (fun x hx=>by cases hx)
 exact ((h1.below hb).consNew s hs hsz (Nat.le_refl _) (Nat.le_refl _) hb.size).perm (List.Perm.swap _ _ _)
set_option maxRecDepth 100000 in
set_option maxHeartbeats 4000000 in
theorem effCopied_impl (dn:Bool) (vr vw:Value) (X Y:List Ent) (w:World) (h1:SliE w vr X) (h2:SliE w vw Y) (hx:X.length≤3000000) (hy:Y.length≤3000000) :
  Calls Tryz.prog 94 #[.agg #[.bool dn,vr,vw]] w (NewF w 43 ⟨dn,X,Y⟩):=by
 obtain ⟨a1,n1,c1,rfl,hr1,hz1,hc1⟩:=h1
 obtain ⟨a2,n2,c2,rfl,hr2,hz2,hc2⟩:=h2
 obtain rfl:=hr1.1
 obtain rfl:=hr2.1
 have HWX:=Lib.hid hr1.2.2.2
 have HWY:=Lib.hid hr2.2.2.2
 go_enter Tryz.func94,Tryz.ntmps94
 go_upto_region 1 with (fail)
 obtain ⟨w0,hw0⟩:∃ w0,w0=(w.alloc (.cells #[.bool dn,.slice a1 X.length c1,.slice a2 Y.length c2] 39)).alloc (.cells #[.bool false,.slice none 0 0,.slice none 0 0] 39):=⟨_,rfl⟩
 rw [← hw0]
 have hb0:Below w.heap.size w w0:=by rw [hw0];exact ((Below.refl _ _).alloc (Nat.le_refl _) _).alloc (by simp) _
 obtain ⟨g0,g1,g2⟩:w0.cell? ⟨w.heap.size,0,none⟩=some (.bool dn)∧w0.cell? ⟨w.heap.size,1,none⟩=some (.slice a1 X.length c1)∧w0.cell? ⟨w.heap.size,2,none⟩=some (.slice a2 Y.length c2):=by rw [hw0];simp [go_sem]
 have hz:EAt w0 (w.heap.size+1) false (.slice none 0 0) (.slice none 0 0):=by
  rw [hw0]
  have:=eAt_newC (w.alloc (.cells #[.bool dn,.slice a1 X.length c1,.slice a2 Y.length c2] 39)) 39
  simpa using this
 have hgl:w.heap.size < w0.heap.size:=World.block_lt_of_cell? w0 ⟨w.heap.size,0,none⟩ g0
 have HKP:=Lib.hid (fun W' (hb:Below w0.heap.size w0 W')=>(⟨below_cz hb hgl g0,below_cz hb hgl g1,below_cz hb hgl g2⟩ : _∧_∧_))
 have HZ:=Lib.hid (fun (W:World) (hb:Below w0.heap.size w0 W)=>hz.below hb)
 have HC1:=Lib.hid (fun (W:World) (hb:Below w0.heap.size w0 W)=>cloneE_any a1 X.length c1 X W ((hr1.below hb0).below hb) hz1 hx)
 have HC2:=Lib.hid (fun (W:World) (hb:Below w0.heap.size w0 W)=>cloneE_any a2 Y.length c2 Y W ((hr2.below hb0).below hb) hz2 hy)
 have HB0:=Lib.hid hb0
 have HZ0:=Lib.hid hz
 clear hr1 hr2 hz1 hz2 hc1 hc2 hw0 hb0 hz hx hy
 go_region_held3 (fun w'=>w'.cell? ⟨w.heap.size,0,none⟩=some (.bool dn)∧w'.cell? ⟨w.heap.size,1,none⟩=some (.slice a1 X.length c1)∧w'.cell? ⟨w.heap.size,2,none⟩=some (.slice a2 Y.length c2))
  (first | (with_reducible exact ⟨g0,g1,g2⟩) | (with_reducible exact hkp) | (with_reducible exact hkp2) | go_keep)
  (first
   | (go_at_call 65;(with_reducible refine (HC1.out w0.drew (Below.refl _ _).drew).mono ?_);rintro e1 w3 ⟨v3,rfl,ho3,hb3'⟩;obtain ⟨p3,q3,k3,rfl⟩:=slice_form ho3;have hb3:Below w0.heap.size w0 w3:=(Below.refl _ _).drew.trans hb3';have hkp:=HKP.out _ hb3)
   | (go_at_call 65;(with_reducible refine (HC2.out w3 hb3).mono ?_);rintro e1 w4 ⟨v4,rfl,ho4,hb4'⟩;obtain ⟨p4,q4,k4,rfl⟩:=slice_form ho4;have hb4:Below w0.heap.size w0 w4:=hb3.trans (hb4'.mono hb3.size);have hkp2:=HKP.out _ hb4;obtain ⟨⟨zz0,zz1,zz2⟩,⟨zf0,zf1,zf2⟩,-⟩:=HZ.out _ hb4))
 have hR:=ownR_two (w0:=w0) (r:=⟨.slice p3 q3 k3,43,2,X.length,flatE X⟩) (s:=⟨.slice p4 q4 k4,43,2,Y.length,flatE Y⟩) ho3 hb4' ho4 hb3.size
 have hfin:=fin_eff (dn:=dn) HB0.out (HZ.out _ hb4) HZ0.out.2.2 (Nat.le_succ _) hb4 hR HWX.out HWY.out
 have HE:=Lib.hid hfin.1
 have HF:=Lib.hid hfin.2.1
 have HB:=Lib.hid hfin.2.2
 clear hfin hR hkp hkp2 hb3 hb3' hb4 hb4' ho3 ho4 zz0 zz1 zz2 zf0 zf1 zf2
 go_wp2_with fail
 refine bodyPost_ret (results_eff Tryz.results94 _ (by rfl) HE.out) rfl ⟨_,rfl,HF.out,HB.out⟩
end Go.Proofs.YtaaffpolmecicabGreat
/- The contract of the program's Slot.copied. -/
namespace Go.Proofs.YtaaffpolmecicabGreat
open Go.RowKit
set_option linter.unusedVariables false
theorem results_slotV {fn:Func} {p:Tmp} (h:fn.results=#[.cell p 75]) (tmps:Array Value) {F:World} {Z:Nat} (hp:tmps.getD p undef = .pointer (some ⟨Z,0,none⟩)) {v0 v1 v2 v3 v4 v5:Value} (hc:SxAt F Z v0 v1 v2 v3 v4 v5):(results fn tmps).run Tryz.prog F = .ok (.agg #[v0,v1,v2,v3,v4,v5]) F:=by
 have hp':tmps[p]?.getD undef = .pointer (some ⟨Z,0,none⟩):=by simpa using hp
 obtain ⟨c0,c1,c2,c3,c4,c5,-⟩:=hc
 simp [results,h,hp',asAddr,go_sem,c0,c1,c2,c3,c4,c5]
def set6 (W:World) (Z:Nat) (x0 x1 x2 x3 x4 x5:Value):World:=(((((W.setCell ⟨Z,0,none⟩ x0).setCell ⟨Z,1,none⟩ x1).setCell ⟨Z,2,none⟩ x2).setCell ⟨Z,3,none⟩ x3).setCell ⟨Z,4,none⟩ x4).setCell ⟨Z,5,none⟩ x5
theorem set6_turn (W:World) (Z:Nat) (x0 x1 x2 x3 x4 x5:Value):Turn Z (Z+1) W (set6 W Z x0 x1 x2 x3 x4 x5) :=
 ((((((Turn.refl Z (Z+1) W).setCell (g:=Z) ⟨Nat.le_refl _,Nat.lt_succ_self _⟩ 0 x0).setCell (g:=Z) ⟨Nat.le_refl _,Nat.lt_succ_self _⟩ 1 x1).setCell (g:=Z) ⟨Nat.le_refl _,Nat.lt_succ_self _⟩ 2 x2).setCell (g:=Z) ⟨Nat.le_refl _,Nat.lt_succ_self _⟩ 3 x3).setCell (g:=Z) ⟨Nat.le_refl _,Nat.lt_succ_self _⟩ 4 x4).setCell (g:=Z) ⟨Nat.le_refl _,Nat.lt_succ_self _⟩ 5 x5
theorem set6_size (W:World) (Z:Nat) (x0 x1 x2 x3 x4 x5:Value):(set6 W Z x0 x1 x2 x3 x4 x5).heap.size=W.heap.size:=by simp [set6,World.setCell]
theorem ownR_slot {w0 w1 w2:World} {tI tE:TypeId} {s:Slt} {x y z v:Value} (hr:w1.ownsRow w0.heap.size tI 1 x s.from_.length (s.from_.map (Value.int .i64))) (hb:Below w1.heap.size w1 w2) (ho:OwnF w2 w1.heap.size tE v s.res) (hv:v = .agg #[.bool s.res.done,y,z]) (hsz:w0.heap.size≤w1.heap.size) :
  OwnR w2 w0.heap.size w2.heap.size (slRs tI tE s (x,y,z))∧WfE s.res.rds∧WfE s.res.wrs:=by
 obtain ⟨a,b,h1,h2,h3,h4,h5,h6⟩:=ho
 rw [hv] at h1
 simp only [Value.agg.injEq,Array.mk.injEq,List.cons.injEq,and_true,true_and] at h1
 obtain ⟨rfl,rfl⟩:=h1
 have hR:=ownR_two (w0:=w0) (r:=⟨x,tI,1,s.from_.length,s.from_.map (Value.int .i64)⟩) (s:=⟨y,tE,2,s.res.rds.length,flatE s.res.rds⟩) hr hb h2 hsz
 refine ⟨(hR.cons ⟨z,tE,2,s.res.wrs.length,flatE s.res.wrs⟩ (owns_mono h3 hsz) (fun q hq=>?_) (fun r hr'=>?_)).perm ?_,h4,h5⟩
 · rw [owns_blk h3] at hq;exact (h3.lt q hq).2
 · simp only [List.mem_cons,List.not_mem_nil,or_false] at hr'
   intro p hp hp'
   rw [owns_blk h3] at hp
   have:=(h3.lt p hp).1
   rcases hr' with rfl | rfl
   · simp only at hp'
     rw [owns_blk hr] at hp'
     have:=(hr.lt p hp').2
     omega
   · simp only at hp'
     rw [owns_blk h2] at hp'
     exact h6 p hp' hp
 · exact (List.Perm.swap _ _ _).trans (List.Perm.cons _ (List.Perm.swap _ _ _))
set_option maxRecDepth 100000 in
theorem cell_otherS {W:World} {G o:Nat} {x:Value} (h:W.cell? ⟨G,o,none⟩=some x) {Z:Nat} (hne:G≠Z) (k:Nat) (v:Value):(W.setCell ⟨Z,k,none⟩ v).cell? ⟨G,o,none⟩=some x:=(World.cell?_of_block (a:=⟨G,o,none⟩) (Below.heap_setCell _ _ _ _ hne)).trans h
theorem sx_keep6 {W:World} {G Z:Nat} {u0 u1 u2 u3 u4 u5:Value} (hne:G≠Z) (a b c d e f:Value) (h:W.cell? ⟨G,0,none⟩=some u0∧W.cell? ⟨G,1,none⟩=some u1∧W.cell? ⟨G,2,none⟩=some u2∧W.cell? ⟨G,3,none⟩=some u3∧W.cell? ⟨G,4,none⟩=some u4∧W.cell? ⟨G,5,none⟩=some u5) :
  ((((((W.setCell ⟨Z,0,none⟩ a).setCell ⟨Z,1,none⟩ b).setCell ⟨Z,2,none⟩ c).setCell ⟨Z,3,none⟩ d).setCell ⟨Z,4,none⟩ e).setCell ⟨Z,5,none⟩ f).cell? ⟨G,0,none⟩=some u0∧((((((W.setCell ⟨Z,0,none⟩ a).setCell ⟨Z,1,none⟩ b).setCell ⟨Z,2,none⟩ c).setCell ⟨Z,3,none⟩ d).setCell ⟨Z,4,none⟩ e).setCell ⟨Z,5,none⟩ f).cell? ⟨G,1,none⟩=some u1∧((((((W.setCell ⟨Z,0,none⟩ a).setCell ⟨Z,1,none⟩ b).setCell ⟨Z,2,none⟩ c).setCell ⟨Z,3,none⟩ d).setCell ⟨Z,4,none⟩ e).setCell ⟨Z,5,none⟩ f).cell? ⟨G,2,none⟩=some u2∧((((((W.setCell ⟨Z,0,none⟩ a).setCell ⟨Z,1,none⟩ b).setCell ⟨Z,2,none⟩ c).setCell ⟨Z,3,none⟩ d).setCell ⟨Z,4,none⟩ e).setCell ⟨Z,5,none⟩ f).cell? ⟨G,3,none⟩=some u3∧((((((W.setCell ⟨Z,0,none⟩ a).setCell ⟨Z,1,none⟩ b).setCell ⟨Z,2,none⟩ c).setCell ⟨Z,3,none⟩ d).setCell ⟨Z,4,none⟩ e).setCell ⟨Z,5,none⟩ f).cell? ⟨G,4,none⟩=some u4∧((((((W.setCell ⟨Z,0,none⟩ a).setCell ⟨Z,1,none⟩ b).setCell ⟨Z,2,none⟩ c).setCell ⟨Z,3,none⟩ d).setCell ⟨Z,4,none⟩ e).setCell ⟨Z,5,none⟩ f).cell? ⟨G,5,none⟩=some u5:=by
 have k:∀ o x,W.cell? ⟨G,o,none⟩=some x→((((((W.setCell ⟨Z,0,none⟩ a).setCell ⟨Z,1,none⟩ b).setCell ⟨Z,2,none⟩ c).setCell ⟨Z,3,none⟩ d).setCell ⟨Z,4,none⟩ e).setCell ⟨Z,5,none⟩ f).cell? ⟨G,o,none⟩=some x:=fun o x hx=>cell_otherS (cell_otherS (cell_otherS (cell_otherS (cell_otherS (cell_otherS hx hne _ _) hne _ _) hne _ _) hne _ _) hne _ _) hne _ _
 exact ⟨k _ _ h.1,k _ _ h.2.1,k _ _ h.2.2.1,k _ _ h.2.2.2.1,k _ _ h.2.2.2.2.1,k _ _ h.2.2.2.2.2⟩
theorem SxAt.there {w:World} {Z:Nat} {v0 v1 v2 v3 v4 v5:Value} (h:SxAt w Z v0 v1 v2 v3 v4 v5):w.there Z 0 6:=by
 intro j hj
 obtain ⟨c0,c1,c2,c3,c4,c5,f0,f1,f2,f3,f4,f5⟩:=h
 rw [Nat.zero_add]
 rcases (by omega:j=0∨j=1∨j=2∨j=3∨j=4∨j=5) with rfl | rfl | rfl | rfl | rfl | rfl
 · exact ⟨by rw [c0];rfl,f0⟩
 · exact ⟨by rw [c1];rfl,f1⟩
 · exact ⟨by rw [c2];rfl,f2⟩
 · exact ⟨by rw [c3];rfl,f3⟩
 · exact ⟨by rw [c4];rfl,f4⟩
 · exact ⟨by rw [c5];rfl,f5⟩
set_option maxRecDepth 100000 in
set_option maxHeartbeats 1000000 in
theorem slotCopied_impl (s:Slt) (a:Option Addr) (n c:Nat) (a1:Option Addr) (n1 c1:Nat) (a2:Option Addr) (n2 c2:Nat) (w:World) (h0:SliI w (.slice a n c) s.from_) (h1:SliE w (.slice a1 n1 c1) s.res.rds) (h2:SliE w (.slice a2 n2 c2) s.res.wrs) (hn:s.from_.length≤3000000) (hx:s.res.rds.length≤3000000) (hy:s.res.wrs.length≤3000000) :
  Calls Tryz.prog 158 #[slV s (.slice a n c) (.slice a1 n1 c1) (.slice a2 n2 c2)] w (NewSl w 3 43 s):=by
 have hwi:∀ i∈s.from_,(Lit.int .i64 i).wf=true:=by
  obtain ⟨_,_,_,-,hr,-⟩:=h0
  exact hr.2.2.2
 have HWI:=Lib.hid hwi
 unfold slV
 go_enter Tryz.func158,Tryz.ntmps158
 go_upto_region 1 with (fail)
 obtain ⟨w0,hw0⟩:∃ w0,w0=(w.alloc (.cells #[.int .i64 s.stage,.int .i64 s.tries,.slice a n c,.bool s.res.done,.slice a1 n1 c1,.slice a2 n2 c2] 75)).alloc (.cells #[.int .i64 0,.int .i64 0,.slice none 0 0,.bool false,.slice none 0 0,.slice none 0 0] 75):=⟨_,rfl⟩
 rw [← hw0]
 have hb0:Below w.heap.size w w0:=by rw [hw0];exact ((Below.refl _ _).alloc (Nat.le_refl _) _).alloc (by simp) _
 have hg:SxAt w0 w.heap.size (.int .i64 s.stage) (.int .i64 s.tries) (.slice a n c) (.bool s.res.done) (.slice a1 n1 c1) (.slice a2 n2 c2):=by
  rw [hw0];exact (sxAt_new w _ _ _ _ _ _ _).below ((Below.refl _ _).alloc (Nat.le_refl _) _)
 have hz:SxAt w0 (w.heap.size+1) (.int .i64 0) (.int .i64 0) (.slice none 0 0) (.bool false) (.slice none 0 0) (.slice none 0 0):=by
  rw [hw0]
  have:=sxAt_new (w.alloc (.cells #[.int .i64 s.stage,.int .i64 s.tries,.slice a n c,.bool s.res.done,.slice a1 n1 c1,.slice a2 n2 c2] 75)) 75 (.int .i64 0) (.int .i64 0) (.slice none 0 0) (.bool false) (.slice none 0 0) (.slice none 0 0)
  simpa using this
 have hgl:=hg.lt
 have HZL:=Lib.hid hz.lt
 have HKP:=Lib.hid (fun W' (hb:Below w0.heap.size w0 W')=>(⟨below_cz hb hgl hg.c0,below_cz hb hgl hg.c1,below_cz hb hgl hg.c2,below_cz hb hgl hg.c3,below_cz hb hgl hg.c4,below_cz hb hgl hg.c5⟩ : _∧_∧_∧_∧_∧_))
 have HZ:=Lib.hid (fun (W:World) (hb:Below w0.heap.size w0 W)=>hz.below hb)
 have HC1:Hid (∀ (W:World),Below w0.heap.size w0 W→Calls Tryz.prog 183 #[.slice a n c] W (CopyR W 3 1 s.from_.length (s.from_.map (Value.int .i64)))):=Lib.hid (fun (W:World) (hb:Below w0.heap.size w0 W)=>by
  obtain ⟨_,_,_,e1,hr,hz,-⟩:=(h0.below hb0).below hb
  simp only [Value.slice.injEq] at e1
  obtain ⟨rfl,rfl,rfl⟩:=e1
  obtain rfl:=hr.1
  exact cloneI_any _ _ _ s.from_ W hr hz hn)
 have HC2:=Lib.hid (fun (W:World) (hb:Below w0.heap.size w0 W)=>effCopied_impl s.res.done (.slice a1 n1 c1) (.slice a2 n2 c2) s.res.rds s.res.wrs W ((h1.below hb0).below hb) ((h2.below hb0).below hb) hx hy)
 have HB0:=Lib.hid hb0
 obtain ⟨g0,g1,g2,g3,g4,g5,-,-,-,-,-,-⟩:=hg
 clear h0 h1 h2 hw0 hb0 hz hx hy hn hwi
 obtain ⟨G,hG⟩:∃ G,G=w.heap.size:=⟨_,rfl⟩
 obtain ⟨Z,hZ⟩:∃ Z,Z=G+1:=⟨_,rfl⟩
 rw [← hG] at g0 g1 g2 g3 g4 g5 hgl HZL HKP HZ ⊢
 rw [← hZ] at HZL HZ ⊢
 have HG:=Lib.hid hG
 have HZE:=Lib.hid hZ
 have HNE:Hid (G≠Z):=Lib.hid (by omega)
 clear hG hZ
 go_region_held3 (fun w'=>w'.cell? ⟨G,0,none⟩=some (.int .i64 s.stage)∧w'.cell? ⟨G,1,none⟩=some (.int .i64 s.tries)∧w'.cell? ⟨G,2,none⟩=some (.slice a n c)∧w'.cell? ⟨G,3,none⟩=some (.bool s.res.done)∧w'.cell? ⟨G,4,none⟩=some (.slice a1 n1 c1)∧w'.cell? ⟨G,5,none⟩=some (.slice a2 n2 c2))
  (first | (with_reducible exact sx_keep6 HNE.out _ _ _ _ _ _ hkp2) | (with_reducible exact hkp2) | (with_reducible exact hkp) | (with_reducible exact HKP.out _ (Below.refl _ _).drew))
  (first
   | (go_at_call 183;(with_reducible refine (HC1.out w0.drew (Below.refl _ _).drew).mono ?_);rintro e1 w3 ⟨v3,rfl,ho3,hb3'⟩;obtain ⟨p3,q3,k3,rfl⟩:=slice_form ho3;have hb3:Below w0.heap.size w0 w3:=(Below.refl _ _).drew.trans hb3';have hkp:=HKP.out _ hb3)
   | (go_at_call 94;(with_reducible refine (HC2.out w3 hb3).mono ?_);rintro e1 w4 ⟨v4,rfl,ho4,hb4'⟩;obtain ⟨y4,z4,rfl,ho5,ho6,hwx,hwy,hoff⟩:=ho4;obtain ⟨p4,q4,k4,rfl⟩:=slice_form ho5;obtain ⟨p5,q5,k5,rfl⟩:=slice_form ho6;have hb4:Below w0.heap.size w0 w4:=hb3.trans (hb4'.mono hb3.size);have hkp2:=HKP.out _ hb4;obtain ⟨zz0,zz1,zz2,zz3,zz4,zz5,zf0,zf1,zf2,zf3,zf4,zf5⟩:=HZ.out _ hb4))
 have hR:=ownR_slot (w0:=w0) (tI:=3) (s:=s) (x:=.slice p3 q3 k3) (y:=.slice p4 q4 k4) (z:=.slice p5 q5 k5) ho3 hb4' ⟨_,_,rfl,ho5,ho6,hwx,hwy,hoff⟩ rfl hb3.size
 have hs4:=hb4.size
 have hs0:=HB0.out.size
 have HE:Hid (SxAt (set6 w4 Z (.int .i64 s.stage) (.int .i64 s.tries) (.slice p3 q3 k3) (.bool s.res.done) (.slice p4 q4 k4) (.slice p5 q5 k5)) _ _ _ _ _ _ _):=Lib.hid ((HZ.out _ hb4).set6 (.int .i64 s.stage) (.int .i64 s.tries) (.slice p3 q3 k3) (.bool s.res.done) (.slice p4 q4 k4) (.slice p5 q5 k5))
 have HB:Hid (Below w.heap.size w (set6 w4 Z (.int .i64 s.stage) (.int .i64 s.tries) (.slice p3 q3 k3) (.bool s.res.done) (.slice p4 q4 k4) (.slice p5 q5 k5))):=Lib.hid ((set6_turn w4 _ _ _ _ _ _ _).below (HB0.out.trans (hb4.mono hs0)) (by have:=HG.out;have:=HZE.out;omega) (by omega))
 have HO:Hid (OwnR (set6 w4 Z (.int .i64 s.stage) (.int .i64 s.tries) (.slice p3 q3 k3) (.bool s.res.done) (.slice p4 q4 k4) (.slice p5 q5 k5)) w.heap.size (set6 w4 Z (.int .i64 s.stage) (.int .i64 s.tries) (.slice p3 q3 k3) (.bool s.res.done) (.slice p4 q4 k4) (.slice p5 q5 k5)).heap.size (slRs 3 43 s (.slice p3 q3 k3,.slice p4 q4 k4,.slice p5 q5 k5))):=Lib.hid ((hR.1.turn (set6_turn w4 Z _ _ _ _ _ _) (.inr (.inl (by have:=HZL.out;omega)))).mono hs0 (by rw [set6_size];exact Nat.le_refl _))
 have HWX:=Lib.hid hwx
 have HWY:=Lib.hid hwy
 unfold set6 at HE HB HO
 clear hR hkp hkp2 hb3 hb3' hb4 hb4' ho3 ho5 ho6 hwx hwy hoff zz0 zz1 zz2 zz3 zz4 zz5 zf0 zf1 zf2 zf3 zf4 zf5
 go_wp2_with fail
 refine bodyPost_ret (results_slotV Tryz.results158 _ (by rfl) HE.out) rfl ⟨_,_,_,rfl,HO.out,HWI.out,HWX.out,HWY.out,HB.out⟩
end Go.Proofs.YtaaffpolmecicabGreat
