/- The contracts of the program's serial runs: slices.Clone at entries,RunSerial. -/
import Derived.Test.YtpnjgmgmakmgeaaGreatSpecXb
import Derived.Test.YtpnjgmgmakmgeaaGreatSix

import Derived.Test.YtpnjgmgmakmgeaaGreatFive
import Derived.Lib.BufferMore
namespace Go.Proofs.YtpnjgmgmakmgeaaGreat
open Go.RowKit
set_option linter.unusedVariables false
theorem serL_get (L:List Acn):∀ (S:List Ent) (k:Nat),k < L.length→(serL S L).2.getD k noEff=runM (serL S (L.take k)).1 (L.getD k noA):=by
 induction L with
 | nil=>intro S k h;simp at h
 | cons a r ih =>
  intro S k h
  cases k with
  | zero=>rfl
  | succ k =>
   have:=ih (applyM S (runM S a).wrs) k (by simpa using h)
   simpa [serL] using this
def FillSF (w:World) (B g m:Nat) (eX eE:TypeId) (v:Value) (T:List Ent) (E:List Eff) (k:Nat):Prop :=
 w.ownsRow B eE 2 v T.length (flatE T)∧WfE T∧∃ xs,Own2 w B w.heap.size eX 3 (.slice (some ⟨g,0,none⟩) m m) m ((fillO E k).flatMap (oeC eE)) xs∧∀ x∈(.slice (some ⟨g,0,none⟩) m m :: xs),∀ p,v.ownBlock=some p→blk x≠some p
theorem FillSF.round {w w':World} {B g m k:Nat} {eX eE:TypeId} {v:Value} {T:List Ent} {E:List Eff} (h:FillF w B g m eX eE E k) (ho:w'.ownsRow w.heap.size eE 2 v T.length (flatE T)) (hw:WfE T) (hb:Below w.heap.size w w') (hB:B≤w.heap.size):FillSF w' B g m eX eE v T E k:=by
 obtain ⟨xs,h1⟩:=h
 refine ⟨owns_mono ho hB,hw,xs,(h1.below hb).mono (Nat.le_refl _) hb.size,fun x hx p hp hq=>?_⟩
 have h2:=(h1.blk_lt x hx p hq).2.1
 have h3:=(ho.lt p hp).1
 omega
theorem FillSF.all {w:World} {B g m:Nat} {eX eE:TypeId} {v:Value} {T:List Ent} {E:List Eff} (h:FillSF w B g m eX eE v T E m) (hm:E.length=m) (hl:m≤4000000):OwnSF w B w.heap.size eX eE v (.slice (some ⟨g,0,none⟩) m m) T E:=by
 subst hm
 obtain ⟨h1,h2,xs,h3,h4⟩:=h
 rw [fillO_all,oeC_all] at h3
 exact ⟨h1,h2,fun p hp=>(h1.lt p hp).2,hl,xs,h3,h4⟩
theorem FillSF.row {w:World} {B g m k:Nat} {eX eE:TypeId} {v:Value} {T:List Ent} {E:List Eff} (h:FillSF w B g m eX eE v T E k) (hl:T.length≤4000000):∃ a c,v = .slice a T.length c∧RowE w a T.length T∧(∀ b o,a=some ⟨b,o,none⟩→b≠g):=by
 obtain ⟨h1,h2,xs,h3,h4⟩:=h
 obtain ⟨a,c,e,r,z⟩:=rowE_of_owns h1 hl h2
 subst e
 refine ⟨a,c,rfl,r,fun b o he hg=>?_⟩
 subst he
 exact h4 _ List.mem_cons_self b rfl (by rw [← hg];rfl)
theorem grown_set3 (w:World) (g o1 o2 o3:Nat) (p q r:Value):w.grownBy (((w.setCell ⟨g,o1,none⟩ p).setCell ⟨g,o2,none⟩ q).setCell ⟨g,o3,none⟩ r) (some g) :=
 grownBy_trans (grownBy_trans (grownBy_set w g o1 p) (grownBy_set _ g o2 q)) (grownBy_set _ g o3 r)
theorem cells_set3 {w:World} {g o:Nat} {a b c:Value} {p q r:Value} (h1:w.cell? ⟨g,o,none⟩=some a) (h2:w.cell? ⟨g,o+1,none⟩=some b) (h3:w.cell? ⟨g,o+2,none⟩=some c) :
  (((w.setCell ⟨g,o,none⟩ p).setCell ⟨g,o+1,none⟩ q).setCell ⟨g,o+2,none⟩ r).cell? ⟨g,o,none⟩=some p ∧
  (((w.setCell ⟨g,o,none⟩ p).setCell ⟨g,o+1,none⟩ q).setCell ⟨g,o+2,none⟩ r).cell? ⟨g,o+1,none⟩=some q ∧
  (((w.setCell ⟨g,o,none⟩ p).setCell ⟨g,o+1,none⟩ q).setCell ⟨g,o+2,none⟩ r).cell? ⟨g,o+2,none⟩=some r:=by
 have n1:(⟨g,o,none⟩:Addr)≠⟨g,o+1,none⟩:=by simp
 have n2:(⟨g,o,none⟩:Addr)≠⟨g,o+2,none⟩:=by simp
 have n3:(⟨g,o+1,none⟩:Addr)≠⟨g,o+2,none⟩:=by simp
 refine ⟨?_,?_,?_⟩
 · rw [World.cell?_setCell_other _ _ _ _ n2.symm,World.cell?_setCell_other _ _ _ _ n1.symm]
   exact World.cell?_setCell_same _ _ _ h1
 · rw [World.cell?_setCell_other _ _ _ _ n3.symm]
   exact World.cell?_setCell_same _ _ _ ((World.cell?_setCell_other _ _ _ _ n1).trans h2)
 · exact World.cell?_setCell_same _ _ _ ((World.cell?_setCell_other _ _ _ _ n3).trans ((World.cell?_setCell_other _ _ _ _ n2).trans h3))
def Copy (w:World) (l:List Ent) (e:Ending) (w':World):Prop:=∃ v,e = .returned v∧w'.ownsRow w.heap.size 142 2 v l.length (flatE l)∧Below w.heap.size w w'
set_option maxRecDepth 100000 in
set_option maxHeartbeats 1000000 in
theorem clone_any (a:Option Addr) (n cap:Nat) (S:List Ent) (w:World) (h:RowE w a n S) (hz:a=none→cap=0) (hn:n≤3000000) :
  Calls Tryz.prog 164 #[.slice a n cap] w (Copy w S):=by
 have hl:=h.1
 cases a with
 | none =>
  have h0:n=0:=by
   rcases Nat.eq_zero_or_pos n with e | e
   · exact e
   · obtain ⟨b,o,he,-⟩:=h.2.2.1 e;cases he
  obtain rfl:cap=0:=hz rfl
  subst h0
  obtain rfl:S=[]:=List.eq_nil_of_length_eq_zero hl
  clear h hz hl
  have hnil:∀ W,(binOp .eql 23 (.slice none 0 0) (.slice none 0 0)).run Tryz.prog W = .ok (.bool true) W:=fun W=>Lib.run_eql_slice_nil_nil W 0 0 Tryz.underlying23
  go_enter Tryz.func164,Tryz.ntmps164
  go_wp2
  go_ret
  exact ⟨_,rfl,World.ownsRow_nil _ _ _ _,Below.refl _ _⟩
 | some p =>
  have ho:=own_lit (w:=w) (B:=w.heap.size) 142 2 #[] 0 (Nat.le_refl _) (by unfold maxLen;omega) rfl
  have hb3:=(Below.refl w.heap.size w).alloc (Nat.le_refl _) (.cells #[] 142)
  have HR3:=Lib.hid (h.below hb3)
  have HNL:Hid ((some p:Option Addr)=none→n=0∧cap=0):=Lib.hid (fun e=>by cases e)
  have HLN:=Lib.hid (show (flatE S).length=n*2 by rw [flatE_len,hl])
  have HL:=Lib.hid hl
  clear h hz hl
  have hnil:∀ W,(binOp .eql 23 (.slice (some p) n cap) (.slice none 0 0)).run Tryz.prog W = .ok (.bool false) W:=fun W=>Lib.run_eql_slice_some_nil W p n cap Tryz.underlying23
  go_enter Tryz.func164,Tryz.ntmps164
  go_wp2_with (first | (at_builtin;refine wpList_append_rows rfl _ _ 23 rfl w.heap.size 142 (.agg #[.int .i64 0,.int .i64 0]) 2 16 Tryz.underlying23 infoEntF rfl (by decide) _ 0 [] (flatE S) (by rfl) ho (some p) n cap (by rfl) HNL.out HLN.out HR3.out.news (flatE_oneCell S) (by omega) (by decide) (by simp) ?_;intro v5 w5 ho5 hg5;have hb5:=hb3.grown hg5 (by simp) (fun q hq=>(ho.1.lt q hq).1)))
  rw [Nat.zero_add,List.nil_append] at ho5
  have HO:=Lib.hid ho5.1
  have HB:=Lib.hid hb5
  clear ho ho5 hg5 hb5 hb3
  go_ret
  exact ⟨_,rfl,by rw [HL.out];exact HO.out,HB.out⟩
set_option maxHeartbeats 4000000 in
theorem runSerial_impl (a:Option Addr) (n cap:Nat) (S:List Ent) (b:Option Addr) (m c2:Nat) (L:List Acn) (w:World) (h:RowE w a n S) (hz:a=none→cap=0) (h2:RowA w b m L) :
  Calls Tryz.prog 184 #[.slice a n cap,.slice b m c2] w (NewSF w 178 142 (serM S L).1 (serM S L).2):=by
 have HS:=Lib.hid h
 have HAW:=Lib.hid h2
 have HZ:=Lib.hid hz
 clear h h2 hz
 have HNO:Hid ((storeB S && actsB L)=false→serM S L=([],[])):=Lib.hid serM_no
 have HNIL:Hid (∀ w5,Below w.heap.size w w5→OwnSF w5 w.heap.size w5.heap.size 178 142 (.slice none 0 0) (.slice none 0 0) [] []):=Lib.hid (fun w5 hb =>
  ⟨World.ownsRow_nil _ _ _ _,fun e he=>(by cases he),fun p hp=>(by cases hp),by simp,[],own2_nil _ _ _ _ _,fun y hy p hp hq=>by cases hp⟩)
 go_enter Tryz.func184,Tryz.ntmps184
 go_wp2_with fail
 refine (storeValid_impl a n cap S _ HS.out).mono ?_;rintro e w1 ⟨rfl,hb1⟩
 have HA1:=Lib.hid (HAW.out.below hb1)
 cases hS:storeB S with
 | false =>
  have HE:=Lib.hid (HNO.out (by rw [hS];rfl))
  clear hS HNO
  go_wp2
  go_ret2
  exact ⟨.slice none 0 0,.slice none 0 0,rfl,by rw [HE.out];exact HNIL.out _ hb1,hb1⟩
 | true =>
  have HSB:=Lib.hid hS
  clear hS
  go_wp2_with fail
  refine (actionsValid_impl b m c2 L _ HA1.out).mono ?_;rintro e w2 ⟨rfl,hb2'⟩
  have hb2:=hb1.trans (hb2'.mono hb1.size)
  clear HA1 hb1 hb2'
  cases hA:actsB L with
  | false =>
   have HE:=Lib.hid (HNO.out (by rw [HSB.out,hA];rfl))
   clear hA HNO
   go_wp2
   go_ret2
   exact ⟨.slice none 0 0,.slice none 0 0,rfl,by rw [HE.out];exact HNIL.out _ hb2,hb2⟩
  | true =>
   have HSY:=Lib.hid (serM_yes HSB.out hA)
   have hm10:=(actsB_true hA).1
   have hLm:=HAW.out.1
   have hS32:=store_len HSB.out
   have hSl:=HS.out.1
   clear hA HNO HNIL
   go_wp2_with fail
   have hn3:n≤3000000:=by omega
   refine (clone_any a n cap S _ (HS.out.below hb2) HZ.out hn3).mono ?_;rintro e w3 ⟨v3,rfl,ho3,hb3'⟩
   have hb3:=hb2.trans (hb3'.mono hb2.size)
   have hs2:=hb2.size
   have hs3:=hb3'.size
   have ho3w:=owns_mono ho3 hs2
   have hv3:=fun p hp=>(ho3.lt p hp).2
   obtain ⟨a3,c3,rfl,-,-⟩:=rowE_of_owns ho3 (by omega) HS.out.2.2.2
   obtain ⟨E,hE⟩:∃ E,E=(serL S L).2:=⟨_,rfl⟩
   have hEl:E.length=m:=by rw [hE,serL_len,hLm]
   have HEL:=Lib.hid hEl
   have hEn:Hid (∀ k,k < m→E.getD k noEff=runM (serL S (L.take k)).1 (L.getD k noA)):=Lib.hid (fun k hk=>by rw [hE];exact serL_get L S k (by omega))
   have HE:=Lib.hid hE
   have HWS:=Lib.hid HS.out.2.2.2
   have hm10':m≤10:=by omega
   obtain ⟨i0,hi,hz0,hz1,hz2⟩:=info_parts infoEffS
   clear hb2 hb3' ho3 hE hEl
   go_wp2_with (first | (at_make;refine wpList_make_full _ rfl (.tmp 21) (.tmp 21) 152 rfl w3.heap.size 178 i0 (.agg #[.bool false,.slice none 0 0,.slice none 0 0]) 3 Tryz.underlying152 hi hz0 hz1 .i64 .i64 m m m rfl rfl rfl rfl (by rw [hz2];omega) (by unfold maxLen;omega) (Nat.le_refl _) ?_;intro w4 hown hgrow;clear hi hz0 hz1 hz2))
   have hb4':Below w3.heap.size w3 w4:=(Below.refl _ _).grown hgrow (Nat.le_refl _) (fun k hk=>by simp at hk)
   have hb4:=hb3.trans (hb4'.mono hb3.size)
   have hg4:w3.heap.size < w4.heap.size:=(hown.lt w3.heap.size rfl).2
   have ho4:=own2_made3 (T:=w4.heap.size) (.bool false) (.slice none 0 0) (.slice none 0 0) (.bool false) (.ents 142 []) (.ents 142 []) (oeC 142) none rfl hown (fun b hb=>by simp [blk] at hb;omega) rfl (ents_nil _ _) (ents_nil _ _) rfl rfl rfl (oeC_len _)
   have hF0:FillSF w4 w.heap.size w3.heap.size m 178 142 (.slice a3 S.length c3) (serL S (L.take 0)).1 E 0:=by
    refine ⟨owns_below ho3w hb4',HWS.out,_,(show Own2 w4 w3.heap.size w4.heap.size 178 3 (.slice (some ⟨w3.heap.size,0,none⟩) m m) m ((fillO E 0).flatMap (oeC 142)) _ by rw [fillO_zero,HEL.out];exact ho4).mono hb3.size (Nat.le_refl _),fun x hx p hp hq=>?_⟩
    have h1:=(ho4.blk_lt x hx p hq).1
    have h2:=hv3 p hp
    omega
   obtain ⟨g,hg⟩:∃ g,g=w3.heap.size:=⟨_,rfl⟩
   rw [← hg] at hF0 hg4 hs3 ⊢
   rw [hSl] at hF0
   clear hown hgrow ho4 hb4' hb3 ho3w hv3 hg hS32 hs3 hg4 hn3
   go_loopw [6,25] (fun v i wr=>∃ k:Nat,k≤m∧i = .int .i64 k∧FillSF wr w.heap.size g m 178 142 v (serL S (L.take k)).1 E k∧Below w.heap.size w wr) (fun _ i _=>m - (intOf i).toNat)
   case atStart=>exact ⟨0,Nat.zero_le _,rfl,hF0,hb4⟩
   case round =>
    clear hF0 hb4
    obtain ⟨k,hk,rfl,hSF,hb⟩:=hrel
    have hTB:=store_ser (L.take k) HSB.out
    have hT32:=store_len hTB
    by_cases hlt:k < m
    · have HNX:=Lib.hid (serL_next S L k (by omega))
      have hX0:=hEn.out k hlt
      obtain ⟨b',off,rfl,hcc⟩:=HAW.out.2.2.1 (by omega)
      obtain ⟨c1,c2',c3',c4⟩:=hcc k hlt
      have hbB:b' < w.heap.size:=World.block_lt_of_cell? w ⟨b',off+k*4,none⟩ c1
      have d1:=(hb.cell (p:=⟨b',off+k*4,none⟩) hbB).trans c1
      have d2:=(hb.cell (p:=⟨b',off+k*4+1,none⟩) hbB).trans c2'
      have d3:=(hb.cell (p:=⟨b',off+k*4+2,none⟩) hbB).trans c3'
      have d4:=(hb.cell (p:=⟨b',off+k*4+3,none⟩) hbB).trans c4
      obtain ⟨T,hT⟩:∃ T,T=(serL S (L.take k)).1:=⟨_,rfl⟩
      rw [← hT] at hSF HNX hT32 hX0
      obtain ⟨p,q,r,t,hx⟩:∃ p q r t,L.getD k noA=⟨p,q,r,t⟩:=⟨_,_,_,_,rfl⟩
      rw [hx] at d1 d2 d3 d4 HNX hX0
      simp only at d1 d2 d3 d4
      obtain ⟨av,cv,rfl,hrv,hvg⟩:=hSF.row (by omega)
      obtain ⟨-,-,xs,hO,-⟩:=hSF
      have hba:=(Below.refl wr.heap.size wr).alloc (Nat.le_refl _) (.cells #[.int .i64 p,.int .i64 q,.int .i64 r,.int .i64 t] 113)
      have hra:=hrv.below hba
      have hOa:=hO.below hba
      have hgw:g < wr.heap.size:=(hO.blk_lt _ List.mem_cons_self g rfl).2.2
      have hbwa:=hb.alloc hb.size (.cells #[.int .i64 p,.int .i64 q,.int .i64 r,.int .i64 t] 113)
      clear hcc c1 c2' c3' c4 hT hx hTB hrv hO hba hb
      go_wp2_with fail
      refine (runAction_impl _ _ cv T p q r t _ hra).mono ?_;rintro e w2 ⟨v2,rfl,hF2,hb2⟩
      have hXr:=runM_rlen T ⟨p,q,r,t⟩
      have hXw:=runM_wlen T ⟨p,q,r,t⟩
      obtain ⟨X,hX⟩:∃ X,X=runM T ⟨p,q,r,t⟩:=⟨_,rfl⟩
      rw [← hX] at hF2 hXr hXw HNX hX0
      clear hX
      obtain ⟨ax,cx,bx,dx,rfl,hf2,-,hwb,-⟩:=hF2.rows (by omega) (by omega)
      have hkE:k < E.length:=by rw [HEL.out];exact hlt
      have hO2:=hOa.below hb2
      have hs2:=hb2.size
      have hsa:(wr.alloc (.cells #[.int .i64 p,.int .i64 q,.int .i64 r,.int .i64 t] 113)).heap.size=wr.heap.size+1:=by simp
      have hgB:w.heap.size≤g:=(hO2.blk_lt _ List.mem_cons_self g rfl).1
      have hBr:w.heap.size≤wr.heap.size:=by omega
      obtain ⟨q0,⟨q1,q1'⟩,⟨q2,q2'⟩,q3,q4,q5⟩:=FillF.next hO2 hkE
      have hst:=FillF.store hO2 hkE (.slice ax X.rds.length cx) (.slice bx X.wrs.length dx) (by rw [hX0];exact hF2.mono (by omega)) (by rw [hX0];omega) (by rw [hX0];omega) hBr (by omega)
      rw [hX0] at hst
      have hce:=cells_set3 (p:=.bool X.done) (q:=.slice ax X.rds.length cx) (r:=.slice bx X.wrs.length dx) q0 q1' q2'
      have hgr:=grown_set3 w2 g (k*3) (k*3+1) (k*3+2) (.bool X.done) (.slice ax X.rds.length cx) (.slice bx X.wrs.length dx)
      have HW:Hid (∀ W,W=(((w2.setCell ⟨g,k*3,none⟩ (.bool X.done)).setCell ⟨g,k*3+1,none⟩ (.slice ax X.rds.length cx)).setCell ⟨g,k*3+2,none⟩ (.slice bx X.wrs.length dx)) →
        FillF W w.heap.size g m 178 142 E (k+1)∧(W.cell? ⟨g,k*3,none⟩=some (.bool X.done)∧W.cell? ⟨g,k*3+1,none⟩=some (.slice ax X.rds.length cx)∧W.cell? ⟨g,k*3+2,none⟩=some (.slice bx X.wrs.length dx))∧w2.grownBy W (some g)) :=
       Lib.hid (fun W e=>by subst e;exact ⟨hst,hce,hgr⟩)
      have hra2:=hra.below hb2
      have hbw2:=hbwa.trans (hb2.mono hbwa.size)
      have HRA:=Lib.hid hra2
      have HF2:=Lib.hid hf2.2
      have HWB:=Lib.hid (show ∀ b o,bx=some ⟨b,o,none⟩→b≠g from fun b o he hq=>by
       subst he
       have h1:=(hwb.lt b rfl).1
       omega)
      clear hra hOa hbwa hF2 hf2 hwb hO2 hst hce hgr hra2 hkE d1 d2 d3 d4 hX0 hb2
      go_upto_region 9 with (fail)
      generalize hw3:World.setCell _ _ _=w3
      obtain ⟨hst3,⟨e0,e1,e2⟩,hgr3⟩:=HW.out w3 hw3.symm
      have hs3:=hgr3.size
      have hrv3:=rowE_apart HRA.out hgr3 (fun _ b o he hq=>hvg b o he (by simpa using hq))
      have hwr3:=rowE_apart HF2.out hgr3 (fun _ b o he hq=>HWB.out b o he (by simpa using hq))
      have hbw3:=hbw2.grown hgr3 hbw2.size (fun p hp=>by simp at hp;omega)
      clear hw3 HW HRA HF2 HWB hgr3 hbw2 q0 q1' q2' q3 q4 q5
      go_wp2_with fail
      refine (applyEffect_impl _ _ cv T _ _ _ _ _ _ _ X.wrs _ hrv3 hwr3).mono ?_;rintro e w5 ⟨v5,rfl,ho5,hw5,hb5⟩
      have HSF:=Lib.hid (FillSF.round hst3 ho5 hw5 hb5 hbw3.size)
      have HB:=Lib.hid (hbw3.trans (hb5.mono hbw3.size))
      clear hrv3 hwr3 hst3 ho5 hw5 hb5 hbw3 e0 e1 e2
      go_wp2
      go_roundw
      case rel=>exact ⟨k+1,by omega,by go_num,by rw [HNX.out];exact HSF.out,HB.out⟩
      case measure=>simp [intOf];omega
    · obtain rfl:k=m:=by omega
      have e:L.take k=L:=List.take_of_length_le (by omega)
      rw [e] at hSF
      have HSF:=Lib.hid (hSF.all HEL.out (by omega))
      clear e hSF hT32 hTB
      go_wp2
      go_ret2
      exact ⟨u6,.slice (some ⟨g,0,none⟩) k k,rfl,by rw [HSY.out,← HE.out];exact HSF.out,hb⟩
end Go.Proofs.YtpnjgmgmakmgeaaGreat
