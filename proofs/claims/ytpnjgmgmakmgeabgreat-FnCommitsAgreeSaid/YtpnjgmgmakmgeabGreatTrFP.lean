/- Texts of ours that stand together: TrFns, PathTr -/
import Derived.Test.YtpnjgmgmakmgeabGreatImT
import Derived.Test.YtpnjgmgmakmgeabGreatSpecTr2
import Derived.Test.YtpnjgmgmakmgeabGreatCvB
/- The contracts of the program's BlockTreeValid and FindBlock,and of the model's FindBlock (gen16/lawtr.py). -/
namespace Go.Proofs.YtpnjgmgmakmgeabGreat
open Go.RowKit
set_option linter.unusedVariables false
set_option linter.unusedSimpArgs false
/-! Ways: more mathematics. -/
theorem TreOk.wayEq {t:Tre} (h:TreOk t) {k:Nat} (hk:k < t.blocks.length):wayN t.bef k=wayN t.bef (t.bef.getD k 0)++[(k:Int)]:=wayN_next h.down (by rw [h.len];exact hk)
theorem TreOk.wayLen2 {t:Tre} (h:TreOk t) {k:Nat} (hk:k < t.blocks.length):(blkAt t.blocks k).hgt=((wayN t.bef (t.bef.getD k 0)).length:Int):=by
 have h1:=h.wayLen k hk
 rw [h.wayEq hk,List.length_append,List.length_singleton] at h1
 push_cast at h1;omega
theorem way_neg (F:List Int):wayN F (-1)=[]:=wayN_no (by omega)
theorem set_way (m:Nat) (x:Int) (r:List Int):(List.replicate (m+1) (0:Int)++r).set m x=List.replicate m 0++(x :: r):=by
 rw [List.replicate_succ',List.append_assoc,List.set_append_right _ _ (by simp)]
 simp
theorem isBefM_eq (t:Tre) (a b:Int):isBefM t a b=decide (a∈pathM t b):=rfl
def NoInt (l:List Int) (x:Int) (k:Nat):Prop:=∀ j,j < k→l.getD j 0≠x
theorem NoInt.next {l:List Int} {x:Int} {k:Nat} (h:NoInt l x k) (hk:l.getD k 0≠x):NoInt l x (k+1):=by
 intro j hj
 by_cases e:j=k
 · rw [e];exact hk
 · exact h j (by omega)
theorem NoInt.all {l:List Int} {x:Int} {k:Nat} (h:NoInt l x k) (hk:l.length=k):decide (x∈l)=false:=by
 refine decide_eq_false (fun hm=>?_)
 obtain ⟨j,hj,e⟩:=List.getElem_of_mem hm
 exact h j (by omega) (by rw [List.getD_eq_getElem?_getD,List.getElem?_eq_getElem hj];exact e)
theorem int_in {l:List Int} {x:Int} {k:Nat} (hk:k < l.length) (h:l.getD k 0=x):decide (x∈l)=true:=by
 refine decide_eq_true ?_
 rw [← h,List.getD_eq_getElem?_getD,List.getElem?_eq_getElem hk];exact List.getElem_mem hk
theorem RowI.newsP {w:World} {a:Option Addr} {n:Nat} {l:List Int} (h:RowI w a n l):∀ ad,a=some ad→∀ j u,(l.map (Value.int .i64))[j]? = some u→w.cell? (ad.add j)=some u:=by
 intro ad he j u hu
 have hj:j < n:=by
  have:=(List.getElem?_eq_some_iff.1 hu).1
  rw [List.length_map,h.1] at this;exact this
 obtain ⟨b,off,he',hc⟩:=h.2.2.1 (by omega)
 rw [he] at he'
 obtain rfl:=Option.some.inj he'
 rw [show (⟨b,off,none⟩:Addr).add j=⟨b,off+j,none⟩ by unfold Addr.add;split <;> simp_all,hc j hj]
 rw [List.getElem?_map,List.getElem?_eq_getElem (by rw [h.1];exact hj)] at hu
 simp only [Option.map_some,Option.some.injEq] at hu
 rw [← hu,List.getD_eq_getElem?_getD,List.getElem?_eq_getElem (by rw [h.1];exact hj)];rfl
theorem indexInt_any (a:Option Addr) (n c:Nat) (l:List Int) (x:Int) (w:World) (h:RowI w a n l) :
  Calls Tryz.prog 68 #[.slice a n c,.int .i64 x] w fun e w'=>(∃ j:Int,e = .returned (.int .i64 j)∧decide (j ≥ 0)=decide (x∈l))∧w=w':=by
 obtain ⟨hl,hm,hc,-⟩:=h
 unfold maxLen at hm
 have HE:=Lib.hid (fun (h:NoInt l x n)=>h.all hl)
 have HY:=Lib.hid (fun (k:Nat) (hk:k < n) (h:l.getD k 0=x)=>int_in (by omega) h)
 clear hl
 go_enter Tryz.func68,Tryz.ntmps68
 go_wp2
 go_loopw [5,8] (fun _ i wr=>∃ k:Nat,k≤n∧i = .int .i64 k∧NoInt l x k∧wr=w) (fun _ i _=>n - (intOf i).toNat)
 case atStart=>exact ⟨0,Nat.zero_le _,rfl,fun j hj=>absurd hj (by omega),rfl⟩
 case round =>
  obtain ⟨k,hk,rfl,hto,rfl⟩:=hrel
  have HTO:=Lib.hid hto;clear hto
  by_cases hlt:k < n
  · obtain ⟨b,off,rfl,hcc⟩:=hc (by omega)
    have hck:=hcc k hlt
    have HN:=Lib.hid (fun hh=>HTO.out.next (k:=k) hh)
    have HY1:=Lib.hid (HY.out k hlt)
    obtain ⟨y,hy⟩:∃ y,y=l.getD k 0:=⟨_,rfl⟩
    rw [← hy] at hck HN HY1
    clear hcc hc hy HY HE
    cases e0:(x == y) with
    | true =>
     have HR := Lib.hid (HY1.out (by have : x = y := by simpa using e0
                                     exact this.symm))
     go_wp2
     go_ret
     exact ⟨⟨k,rfl,by rw [HR.out];simp⟩,rfl⟩
    | false =>
     have HR:=Lib.hid (HN.out (fun e=>by rw [e] at e0;simp at e0))
     go_wp2
     go_roundw
     case rel=>exact ⟨k+1,by omega,by go_num,HR.out,trivial⟩
     case measure=>simp [intOf];omega
  · obtain rfl:k=n:=by omega
    have HR:=Lib.hid (HE.out HTO.out)
    clear hc HE HY
    go_wp2
    go_ret
    exact ⟨⟨-1,rfl,by rw [HR.out];rfl⟩,rfl⟩
theorem containsInt_any (a:Option Addr) (n c:Nat) (l:List Int) (x:Int) (w:World) (h:RowI w a n l) :
  Calls Tryz.prog 28 #[.slice a n c,.int .i64 x] w fun e w'=>e = .returned (.bool (decide (x∈l)))∧w=w':=by
 go_enter Tryz.func28,Tryz.ntmps28
 go_wp2_with fail
 refine (indexInt_any a n c l x _ h).mono ?_;rintro e w' ⟨⟨j,rfl,hj⟩,rfl⟩
 clear h
 cases e1:decide (x∈l) with
 | true =>
  rw [e1] at hj
  go_wp2_with fail
  go_ret
  exact ⟨by rw [e1];rfl,rfl⟩
 | false =>
  rw [e1] at hj
  go_wp2_with fail
  go_ret
  exact ⟨by rw [e1];rfl,rfl⟩
def NewIs (w:World) (l:List Int) (e:Ending) (w':World):Prop :=
 ∃ v,e = .returned v∧w'.ownsRow w.heap.size 3 1 v l.length (l.map (Value.int .i64))∧(∀ x∈l,(Lit.int .i64 x).wf=true)∧l.length≤14∧Below w.heap.size w w'
theorem newIs_nil (w w':World) (h:Below w.heap.size w w'):NewIs w [] (.returned (.slice none 0 0)) w':=⟨_,rfl,World.ownsRow_nil _ _ _ _,fun x hx=>(by cases hx),by simp,h⟩
theorem way_ok {t:Tre} (h:TreOk t) {k:Nat} (hk:k < t.blocks.length):(∀ x∈wayN t.bef k,(Lit.int .i64 x).wf=true)∧(wayN t.bef k).length≤14:=by
 have hm:=h.most
 constructor
 · intro x hx
   have:=way_mem h.down k (by rw [h.len];exact hk) x hx
   exact WalkArith.wf_i64 (by omega)
 · have hgen:∀ n,n < t.blocks.length→(wayN t.bef n).length≤n+1:=by
    intro n
    induction n using Nat.strongRecOn with
    | _ n ih =>
     intro hn
     rw [h.wayEq hn,List.length_append,List.length_singleton]
     have hb:=h.befBd hn
     by_cases h0:t.bef.getD n 0 = -1
     · rw [h0,way_neg];simp
     · obtain ⟨m,hm2⟩:=Int.eq_ofNat_of_zero_le (show 0≤t.bef.getD n 0 by omega)
       rw [hm2] at hb ⊢
       have:=ih m (by omega) (by omega)
       omega
   have:=hgen k hk
   omega
set_option maxRecDepth 100000 in
set_option maxHeartbeats 4000000 in
theorem pathToIx_impl (B Z m:Nat) (v1 v2 v3:Value) (t:Tre) (ts:List Value) (k0:Nat) (w:World) (h:TrIx w B Z m tTreP v1 v2 v3 t ts) (ht:treB t=true) (hk:k0 < t.blocks.length) :
  Calls Tryz.prog 58 #[.pointer (some ⟨Z,0,none⟩),.int .i64 (k0:Int)] w (NewIs w (wayN t.bef k0)):=by
 have htk:=(treB_iff t).1 ht
 obtain ⟨a2,n2,c2,rfl,r2,-,-⟩:=h.rd.blocks
 obtain ⟨a3,n3,c3,rfl,r3,-,-⟩:=h.rd.bef
 have hl2:t.blocks.length=n2:=r2.1
 have hl3:t.bef.length=n3:=r3.1
 obtain rfl:n2=n3:=by rw [← hl2,← hl3,htk.len]
 obtain ⟨b,off,rfl,hbk⟩:=r2.2.2.1 (by omega)
 obtain ⟨b3,off3,rfl,hc3⟩:=r3.2.2.1 (by omega)
 have hbx:=h.box
 have hm14:=htk.most
 have HK:=Lib.hid (fun (W:World) (hb:Below w.heap.size w W)=>(⟨hbx.below hb,fun k hk=>(hbk k hk).below hb,fun k hk=>by
  have hlt:=World.block_lt_of_cell? w ⟨b3,off3+k,none⟩ (hc3 k hk)
  exact below_cell hb hlt (hc3 k hk)⟩:IxAt W Z v1 (.slice (some ⟨b,off,none⟩) n2 c2) (.slice (some ⟨b3,off3,none⟩) n2 c3) (.map (some m))∧(∀ k,k < n2→BkIn W b (off+k*6) (t.blocks.getD k noBlk))∧∀ k,k < n2→W.cell? ⟨b3,off3+k,none⟩=some (.int .i64 (t.bef.getD k 0))))
 have HTK:=Lib.hid htk
 have HL2:=Lib.hid hl2
 have hn14:n2≤14:=by omega
 have hk0:k0 < n2:=by omega
 obtain ⟨hwf,hw14⟩:=way_ok htk hk
 have HWF:=Lib.hid hwf
 have HW14:=Lib.hid hw14
 obtain ⟨X,hX⟩:∃ X,X=wayN t.bef k0:=⟨_,rfl⟩
 obtain ⟨N,hN⟩:∃ N,N=X.length:=⟨_,rfl⟩
 have hh0:(blkAt t.blocks k0).hgt+1=(N:Int):=by rw [hN,hX,htk.wayLen k0 hk]
 simp only [blkAt] at hh0
 have HX:=Lib.hid hX
 have HN:=Lib.hid hN
 rw [← hX] at HWF HW14
 rw [← hX]
 have hN14:N≤14:=by rw [hN];exact HW14.out
 clear h ht hk r2 r3 hbx hbk hc3 hm14 hl2 hl3 htk hwf hw14 hX hN
 obtain ⟨⟨y0,y1,y2,y3,-⟩,hbk,-⟩:=HK.out w (Below.refl _ _)
 obtain ⟨g0,g1,g2,-,g4,g5⟩:=hbk k0 hk0
 obtain ⟨z,hz⟩:∃ z,z=(t.blocks.getD k0 noBlk).hgt:=⟨_,rfl⟩
 rw [← hz] at hh0 g1
 obtain rfl:z=(N:Int) - 1:=by omega
 have hw1:IntKind.i64.wrap ((N:Int) - 1+1)=(N:Int):=by rw [show (N:Int) - 1+1=(N:Int) by omega];exact IntWalk.i64_in _ (by omega)
 have i1:(0:Int)≤(k0:Int):=by omega
 have i2:(k0:Int) < (n2:Int):=by omega
 clear hbk hz hh0 g0 g2 g4 g5
 obtain ⟨i0,hi,hz0,hz1,hz2⟩:=info_parts infoIntP
 go_enter Tryz.func58,Tryz.ntmps58
 go_wp2_with (first | (at_make;refine wpList_make_full _ rfl (.tmp 15) (.tmp 15) 25 rfl w.heap.size 3 i0 (.int .i64 0) 1 Tryz.underlying25 hi hz0 hz1 .i64 .i64 N N N rfl rfl rfl rfl (by rw [hz2];omega) (by unfold maxLen;omega) (Nat.le_refl _) ?_;intro w2 hown hgrow;clear hi hz0 hz1 hz2))
 have hcells:(madeCells (Value.int .i64 0).cells (N*1)).toList=(List.replicate N (0:Int)).map (Value.int .i64):=by
  rw [Nat.mul_one];exact (toList_madeCells_one _ _).trans (by simp)
 rw [hcells] at hown
 have hb2:Below w.heap.size w w2:=(Below.refl _ _).grown hgrow (Nat.le_refl _) (fun k hk=>by simp at hk)
 clear hgrow hcells y0 y1 y2 y3 g1 i1 i2 hw1
 go_loopw [1] (fun q wr=>∃ (p:Int) (rest:List Int),q = .int .i64 p∧(p = -1∨∃ k:Nat,p=k∧k < n2)∧wayN t.bef p++rest=X∧wr.ownsRow w.heap.size 3 1 (.slice (some ⟨w.heap.size,0,none⟩) N N) N ((List.replicate (wayN t.bef p).length (0:Int)++rest).map (Value.int .i64))∧Below w.heap.size w wr) (fun q _=>(intOf q+1).toNat)
 case atStart=>exact ⟨k0,[],rfl,.inr ⟨k0,rfl,hk0⟩,by rw [HX.out,List.append_nil],by rw [← HX.out,← HN.out,List.append_nil];exact hown,hb2⟩
 case round =>
  clear hown hb2
  obtain ⟨p,rest,rfl,hp,hX,hown,hb⟩:=hrel
  rcases hp with rfl | ⟨k,rfl,hkn⟩
  · rw [way_neg] at hX hown
    simp only [List.nil_append,List.length_nil,List.replicate_zero] at hX hown
    have HO:Hid (wr.ownsRow w.heap.size 3 1 (.slice (some ⟨w.heap.size,0,none⟩) N N) X.length (X.map (Value.int .i64))):=Lib.hid (by
     have hnn:=HN.out
     rw [← hX] at hnn ⊢
     rw [← hnn];exact hown)
    clear hX hown
    go_wp2_with fail
    go_ret
    exact ⟨_,rfl,HO.out,HWF.out,HW14.out,hb⟩
  · obtain ⟨⟨y0,y1,y2,y3,-⟩,hbk,hcf⟩:=HK.out wr hb
    obtain ⟨-,g1,-,-,-,-⟩:=hbk k hkn
    have hh:=HTK.out.wayLen2 (k:=k) (by rw [HL2.out];exact hkn)
    have hwe:=HTK.out.wayEq (k:=k) (by rw [HL2.out];exact hkn)
    have hbb:=HTK.out.befBd (k:=k) (by rw [HL2.out];exact hkn)
    simp only [blkAt] at hh
    rw [hh] at g1
    rw [hwe] at hX hown
    obtain ⟨f,hf⟩:∃ f,f=t.bef.getD k 0:=⟨_,rfl⟩
    rw [← hf] at g1 hX hown hbb
    obtain ⟨m',hm'⟩:∃ m',m'=(wayN t.bef f).length:=⟨_,rfl⟩
    rw [List.length_append,List.length_singleton,← hm'] at hown
    rw [← hm'] at g1
    have hmN:m' < N:=by
     have:=congrArg List.length hX
     simp only [List.length_append,List.length_singleton] at this
     rw [HN.out,← this,← hm'];omega
    have hst:=(hown.stored m' (.int .i64 (k:Int))).1
    rw [← List.map_set,set_way] at hst
    have hce:=hown.cellAt m' (by omega)
    obtain ⟨cv,hcv⟩:∃ cv,((List.replicate (m'+1) (0:Int)++rest).map (Value.int .i64))[m']? = some cv:=⟨_,List.getElem?_eq_getElem (by simp;omega)⟩
    rw [hcv] at hce
    have hfz:=hown.frozenAt m'
    have hbs:Below w.heap.size w (wr.setCell ⟨w.heap.size,m',none⟩ (.int .i64 (k:Int))):=hb.setCell (Nat.le_refl _) _
    have HST:Hid (∃ rest',wayN t.bef f++rest'=X∧(wr.setCell ⟨w.heap.size,m',none⟩ (.int .i64 (k:Int))).ownsRow w.heap.size 3 1 (.slice (some ⟨w.heap.size,0,none⟩) N N) N ((List.replicate (wayN t.bef f).length (0:Int)++rest').map (Value.int .i64))):=Lib.hid ⟨(k:Int) :: rest,by rw [← hX];simp,by rw [← hm'];exact hst⟩
    have HBS:=Lib.hid hbs
    have hcf2:=(HK.out _ hbs).2.2 k hkn
    obtain ⟨⟨ya0,ya1,ya2,ya3,-⟩,-,-⟩:=HK.out _ hbs
    rw [← hf] at hcf2
    have i1:(0:Int)≤(k:Int):=by omega
    have i2:(k:Int) < (n2:Int):=by omega
    have i3:(0:Int)≤(m':Int):=by omega
    have i4:(m':Int) < (N:Int):=by omega
    have e1:((k:Int) != -1)=true:=bne_iff_ne.2 (by omega)
    have HBB:=Lib.hid hbb
    clear hbk hcf hh hwe hX hown hf hm' hst hcv hbs hb hmN hbb
    go_wp2_with fail
    go_roundw
    case rel =>
     obtain ⟨rest',h1,h2⟩:=HST.out
     have hbb:=HBB.out
     refine ⟨f,rest',rfl,?_,h1,h2,HBS.out⟩
     by_cases e:f = -1
     · exact .inl e
     · obtain ⟨q,hq⟩:=Int.eq_ofNat_of_zero_le (show 0≤f by omega)
       exact .inr ⟨q,hq,by omega⟩
    case measure=>have hbb:=HBB.out;simp [intOf];omega
theorem pathTo_impl (v1 v2 v3:Value) (t:Tre) (n:Int) (w:World) (h:TreRd w v1 v2 v3 t) :
  Calls Tryz.prog 29 #[.agg #[v1,v2,v3],.int .i64 n] w (NewIs w (pathM t n)):=by
 have hrd:=h
 obtain ⟨⟨a1,n1,c1,rfl,-⟩,⟨a2,n2,c2,rfl,-⟩,a3,n3,c3,rfl,-⟩:=h
 have hb0:=(Below.refl w.heap.size w).alloc (Nat.le_refl _) (.cells #[.slice a1 n1 c1,.slice a2 n2 c2,.slice a3 n3 c3] 27)
 have hg0:=trAt_new w 27 (.slice a1 n1 c1) (.slice a2 n2 c2) (.slice a3 n3 c3)
 have hr0:=hrd.below hb0
 obtain ⟨W1,hW1⟩:∃ W1,W1=w.alloc (.cells #[.slice a1 n1 c1,.slice a2 n2 c2,.slice a3 n3 c3] 27):=⟨_,rfl⟩
 have HW1:=Lib.hid hW1
 rw [← hW1] at hb0 hg0 hr0
 clear hW1 hrd
 have HB:=Lib.hid hb0
 have HRD:=Lib.hid hr0
 have HG:=Lib.hid hg0
 obtain ⟨x0,x1,x2,-⟩:=hg0
 clear hb0 hr0
 go_enter Tryz.func29,Tryz.ntmps29
 go_upto_region 1 with (fail)
 rw [← HW1.out]
 clear HW1
 go_wp2_with fail
 refine (indexedTreeOf_impl _ _ _ t _ HRD.out).mono ?_;rintro e w2 ⟨hb2,hno,hyes⟩
 have HBF:=Lib.hid (HB.out.trans (hb2.mono HB.out.size))
 cases ht:treB t with
 | false =>
  have HF:=Lib.hid (pathM_no (n:=n) (.inl ht))
  obtain rfl:=hno ht
  clear hno hyes hb2 ht
  go_wp2_with fail
  go_ret
  rw [HF.out];exact newIs_nil _ _ HBF.out
 | true =>
  obtain ⟨Z,m,u1,u2,u3,ts,rfl,hix⟩:=hyes ht
  obtain ⟨a4,n4,c4,rfl,r4,-,-⟩:=hix.rd.blocks
  have hl4:t.blocks.length=n4:=r4.1
  have HIX:=Lib.hid hix
  have HT:=Lib.hid ht
  clear hno hyes hb2 ht hix r4
  by_cases hn:0≤n∧n < (n4:Int)
  · have hd:decide (0≤n∧n < (n4:Int))=true:=decide_eq_true hn
    obtain ⟨k,rfl⟩:=Int.eq_ofNat_of_zero_le hn.1
    have HF:=Lib.hid (pathM_yes HT.out (n:=(k:Int)) (by omega) (by rw [hl4];exact hn.2))
    have HK:=Lib.hid (show k < t.blocks.length by rw [hl4];omega)
    have HH:=Lib.hid (has_impl Z _ _ _ _ _ _ (k:Int) w2 HIX.out.box)
    rw [hd] at HH
    clear hn hd
    go_wp2_with fail
    refine HH.out.mono ?_;rintro e w3 ⟨rfl,rfl⟩
    go_wp2_with fail
    refine (pathToIx_impl w.heap.size Z m _ _ _ t ts k _ (HIX.out.mono (Nat.le_trans HB.out.size (Nat.le_refl _))) HT.out HK.out).mono ?_;rintro e w4 ⟨v,rfl,ho,hwf,hl,hb4⟩
    have HO:=Lib.hid (owns_mono ho HBF.out.size)
    have HB4:=Lib.hid (HBF.out.trans (hb4.mono HBF.out.size))
    clear ho hb4 HH
    go_wp2_with fail
    go_ret
    rw [HF.out];exact ⟨_,rfl,HO.out,hwf,hl,HB4.out⟩
  · have hd:decide (0≤n∧n < (n4:Int))=false:=decide_eq_false hn
    have HF:=Lib.hid (pathM_no (t:=t) (n:=n) (.inr (by rw [hl4];exact hn)))
    have HH:=Lib.hid (has_impl Z _ _ _ _ _ _ n w2 HIX.out.box)
    rw [hd] at HH
    clear hn hd
    go_wp2_with fail
    refine HH.out.mono ?_;rintro e w3 ⟨rfl,rfl⟩
    clear HH
    go_wp2_with fail
    go_ret
    rw [HF.out];exact newIs_nil _ _ HBF.out
theorem isBefore_impl (v1 v2 v3:Value) (t:Tre) (x y:Int) (w:World) (h:TreRd w v1 v2 v3 t) :
  Calls Tryz.prog 11 #[.agg #[v1,v2,v3],.int .i64 x,.int .i64 y] w (BoolB (isBefM t x y) w):=by
 have hrd:=h
 obtain ⟨⟨a1,n1,c1,rfl,-⟩,⟨a2,n2,c2,rfl,-⟩,a3,n3,c3,rfl,-⟩:=h
 have hb0:=(Below.refl w.heap.size w).alloc (Nat.le_refl _) (.cells #[.slice a1 n1 c1,.slice a2 n2 c2,.slice a3 n3 c3] 27)
 have hg0:=trAt_new w 27 (.slice a1 n1 c1) (.slice a2 n2 c2) (.slice a3 n3 c3)
 have hr0:=hrd.below hb0
 obtain ⟨W1,hW1⟩:∃ W1,W1=w.alloc (.cells #[.slice a1 n1 c1,.slice a2 n2 c2,.slice a3 n3 c3] 27):=⟨_,rfl⟩
 have HW1:=Lib.hid hW1
 rw [← hW1] at hb0 hg0 hr0
 clear hW1 hrd
 have HB:=Lib.hid hb0
 have HRD:=Lib.hid hr0
 have HG:=Lib.hid hg0
 obtain ⟨x0,x1,x2,-⟩:=hg0
 clear hb0 hr0
 go_enter Tryz.func11,Tryz.ntmps11
 go_upto_region 1 with (fail)
 rw [← HW1.out]
 clear HW1
 go_wp2_with fail
 refine (pathTo_impl _ _ _ t y _ HRD.out).mono ?_;rintro e w2 ⟨v,rfl,ho,hwf,hl,hb2⟩
 obtain ⟨a4,c4,rfl,r4⟩:=rowI_of_owns ho (by unfold maxLen;omega) hwf
 have HR:=Lib.hid r4
 have HBF:=Lib.hid (HB.out.trans (hb2.mono HB.out.size))
 clear ho hwf hl hb2 r4
 go_wp2_with fail
 refine (containsInt_any _ _ _ _ x _ HR.out).mono ?_;rintro e w3 ⟨rfl,rfl⟩
 go_wp2_with fail
 go_ret
 exact ⟨rfl,HBF.out⟩
theorem pathM_next {t:Tre} (h:treB t=true) {k:Nat} (hk:k < t.blocks.length):pathM t k=pathM t (t.bef.getD k 0)++[(k:Int)]:=by
 have htk:=(treB_iff t).1 h
 rw [pathM_yes h (by omega) (by omega),htk.wayEq hk]
 congr 1
 have hb:=htk.befBd hk
 by_cases e:t.bef.getD k 0 = -1
 · rw [e,way_neg,pathM_no (.inr (by omega))]
 · rw [pathM_yes h (by omega) (by omega)]
theorem pathM_ok (t:Tre) (n:Int):(∀ x∈pathM t n,(Lit.int .i64 x).wf=true)∧(pathM t n).length≤14:=by
 cases h:treB t with
 | false=>rw [pathM_no (.inl h)];exact ⟨fun x hx=>(by cases hx),by simp⟩
 | true =>
  by_cases hn:0≤n∧n < (t.blocks.length:Int)
  · obtain ⟨k,rfl⟩:=Int.eq_ofNat_of_zero_le hn.1
    rw [pathM_yes h hn.1 hn.2]
    exact way_ok ((treB_iff t).1 h) (by omega)
  · rw [pathM_no (.inr hn)];exact ⟨fun x hx=>(by cases hx),by simp⟩
set_option maxRecDepth 100000 in
set_option maxHeartbeats 4000000 in
theorem pathTo_spec (v1 v2 v3:Value) (t:Tre) (n:Int) (w:World) (h:TreRd w v1 v2 v3 t) :
  Calls Tryz.prog 63 #[.agg #[v1,v2,v3],.int .i64 n] w (NewIs w (pathM t n)):=by
 have hrd:=h
 obtain ⟨⟨a1,n1,c1,rfl,-⟩,⟨a2,n2,c2,rfl,r2,-,-⟩,a3,n3,c3,rfl,r3,-,-⟩:=h
 have hl2:t.blocks.length=n2:=r2.1
 have hm2:=r2.2.1
 unfold maxLen at hm2
 have hb0:=(Below.refl w.heap.size w).alloc (Nat.le_refl _) (.cells #[.slice a1 n1 c1,.slice a2 n2 c2,.slice a3 n3 c3] 27)
 have hg0:=trAt_new w 27 (.slice a1 n1 c1) (.slice a2 n2 c2) (.slice a3 n3 c3)
 have hr0:=hrd.below hb0
 obtain ⟨W0,hW0⟩:∃ W0,W0=w.alloc (.cells #[.slice a1 n1 c1,.slice a2 n2 c2,.slice a3 n3 c3] 27):=⟨_,rfl⟩
 have hr3:=r3.below (hW0 ▸ hb0)
 rw [← hW0] at hb0 hg0 hr0
 have hw0s:W0.heap.size=w.heap.size+1:=by rw [hW0];simp
 have ho0:=(own_lit (w:=W0) (B:=W0.heap.size) 3 1 #[] 0 (Nat.le_refl _) (by unfold maxLen;omega) rfl).1
 have hb1:=(Below.refl W0.heap.size W0).alloc (Nat.le_refl _) (.cells #[] 3)
 obtain ⟨W1,hW1⟩:∃ W1,W1=W0.alloc (.cells #[] 3):=⟨_,rfl⟩
 have HW1:=Lib.hid hW1
 have HW0:=Lib.hid hW0
 rw [← hW1] at ho0 hb1
 clear hW1 hW0 hrd r2 r3
 have HK:=Lib.hid (fun (W:World) (hb:Below W0.heap.size W0 W)=>(⟨hg0.below hb,hr0.below hb,hr3.below hb,hb0.trans (hb.mono hb0.size)⟩:TrAt W w.heap.size (.slice a1 n1 c1) (.slice a2 n2 c2) (.slice a3 n3 c3)∧TreRd W (.slice a1 n1 c1) (.slice a2 n2 c2) (.slice a3 n3 c3) t∧RowI W a3 n3 t.bef∧Below w.heap.size w W))
 have HO:=Lib.hid ho0
 have HB1:=Lib.hid hb1
 have HS0:=Lib.hid hb0.size
 have HL2:=Lib.hid hl2
 obtain ⟨X,hX⟩:∃ X,X=pathM t n:=⟨_,rfl⟩
 have HX:=Lib.hid hX
 obtain ⟨hxw,hxl⟩:=pathM_ok t n
 rw [← hX] at hxw hxl ⊢
 have HXW:=Lib.hid hxw
 have HXL:=Lib.hid hxl
 clear ho0 hb1 hb0 hg0 hr0 hr3 hl2 hX hxw hxl
 go_enter Tryz.func63,Tryz.ntmps63
 go_wp2_with fail
 rw [← HW0.out,← hw0s,← HW1.out]
 clear HW0 HW1
 clear hw0s
 go_loopw [1,5] (fun q v wr=>∃ (p:Int) (rest:List Int),q = .int .i64 p∧pathM t p++rest=X∧wr.ownsRow W0.heap.size 3 1 v rest.length (rest.map (Value.int .i64))∧Below W0.heap.size W0 wr) (fun q _ _=>(intOf q+1).toNat)
 case atStart=>exact ⟨n,[],rfl,by rw [← HX.out,List.append_nil],HO.out,HB1.out⟩
 case round =>
  clear HO HB1
  obtain ⟨p,rest,rfl,hX,hown,hb⟩:=hrel
  have hrl:rest.length≤14:=by
   have:=congrArg List.length hX
   rw [List.length_append] at this
   have:=HXL.out
   omega
  have hrw:∀ x∈rest,(Lit.int .i64 x).wf=true:=fun x hx=>HXW.out x (by rw [← hX];exact List.mem_append.2 (.inr hx))
  obtain ⟨a4,c4,rfl,r4⟩:=rowI_of_owns hown (by unfold maxLen;omega) hrw
  have hnl:a4=none→rest.length=0∧c4=0:=fun e=>by
   rcases slice_of_owns hown with ⟨e2,e3⟩ | ⟨g,cap,e2,-⟩
   · simp only [Value.slice.injEq] at e2;exact ⟨e3,e2.2.2⟩
   · simp only [Value.slice.injEq] at e2;rw [e] at e2;cases e2.1
  have HNL:=Lib.hid hnl
  have HXE:=Lib.hid hX
  have HOW:=Lib.hid hown
  have HR4:=Lib.hid r4
  have HB:=Lib.hid hb
  clear hX hown r4 hb hnl hrw
  obtain ⟨⟨x0,x1,x2,-⟩,hrd,-,-⟩:=HK.out wr HB.out
  have HRD:=Lib.hid hrd
  clear hrd
  go_wp2_with fail
  refine (blockTreeValid_spec _ _ _ t _ HRD.out).mono ?_;rintro e w2 ⟨rfl,hb2⟩
  have HB2:=Lib.hid (HB.out.trans (hb2.mono HB.out.size))
  have HOW2:=Lib.hid (owns_below HOW.out hb2)
  have HR42:=Lib.hid (HR4.out.below hb2)
  clear x0 x1 x2 hb2 HRD HOW HR4
  obtain ⟨⟨x0,x1,x2,-⟩,-,-,hbf⟩:=HK.out w2 HB2.out
  have HBF:=Lib.hid hbf
  clear hbf
  cases ht:treB t with
  | false =>
   have HE:Hid (rest=X):=Lib.hid (by rw [← HXE.out,pathM_no (.inl ht)];rfl)
   clear ht
   go_wp2_with fail
   go_ret
   rw [← HE.out];exact ⟨_,rfl,owns_mono HOW2.out HS0.out,fun x hx=>HXW.out x (by rw [← HE.out];exact hx),hrl,HBF.out⟩
  | true =>
   have HT:=Lib.hid ht
   clear ht
   have hw1:IntKind.i64.wrap ((n2:Int) - 1)=(n2:Int) - 1:=IntWalk.i64_in _ (by omega)
   by_cases hp:0≤p∧p≤(n2:Int) - 1
   · have hd:inB p 0 ((n2:Int) - 1)=true:=inB_yes hp.1 hp.2
     obtain ⟨k,rfl⟩:=Int.eq_ofNat_of_zero_le hp.1
     have hkn:k < n2:=by omega
     have htk:=(treB_iff t).1 HT.out
     have hbb:=htk.befBd (k:=k) (by rw [HL2.out];exact hkn)
     have hpn:=pathM_next HT.out (k:=k) (by rw [HL2.out];exact hkn)
     have hrow:=(HK.out w2 HB2.out).2.2.1
     obtain rfl:n2=n3:=by rw [← HL2.out,← hrow.1,htk.len]
     obtain ⟨b3,off3,rfl,hc3⟩:=hrow.2.2.1 (by omega)
     have hc3k:=hc3 k hkn
     obtain ⟨f,hf⟩:∃ f,f=t.bef.getD k 0:=⟨_,rfl⟩
     rw [← hf] at hbb hpn hc3k
     have HPN:=Lib.hid hpn
     have HBB:=Lib.hid hbb
     have hb3w:=World.block_lt_of_cell? w2 ⟨b3,off3+k,none⟩ hc3k
     have HC3:=Lib.hid (fun (W:World) (hb:Below w2.heap.size w2 W)=>below_cell hb hb3w hc3k)
     have hlit:=own_lit (w:=w2) (B:=W0.heap.size) 3 1 #[.int .i64 (k:Int)] 1 HB2.out.size (by unfold maxLen;omega) rfl
     have hba:=(Below.refl w2.heap.size w2).alloc (Nat.le_refl _) (.cells #[.int .i64 (k:Int)] 3)
     have HRA:=Lib.hid (HR42.out.below hba)
     have HBA:=Lib.hid (HB2.out.trans (hba.mono HB2.out.size))
     have HLIT:=Lib.hid hlit
     have HSA:=Lib.hid hba
     have i1:(0:Int)≤(k:Int):=by omega
     have i2:(k:Int) < (n2:Int):=by omega
     clear hp htk hbb hpn hrow hc3 hc3k hf hb3w hlit hba
     go_wp2_with (first | (go_at_call 42;refine (l1In_spec _ _ _ _).mono ?_;rintro e w2 ⟨rfl,rfl⟩;rw [hd]) | (at_builtin;refine wpList_append_rows rfl _ _ 25 rfl W0.heap.size 3 (.int .i64 0) 1 8 Tryz.underlying25 infoIntP rfl (by decide) _ 1 [.int .i64 (k:Int)] (rest.map (Value.int .i64)) (by rfl) HLIT.out a4 rest.length c4 (by rfl) HNL.out (by simp) HRA.out.newsP ?c1 (by omega) (by decide) ?c2 ?_))
     case c1=>intro u hu;obtain ⟨y,-,rfl⟩:=List.mem_map.1 hu;rfl
     case c2=>exact HBA.out.size
     intro v5 w5 ho5 hg5
     have hb5:Below W0.heap.size W0 w5:=HBA.out.grown hg5 HBA.out.size (fun q hq=>(HLIT.out.1.lt q hq).1)
     have hb25:Below w2.heap.size w2 w5:=HSA.out.grown hg5 HSA.out.size (fun q hq=>by simp [Value.ownBlock] at hq;omega)
     have HO5:Hid (w5.ownsRow W0.heap.size 3 1 v5 ((k:Int) :: rest).length (((k:Int) :: rest).map (Value.int .i64))):=Lib.hid (by
      have:=ho5.1
      have e9:((k:Int) :: rest).length=1+rest.length:=by simp [Nat.add_comm]
      rw [e9];exact this)
     have HB5:=Lib.hid hb5
     obtain ⟨pa,pn,pc,rfl⟩:=slice_form ho5.1
     have hcz:=HC3.out w5 hb25
     obtain ⟨⟨z0,z1,z2,-⟩,-,-,-⟩:=HK.out w5 hb5
     clear ho5 hg5 hb5 hb25 x0 x1 x2
     go_wp2_with fail
     go_roundw
     case rel=>exact ⟨f,(k:Int) :: rest,rfl,by rw [← HXE.out,HPN.out];simp,HO5.out,HB5.out⟩
     case measure=>have hbb:=HBB.out;simp [intOf];omega
   · have hd:inB p 0 ((n2:Int) - 1)=false:=inB_no (by omega)
     have HE:Hid (rest=X):=Lib.hid (by rw [← HXE.out,pathM_no (.inr (by rw [HL2.out];omega))];rfl)
     clear hp
     go_wp2_with (first | (go_at_call 42;refine (l1In_spec _ _ _ _).mono ?_;rintro e w' ⟨rfl,rfl⟩;rw [hd]))
     go_ret
     rw [← HE.out];exact ⟨_,rfl,owns_mono HOW2.out HS0.out,fun x hx=>HXW.out x (by rw [← HE.out];exact hx),hrl,HBF.out⟩
theorem isBefore_spec (v1 v2 v3:Value) (t:Tre) (x y:Int) (w:World) (h:TreRd w v1 v2 v3 t) :
  Calls Tryz.prog 25 #[.agg #[v1,v2,v3],.int .i64 x,.int .i64 y] w (BoolB (isBefM t x y) w):=by
 have hrd:=h
 obtain ⟨⟨a1,n1,c1,rfl,-⟩,⟨a2,n2,c2,rfl,-⟩,a3,n3,c3,rfl,-⟩:=h
 have hb0:=(Below.refl w.heap.size w).alloc (Nat.le_refl _) (.cells #[.slice a1 n1 c1,.slice a2 n2 c2,.slice a3 n3 c3] 27)
 have hg0:=trAt_new w 27 (.slice a1 n1 c1) (.slice a2 n2 c2) (.slice a3 n3 c3)
 have hr0:=hrd.below hb0
 obtain ⟨W1,hW1⟩:∃ W1,W1=w.alloc (.cells #[.slice a1 n1 c1,.slice a2 n2 c2,.slice a3 n3 c3] 27):=⟨_,rfl⟩
 have HW1:=Lib.hid hW1
 rw [← hW1] at hb0 hg0 hr0
 clear hW1 hrd
 have HB:=Lib.hid hb0
 have HRD:=Lib.hid hr0
 have HG:=Lib.hid hg0
 obtain ⟨x0,x1,x2,-⟩:=hg0
 clear hb0 hr0
 go_enter Tryz.func25,Tryz.ntmps25
 go_upto_region 1 with (fail)
 rw [← HW1.out]
 clear HW1
 go_wp2_with fail
 refine (pathTo_spec _ _ _ t y _ HRD.out).mono ?_;rintro e w2 ⟨v,rfl,ho,hwf,hl,hb2⟩
 obtain ⟨a4,c4,rfl,r4⟩:=rowI_of_owns ho (by unfold maxLen;omega) hwf
 have HBF:=Lib.hid (HB.out.trans (hb2.mono HB.out.size))
 obtain ⟨L,hL⟩:∃ L,L=pathM t y:=⟨_,rfl⟩
 have HVAL:Hid (isBefM t x y=decide (x∈L)):=Lib.hid (by rw [isBefM_eq,hL])
 rw [← hL] at r4 hl ⊢
 obtain ⟨N,hN⟩:∃ N,N=L.length:=⟨_,rfl⟩
 rw [← hN] at r4 hl ⊢
 have hc:=r4.2.2.1
 have HE:=Lib.hid (fun (h:NoInt L x N)=>h.all hN.symm)
 have HY:=Lib.hid (fun (k:Nat) (hk:k < N) (h:L.getD k 0=x)=>int_in (by rw [← hN];exact hk) h)
 clear ho hwf hb2 r4 hL hN x0 x1 x2
 go_wp2_with fail
 go_loopw [8] (fun i wr=>∃ k:Nat,k≤N∧i = .int .i64 k∧NoInt L x k∧wr=w2) (fun i _=>N - (intOf i).toNat)
 case atStart=>exact ⟨0,Nat.zero_le _,rfl,fun j hj=>absurd hj (by omega),rfl⟩
 case round =>
  obtain ⟨k,hk,rfl,hto,rfl⟩:=hrel
  have HTO:=Lib.hid hto;clear hto
  by_cases hlt:k < N
  · obtain ⟨b,off,rfl,hcc⟩:=hc (by omega)
    have hck:=hcc k hlt
    have HN:=Lib.hid (fun hh=>HTO.out.next (k:=k) hh)
    have HY1:=Lib.hid (HY.out k hlt)
    obtain ⟨z,hy⟩:∃ z,z=L.getD k 0:=⟨_,rfl⟩
    rw [← hy] at hck HN HY1
    clear hcc hc hy HY HE
    cases e0:(z == x) with
    | true =>
     have HR:=Lib.hid (HY1.out (by simpa using e0))
     go_wp2
     go_ret
     exact ⟨by rw [HVAL.out,HR.out];rfl,HBF.out⟩
    | false =>
     have HR:=Lib.hid (HN.out (fun e=>by rw [e] at e0;simp at e0))
     go_wp2
     go_roundw
     case rel=>exact ⟨k+1,by omega,by go_num,HR.out,trivial⟩
     case measure=>simp [intOf];omega
  · obtain rfl:k=N:=by omega
    have HR:=Lib.hid (HE.out HTO.out)
    clear hc HE HY
    go_wp2
    go_ret
    exact ⟨by rw [HVAL.out,HR.out];rfl,HBF.out⟩
end Go.Proofs.YtpnjgmgmakmgeabGreat
