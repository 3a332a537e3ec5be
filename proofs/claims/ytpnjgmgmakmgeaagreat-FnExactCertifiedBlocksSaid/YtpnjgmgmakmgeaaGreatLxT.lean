/- Texts of ours that stand together: LawTrEx, MarkTr, LawTrEx3 -/
import Derived.Test.YtpnjgmgmakmgeaaGreatTrFP
import Derived.Test.YtpnjgmgmakmgeaaGreatCvB
import Derived.Deep.RegionHeld3
import Derived.Test.YtpnjgmgmakmgeaaGreatConv
import Derived.Test.YtpnjgmgmakmgeaaGreatHeldA
import Derived.Test.YtpnjgmgmakmgeaaGreatTrM
import Derived.Deep.Cut
/- The walks of exact laws over trees of blocks (gen16/lawtr.py). -/
namespace Go.Proofs.YtpnjgmgmakmgeaaGreat
open Go.RowKit
set_option linter.unusedVariables false
set_option linter.unusedSimpArgs false
theorem newTre_form {w:World} {B T:Nat} {t:TreT} {v1 v2 v3:Value} {x:Tre} {ts:List Value} (h:TreOwn w B T t v1 v2 v3 x ts):∃ b1 m1 d1 b2 m2 d2 b3 m3 d3,v1 = .slice b1 m1 d1∧v2 = .slice b2 m2 d2∧v3 = .slice b3 m3 d3:=by
 obtain ⟨⟨b1,m1,d1,rfl,-⟩,⟨b2,m2,d2,rfl,-⟩,b3,m3,d3,rfl,-⟩:=h.rd
 exact ⟨b1,m1,d1,b2,m2,d2,b3,m3,d3,rfl,rfl,rfl⟩
theorem takeB_one (L:List Blk) (j:Nat) (h:j < L.length):L.take (j+1)=L.take j++[L.getD j noBlk]:=by
 rw [List.take_succ_eq_append_getElem h,List.getD_eq_getElem?_getD,List.getElem?_eq_getElem h];rfl
def mkBN (x:Blk):Nat:=5+4*x.acts.length
def markOfB (k:Int) (x:Blk):Blk:=⟨k,k+1,k+2,marksA (k+3) x.acts.length,k+3+4*x.acts.length,k+4+4*x.acts.length⟩
def marksBk:Int→List Blk→List Blk
 | _,[]=>[]
 | k,s :: r=>markOfB k s :: marksBk (k+mkBN s) r
def sumMkB:List Blk→Nat
 | []=>0
 | s :: r=>mkBN s+sumMkB r
def offBk (L:List Blk) (j:Nat):Nat:=sumMkB (L.take j)
theorem sumMkB_append (l m:List Blk):sumMkB (l++m)=sumMkB l+sumMkB m:=by
 induction l with
 | nil=>simp [sumMkB]
 | cons a r ih=>simp only [List.cons_append,sumMkB,ih];omega
theorem marksBk_append (k:Int) (l m:List Blk):marksBk k (l++m)=marksBk k l++marksBk (k+(sumMkB l:Nat)) m:=by
 induction l generalizing k with
 | nil=>simp [marksBk,sumMkB]
 | cons a r ih =>
  simp only [List.cons_append,marksBk,ih,sumMkB]
  congr 3;omega
theorem marksBk_len (k:Int) (L:List Blk):(marksBk k L).length=L.length:=by
 induction L generalizing k with
 | nil=>rfl
 | cons a r ih=>simp [marksBk,ih]
theorem marksBk_next (k:Int) (L:List Blk) (j:Nat) (h:j < L.length):marksBk k (L.take (j+1))=marksBk k (L.take j)++[markOfB (k+offBk L j) (L.getD j noBlk)]:=by
 rw [takeB_one L j h,marksBk_append];rfl
theorem offBk_next (L:List Blk) (j:Nat) (h:j < L.length):offBk L (j+1)=offBk L j+mkBN (L.getD j noBlk):=by
 unfold offBk;rw [takeB_one L j h,sumMkB_append];simp [sumMkB]
def markBkTo (k:Int) (L:List Blk) (j:Nat):List Blk:=marksBk k (L.take j)++L.drop j
theorem markBkTo_len (k:Int) (L:List Blk) (j:Nat) (h:j≤L.length):(markBkTo k L j).length=L.length:=by
 simp [markBkTo,marksBk_len];omega
theorem markBkTo_zero (k:Int) (L:List Blk):markBkTo k L 0=L:=by simp [markBkTo,marksBk]
theorem markBkTo_all (k:Int) (L:List Blk):markBkTo k L L.length=marksBk k L:=by simp [markBkTo]
theorem markBkTo_get (k:Int) (L:List Blk) (j:Nat) (h:j < L.length):(markBkTo k L j).getD j noBlk=L.getD j noBlk:=by
 have e:(marksBk k (L.take j)).length=j:=by rw [marksBk_len,List.length_take];omega
 unfold markBkTo
 rw [List.getD_eq_getElem?_getD,List.getElem?_append_right (by rw [e];exact Nat.le_refl _),e,Nat.sub_self,List.getElem?_drop,Nat.add_zero,List.getD_eq_getElem?_getD]
theorem markBkTo_set (k:Int) (L:List Blk) (j:Nat) (h:j < L.length):(markBkTo k L j).set j (markOfB (k+offBk L j) (L.getD j noBlk))=markBkTo k L (j+1):=by
 have e:(marksBk k (L.take j)).length=j:=by rw [marksBk_len,List.length_take];omega
 unfold markBkTo
 rw [marksBk_next k L j h,List.set_append_right _ _ (by rw [e];exact Nat.le_refl _),e,Nat.sub_self,List.drop_eq_getElem_cons h,List.set_cons_zero,List.append_assoc]
 rfl
theorem sumMkB_eq (L:List Blk):sumMkB L=5*L.length+4*sumBk L:=by
 induction L with
 | nil=>rfl
 | cons a r ih=>simp only [sumMkB,sumBk,List.length_cons,ih,mkBN];omega
theorem offBk_le (L:List Blk) (j:Nat):offBk L j≤5*wtBks L:=by
 have h1:=sumBk_take L j
 have h2:(L.take j).length≤L.length:=by rw [List.length_take];omega
 unfold offBk wtBks;rw [sumMkB_eq];omega
/-! One row among the others;one block among the others. -/
theorem OwnR.markB {w w':World} {B T:Nat} {R1 R2:List Rw} {r r':Rw} (h:OwnR w B T (R1++r :: R2)) (ho:w'.ownsRow B r'.e r'.size r'.v r'.n r'.cs) (hv:r'.v=r.v) (hg:w.grownBy w' r.v.ownBlock):OwnR w' B T (R1++r' :: R2) :=
 ((h.perm List.perm_middle).grow ho hg (.inl (by rw [hv])) (Nat.le_refl _) (.inr (by rw [hv]))).perm List.perm_middle.symm
theorem OwnR.turnOfB {w w':World} {B T:Nat} {R:List Rw} {r:Rw} (h:OwnR w B T R) (hr:r∈R) (hg:w.grownBy w' r.v.ownBlock):Turn B T w w' :=
 Turn.ofGrown hg fun k hk=>by have:=h.ge hr (b:=k) (by rw [owns_blk (h.own r hr)];exact hk);exact ⟨this.1,this.2.1⟩
theorem bk_split {L:List Blk} {ts:List Value} (hl:ts.length=L.length) {j:Nat} (hj:j < L.length) (s':Blk) :
  (L.set j s').zip ts=(L.take j).zip (ts.take j)++(s',ts.getD j undef) :: (L.drop (j+1)).zip (ts.drop (j+1)):=by
 have e1:L.set j s'=L.take j++s' :: L.drop (j+1):=by rw [List.set_eq_take_append_cons_drop,if_pos hj]
 have e2:ts=ts.take j++ts.getD j undef :: ts.drop (j+1):=by
  rw [List.getD_eq_getElem?_getD,List.getElem?_eq_getElem (by omega),Option.getD_some,← List.drop_eq_getElem_cons (by omega),List.take_append_drop]
 rw [e1]
 conv=>lhs;rw [e2]
 rw [List.zip_append (by simp;omega),List.zip_cons_cons]
theorem setB_self {L:List Blk} {j:Nat} (hj:j < L.length):L.set j (L.getD j noBlk)=L:=by
 rw [List.getD_eq_getElem?_getD,List.getElem?_eq_getElem hj];simp
def bkB (tA:TypeId) (L:List Blk) (ts:List Value) (j:Nat):List Rw:=((L.take j).zip (ts.take j)).map fun p=>bkR tA p.1 p.2
def bkA (tA:TypeId) (L:List Blk) (ts:List Value) (j:Nat):List Rw:=((L.drop (j+1)).zip (ts.drop (j+1))).map fun p=>bkR tA p.1 p.2
theorem bksRs_set {tA:TypeId} {L:List Blk} {ts:List Value} (hl:ts.length=L.length) {j:Nat} (hj:j < L.length) (s':Blk) :
  bksRs tA (L.set j s') ts=bkB tA L ts j++(bkR tA s' (ts.getD j undef) :: bkA tA L ts j):=by
 unfold bksRs bkB bkA
 rw [bk_split hl hj,List.map_append,List.map_cons]
theorem bksRs_at {tA:TypeId} {L:List Blk} {ts:List Value} (hl:ts.length=L.length) {j:Nat} (hj:j < L.length) :
  bksRs tA L ts=bkB tA L ts j++(bkR tA (L.getD j noBlk) (ts.getD j undef) :: bkA tA L ts j):=by
 have:=bksRs_set (tA:=tA) hl hj (L.getD j noBlk)
 rwa [setB_self hj] at this
theorem bkzip_set {L:List Blk} {ts:List Value} (hl:ts.length=L.length) {j:Nat} (hj:j < L.length) (s':Blk):(L.zip ts).set j (s',ts.getD j undef)=(L.set j s').zip ts:=by
 apply List.ext_getElem?
 intro i
 rw [List.getElem?_set]
 by_cases e:j=i
 · subst e
   rw [if_pos rfl,if_pos (by simp;omega),bzip_get (by simpa using hl) (by simpa using hj)]
   congr 2
   rw [List.getD_eq_getElem?_getD,List.getElem?_set_self hj];rfl
 · rw [if_neg e]
   by_cases hi:i < L.length
   · rw [bzip_get hl hi,bzip_get (by simpa using hl) (by simpa using hi)]
     congr 2
     rw [List.getD_eq_getElem?_getD,List.getD_eq_getElem?_getD,List.getElem?_set_ne e]
   · rw [List.getElem?_eq_none (by simp;omega),List.getElem?_eq_none (by simp;omega)]
theorem bksCs_set {L:List Blk} {ts:List Value} (hl:ts.length=L.length) {j:Nat} (hj:j < L.length) (s':Blk) (i:Nat) (hi:i < 6) (c:Value)
  (h:bkCs s' (ts.getD j undef)=(bkCs (L.getD j noBlk) (ts.getD j undef)).set i c):(bksCs L ts).set (j*6+i) c=bksCs (L.set j s') ts:=by
 unfold bksCs
 rw [← bkzip_set hl hj]
 exact (flatMap_set (fun p:Blk × Value=>bkCs p.1 p.2) 6 (fun _=>rfl) (L.zip ts) j i _ _ c (bzip_get hl hj) hi h).symm
theorem getD_setB (L:List Blk) (j:Nat) (x:Blk) (h:j < L.length):(L.set j x).getD j noBlk=x:=by
 rw [List.getD_eq_getElem?_getD,List.getElem?_set_self h];rfl
theorem bksCs_set2 {L:List Blk} {ts:List Value} (hl:ts.length=L.length) {j:Nat} (hj:j < L.length) (s s':Blk) (i:Nat) (hi:i < 6) (c:Value)
  (h:bkCs s' (ts.getD j undef)=(bkCs s (ts.getD j undef)).set i c):(bksCs (L.set j s) ts).set (j*6+i) c=bksCs (L.set j s') ts:=by
 have:=bksCs_set (L:=L.set j s) (ts:=ts) (by rw [List.length_set];exact hl) (j:=j) (by rw [List.length_set];exact hj) s' i hi c (by rw [getD_setB _ _ _ hj];exact h)
 rw [this,List.set_set]
def MarkedBk (w:World) (B T:Nat) (v:Value) (k:Int) (L:List Blk) (ts:List Value) (R:List Rw) (e:Ending) (w':World):Prop :=
 e = .returned (.int .i64 (k+(offBk L L.length:Nat)))∧OwnR w' B T (⟨v,37,6,L.length,bksCs (marksBk k L) ts⟩ :: (bksRs 113 (marksBk k L) ts++R))∧Turn B T w w'
set_option maxRecDepth 100000 in
set_option maxHeartbeats 4000000 in
theorem markBlockS_own (B T:Nat) (v:Value) (L:List Blk) (ts:List Value) (R:List Rw) (k:Int) (w:World) (hl:ts.length=L.length) (h:OwnR w B T (⟨v,37,6,L.length,bksCs L ts⟩ :: (bksRs 113 L ts++R))) (hw:wtBks L≤2000000) (hk0:0≤k) (hk1:k≤10000000) :
  Calls Tryz.prog 109 #[v,.int .i64 k] w (MarkedBk w B T v k L ts R):=by
 have hlen:L.length≤2000000:=by unfold wtBks at hw;omega
 rcases slice_of_owns h.head with ⟨hv,hn⟩ | ⟨g,cap,hv,hBg,hgw,hnc,hcm⟩
 · simp only at hv hn
   have hL:L=[]:=List.eq_nil_of_length_eq_zero hn
   subst hv hL
   have HO:=Lib.hid h
   clear h hl hn
   go_enter Tryz.func109,Tryz.ntmps109
   go_wp2
   go_loop [1,5] (fun q i=>q = .int .i64 k∧i = .int .i64 0) (fun _ _=>0)
   case atStart=>exact ⟨rfl,rfl⟩
   case round =>
    obtain ⟨rfl,rfl⟩:=hrel
    go_wp2
    go_ret
    exact ⟨ret_int (by simp [offBk,sumMkB]),HO.out,Turn.refl _ _ _⟩
 · simp only at hv
   subst hv
   obtain ⟨n,hn⟩:∃ n,n=L.length:=⟨_,rfl⟩
   have hgT:g < T:=h.lt _ List.mem_cons_self g rfl
   have hm0:OwnR w B T (⟨.slice (some ⟨g,0,none⟩) n cap,37,6,n,bksCs (markBkTo k L 0) ts⟩ :: (bksRs 113 (markBkTo k L 0) ts++R)):=by rw [markBkTo_zero,hn];exact h
   have HN:=Lib.hid hn.symm
   have HTL:=Lib.hid hl
   have HOF:=Lib.hid (fun j=>offBk_le L j)
   rw [← hn] at hlen hnc ⊢
   clear h hl hn
   go_enter Tryz.func109,Tryz.ntmps109
   go_wp2
   go_loopw [1,5] (fun q i wr=>∃ j:Nat,j≤n∧i = .int .i64 j∧q = .int .i64 (k+(offBk L j:Nat))∧OwnR wr B T (⟨.slice (some ⟨g,0,none⟩) n cap,37,6,n,bksCs (markBkTo k L j) ts⟩ :: (bksRs 113 (markBkTo k L j) ts++R))∧Turn B T w wr) (fun _ i _=>n - (intOf i).toNat)
   case atStart=>exact ⟨0,Nat.zero_le _,rfl,by simp [offBk,sumMkB],hm0,Turn.refl _ _ _⟩
   case round =>
    clear hm0
    obtain ⟨j,hj,rfl,rfl,hO,ht⟩:=hrel
    by_cases hlt:j < n
    · have hjL:j < L.length:=by rw [HN.out];exact hlt
      have hjM:j < (markBkTo k L j).length:=by rw [markBkTo_len k L j (by omega)];exact hjL
      have htM:ts.length=(markBkTo k L j).length:=by rw [markBkTo_len k L j (by omega)];exact HTL.out
      have hof:=HOF.out j
      have HNX:=Lib.hid (offBk_next L j hjL)
      have HST:=Lib.hid (markBkTo_set k L j hjL)
      have hget:=markBkTo_get k L j hjL
      obtain ⟨M,hM⟩:∃ M,M=markBkTo k L j:=⟨_,rfl⟩
      rw [← hM] at hjM htM HST hget hO
      clear hM
      obtain ⟨q,hq⟩:∃ q,q=offBk L j:=⟨_,rfl⟩
      rw [← hq] at hof HNX HST ⊢
      have hsw:(L.getD j noBlk).acts.length≤2000000:=by have:=sumBk_len L j hjL;unfold wtBks at hw;omega
      obtain ⟨x,hx⟩:∃ x,x=L.getD j noBlk:=⟨_,rfl⟩
      rw [← hx] at HNX HST hget hsw
      clear hq hx hjL
      obtain ⟨K,hK⟩:∃ K,K=k+(q:Int):=⟨_,rfl⟩
      rw [← hK] at HST ⊢
      have hK0:0≤K:=by omega
      have hK1:K≤20000000:=by omega
      obtain ⟨na,hna⟩:∃ m,m=x.acts.length:=⟨_,rfl⟩
      have HLA:=Lib.hid hna.symm
      have hmf:markOfB K x=⟨K,K+1,K+1+1,marksA (K+1+1+1) na,K+1+1+1+4*na,K+1+1+1+4*na+1⟩:=by
       unfold markOfB
       rw [← hna,show K+2=K+1+1 by omega,show K+3=K+1+1+1 by omega,show K+4+4*(na:Int)=K+1+1+1+4*(na:Int)+1 by omega]
      rw [hmf] at HST
      have hmN:mkBN x=5+4*na:=by unfold mkBN;rw [hna]
      rw [hmN] at HNX
      rw [← hna] at hsw
      have HKN:Hid (K+1+1+1+4*(na:Int)+1+1=k+(offBk L (j+1):Nat)):=Lib.hid (by rw [HNX.out,hK];omega)
      obtain ⟨t,ht9⟩:∃ t,t=ts.getD j undef:=⟨_,rfl⟩
      have hsp:=bksRs_at (tA:=113) htM hjM
      have HSP:=Lib.hid (fun s'=>bksRs_set (tA:=113) htM hjM s')
      rw [hget,← ht9] at hsp
      rw [← ht9] at HSP
      obtain ⟨PB,hPB⟩:∃ P,P=bkB 113 M ts j:=⟨_,rfl⟩
      obtain ⟨PA,hPA⟩:∃ P,P=bkA 113 M ts j:=⟨_,rfl⟩
      rw [← hPB,← hPA] at hsp HSP
      clear hPB hPA
      have HC1:=Lib.hid (bksCs_set htM hjM ⟨K,x.hgt,x.view,x.acts,x.root,x.effs⟩ 0 (by omega) (.int .i64 K) (by rw [hget];rfl))
      have HC2:=Lib.hid (bksCs_set2 htM hjM ⟨K,x.hgt,x.view,x.acts,x.root,x.effs⟩ ⟨K,K+1,x.view,x.acts,x.root,x.effs⟩ 1 (by omega) (.int .i64 (K+1)) rfl)
      have HC3:=Lib.hid (bksCs_set2 htM hjM ⟨K,K+1,x.view,x.acts,x.root,x.effs⟩ ⟨K,K+1,K+1+1,x.acts,x.root,x.effs⟩ 2 (by omega) (.int .i64 (K+1+1)) rfl)
      have HC5:=Lib.hid (bksCs_set2 htM hjM ⟨K,K+1,K+1+1,x.acts,x.root,x.effs⟩ ⟨K,K+1,K+1+1,marksA (K+1+1+1) na,K+1+1+1+4*na,x.effs⟩ 4 (by omega) (.int .i64 (K+1+1+1+4*na)) rfl)
      have HC6:=Lib.hid (bksCs_set2 htM hjM ⟨K,K+1,K+1+1,marksA (K+1+1+1) na,K+1+1+1+4*na,x.effs⟩ ⟨K,K+1,K+1+1,marksA (K+1+1+1) na,K+1+1+1+4*na,K+1+1+1+4*na+1⟩ 5 (by omega) (.int .i64 (K+1+1+1+4*na+1)) rfl)
      have HGC:Hid (∀ (s':Blk) (i:Nat),i < 6→(bksCs (M.set j s') ts)[j*6+i]? = [.int .i64 s'.bef,.int .i64 s'.hgt,.int .i64 s'.view,t,.int .i64 s'.root,.int .i64 s'.effs][i]?):=Lib.hid (fun s' i hi=>by
       rw [bksCs_get (L:=M.set j s') (ts:=ts) (by rw [List.length_set];exact htM) (by rw [List.length_set];exact hjM) hi,getD_setB _ _ _ hjM,← ht9];rfl)
      have HG0:Hid (∀ (i:Nat),i < 6→(bksCs M ts)[j*6+i]? = [.int .i64 x.bef,.int .i64 x.hgt,.int .i64 x.view,t,.int .i64 x.root,.int .i64 x.effs][i]?):=Lib.hid (fun i hi=>by
       rw [bksCs_get htM hjM hi,hget,← ht9];rfl)
      rw [hsp,List.append_assoc] at hO
      have hO0:OwnR wr B T (⟨.slice (some ⟨g,0,none⟩) n cap,37,6,n,bksCs M ts⟩ :: (PB++(⟨t,113,4,na,flatA x.acts⟩ :: (PA++R)))):=by simpa [bkR,← hna] using hO
      have hi6:∀ i,i < 6→j*6+i < n*6:=fun i hi=>by omega
      have i1:(0:Int)≤(j:Int):=by omega
      have i2:(j:Int) < (n:Int):=by omega
      clear hO hsp hget hof hmf hmN ht9 hK hna
      have c0:=(hO0.head.cellAt (j*6+0) (hi6 0 (by omega))).trans (HG0.out 0 (by omega))
      have f0:=hO0.head.frozenAt (j*6+0)
      simp only [Nat.add_zero,List.getElem?_cons_zero,List.getElem?_cons_succ] at c0 f0
      have hO1:=hO0.store (j*6) (.int .i64 K)
      rw [show (bksCs M ts).set (j*6) (Value.int .i64 K) = _ from HC1.out] at hO1
      have ht1:=ht.setCell ⟨hBg,hgT⟩ (j*6) (.int .i64 K)
      clear hO0 ht
      go_upto_region 5 with (fail)
      generalize hw9:World.setCell wr _ _=w1
      have hw9':wr.setCell ⟨g,j*6,none⟩ (.int .i64 K)=w1:=hw9
      rw [hw9'] at hO1 ht1
      clear hw9 hw9' c0 f0
      have c1:=(hO1.head.cellAt (j*6+1) (hi6 1 (by omega))).trans (HGC.out _ 1 (by omega))
      have f1:=hO1.head.frozenAt (j*6+1)
      simp only [Nat.add_zero,List.getElem?_cons_zero,List.getElem?_cons_succ] at c1 f1
      have hO2:=hO1.store (j*6+1) (.int .i64 (K+1))
      rw [HC2.out] at hO2
      have ht2:=ht1.setCell ⟨hBg,hgT⟩ (j*6+1) (.int .i64 (K+1))
      clear hO1 ht1
      go_upto_region 7 with (fail)
      generalize hw9:World.setCell w1 _ _=w2
      have hw9':w1.setCell ⟨g,j*6+1,none⟩ (.int .i64 (K+1))=w2:=hw9
      rw [hw9'] at hO2 ht2
      clear hw9 hw9' c1 f1
      have c2:=(hO2.head.cellAt (j*6+2) (hi6 2 (by omega))).trans (HGC.out _ 2 (by omega))
      have f2:=hO2.head.frozenAt (j*6+2)
      simp only [Nat.add_zero,List.getElem?_cons_zero,List.getElem?_cons_succ] at c2 f2
      have hO3:=hO2.store (j*6+2) (.int .i64 (K+1+1))
      rw [HC3.out] at hO3
      have ht3:=ht2.setCell ⟨hBg,hgT⟩ (j*6+2) (.int .i64 (K+1+1))
      clear hO2 ht2
      go_upto_region 9 with (fail)
      generalize hw9:World.setCell w2 _ _=w3
      have hw9':w2.setCell ⟨g,j*6+2,none⟩ (.int .i64 (K+1+1))=w3:=hw9
      rw [hw9'] at hO3 ht3
      clear hw9 hw9' c2 f2
      have c3:=(hO3.head.cellAt (j*6+3) (hi6 3 (by omega))).trans (HGC.out _ 3 (by omega))
      have f3:=hO3.head.frozenAt (j*6+3)
      simp only [Nat.add_zero,List.getElem?_cons_zero,List.getElem?_cons_succ] at c3 f3
      have HOX:=Lib.hid (hO3.own ⟨t,113,4,na,flatA x.acts⟩ (by simp))
      go_wp2_with fail
      refine (markActionS_own B t na x.acts _ _ HOX.out HLA.out (by omega) (by omega) (by omega)).mono ?_;rintro e w4 ⟨rfl,ho4,hg4⟩
      have ht4:=ht3.trans (hO3.turnOfB (r:=⟨t,113,4,na,flatA x.acts⟩) (by simp) hg4)
      have hO4:OwnR w4 B T (⟨.slice (some ⟨g,0,none⟩) n cap,37,6,n,bksCs (M.set j ⟨K,K+1,K+1+1,x.acts,x.root,x.effs⟩) ts⟩ :: (PB++(⟨t,113,4,na,flatA (marksA (K+1+1+1) na)⟩ :: (PA++R)))):=by
       have:=OwnR.markB (R1:=⟨.slice (some ⟨g,0,none⟩) n cap,37,6,n,bksCs (M.set j ⟨K,K+1,K+1+1,x.acts,x.root,x.effs⟩) ts⟩ :: PB) (r:=⟨t,113,4,na,flatA x.acts⟩) (r':=⟨t,113,4,na,flatA (marksA (K+1+1+1) na)⟩) (by simpa using hO3) ho4 rfl hg4
       simpa using this
      clear hO3 ht3 ho4 hg4 c3 f3 HOX
      have c4:=(hO4.head.cellAt (j*6+4) (hi6 4 (by omega))).trans (HGC.out _ 4 (by omega))
      have f4:=hO4.head.frozenAt (j*6+4)
      simp only [Nat.add_zero,List.getElem?_cons_zero,List.getElem?_cons_succ] at c4 f4
      have hO5:=hO4.store (j*6+4) (.int .i64 (K+1+1+1+4*na))
      rw [HC5.out] at hO5
      have ht5:=ht4.setCell ⟨hBg,hgT⟩ (j*6+4) (.int .i64 (K+1+1+1+4*na))
      clear hO4 ht4
      go_upto_region 12 with (fail)
      generalize hw9:World.setCell w4 _ _=w5
      have hw9':w4.setCell ⟨g,j*6+4,none⟩ (.int .i64 (K+1+1+1+4*na))=w5:=hw9
      rw [hw9'] at hO5 ht5
      clear hw9 hw9' c4 f4
      have c5:=(hO5.head.cellAt (j*6+5) (hi6 5 (by omega))).trans (HGC.out _ 5 (by omega))
      have f5:=hO5.head.frozenAt (j*6+5)
      simp only [Nat.add_zero,List.getElem?_cons_zero,List.getElem?_cons_succ] at c5 f5
      have hO6:=hO5.store (j*6+5) (.int .i64 (K+1+1+1+4*na+1))
      rw [HC6.out] at hO6
      have ht6:=ht5.setCell ⟨hBg,hgT⟩ (j*6+5) (.int .i64 (K+1+1+1+4*na+1))
      clear hO5 ht5
      go_upto_region 14 with (fail)
      generalize hw9:World.setCell w5 _ _=w6
      have hw9':w5.setCell ⟨g,j*6+5,none⟩ (.int .i64 (K+1+1+1+4*na+1))=w6:=hw9
      rw [hw9'] at hO6 ht6
      clear hw9 hw9' c5 f5
      have hO7:OwnR w6 B T (⟨.slice (some ⟨g,0,none⟩) n cap,37,6,n,bksCs (M.set j ⟨K,K+1,K+1+1,marksA (K+1+1+1) na,K+1+1+1+4*na,K+1+1+1+4*na+1⟩) ts⟩ :: (bksRs 113 (M.set j ⟨K,K+1,K+1+1,marksA (K+1+1+1) na,K+1+1+1+4*na,K+1+1+1+4*na+1⟩) ts++R)):=by
       rw [HSP.out]
       simpa [bkR,marksA_len] using hO6
      rw [HST.out] at hO7
      have HO7:=Lib.hid hO7
      have HT7:=Lib.hid ht6
      clear hO6 ht6 hO7 HC1 HC2 HC3 HC5 HC6 HGC HG0 HSP HST
      go_wp2
      go_roundw
      case rel=>exact ⟨j+1,by omega,by go_num,by rw [← HKN.out],HO7.out,HT7.out⟩
      case measure=>simp [intOf];omega
    · obtain rfl:n=j:=by omega
      have HE:Hid (markBkTo k L n=marksBk k L):=Lib.hid (by rw [← HN.out];exact markBkTo_all k L)
      rw [HE.out] at hO
      have HO:=Lib.hid hO
      have HT:=Lib.hid ht
      clear hO ht HOF
      go_wp2
      go_ret
      exact ⟨ret_int (by rw [HN.out]),by rw [HN.out];exact HO.out,HT.out⟩
def markedTre (k:Int) (t:Tre):Tre:=⟨marksE k t.base.length,marksBk (k+2*t.base.length) t.blocks,marksI (k+2*t.base.length+(offBk t.blocks t.blocks.length:Nat)) t.bef.length⟩
def mkTreN (t:Tre):Nat:=2*t.base.length+offBk t.blocks t.blocks.length+t.bef.length
set_option maxRecDepth 100000 in
set_option maxHeartbeats 4000000 in
theorem markBlockTree_own (B T:Nat) (v1 v2 v3:Value) (t:Tre) (ts:List Value) (k:Int) (w:World) (h:TreOwn w B T tTre v1 v2 v3 t ts) (h1:t.base.length≤1048576) (h2:wtBks t.blocks≤1048576) (h3:t.bef.length≤1048576) (hk0:0≤k) (hk1:k≤1000) (hT:T≤w.heap.size) :
  Calls Tryz.prog 40 #[.agg #[v1,v2,v3],.int .i64 k] w fun en w'=>en = .returned (.int .i64 (k+(mkTreN t:Nat)))∧OwnR w' B T (treRs tTre v1 v2 v3 (markedTre k t) ts)∧Turn B T w w':=by
 obtain ⟨htl,ho,hwf⟩:=h
 have hrd:TreRd w v1 v2 v3 t:=TreOwn.rd ⟨htl,ho,hwf⟩
 obtain ⟨⟨a1,m1,c1,rfl,-⟩,⟨a2,m2,c2,rfl,-⟩,a3,m3,c3,rfl,-⟩:=hrd
 have hwt:Turn B T w (w.alloc (.cells #[.slice a1 m1 c1,.slice a2 m2 c2,.slice a3 m3 c3] 27)):=(Turn.refl B T w).alloc _
 have hb0:=(Below.refl w.heap.size w).alloc (Nat.le_refl _) (.cells #[.slice a1 m1 c1,.slice a2 m2 c2,.slice a3 m3 c3] 27)
 have hg0:=trAt_new w 27 (.slice a1 m1 c1) (.slice a2 m2 c2) (.slice a3 m3 c3)
 obtain ⟨W,hW⟩:∃ W,W=w.alloc (.cells #[.slice a1 m1 c1,.slice a2 m2 c2,.slice a3 m3 c3] 27):=⟨_,rfl⟩
 rw [← hW] at hb0 hg0 hwt
 have HW:=Lib.hid hW
 have hzb:w.heap.size < W.heap.size:=by rw [hW];simp
 clear hW
 obtain ⟨n1,hn1⟩:∃ n,n=t.base.length:=⟨_,rfl⟩
 obtain ⟨n3,hn3⟩:∃ n,n=t.bef.length:=⟨_,rfl⟩
 obtain ⟨nq,hnq⟩:∃ n,n=offBk t.blocks t.blocks.length:=⟨_,rfl⟩
 have hq1:nq≤5*1048576:=by have:=offBk_le t.blocks t.blocks.length;omega
 have HE:Hid (markedTre k t=⟨marksE k n1,marksBk (k+2*n1) t.blocks,marksI (k+2*n1+(nq:Nat)) n3⟩):=Lib.hid (by rw [hn1,hn3,hnq];rfl)
 have HMN:Hid ((mkTreN t:Nat)=2*n1+nq+n3):=Lib.hid (by rw [hn1,hn3,hnq];rfl)
 have HN1:=Lib.hid hn1.symm
 have HN3:=Lib.hid hn3.symm
 have HNQ:=Lib.hid hnq.symm
 have HTL:=Lib.hid htl
 have ho1:OwnR W B T (⟨.slice a1 m1 c1,142,2,n1,flatE t.base⟩ :: ⟨.slice a3 m3 c3,3,1,n3,t.bef.map (Value.int .i64)⟩ :: ⟨.slice a2 m2 c2,37,6,t.blocks.length,bksCs t.blocks ts⟩ :: bksRs 113 t.blocks ts):=by
  have:=ho.below hb0
  unfold treRs bksAll at this
  rw [← hn1,← hn3] at this
  exact this
 rw [← hn1] at h1
 rw [← hn3] at h3
 have HH2:=Lib.hid h2
 clear ho hwf hn1 hn3 hnq htl hb0 h2
 have HG:=Lib.hid hg0
 obtain ⟨q0,q1,q2,-⟩:=hg0
 go_enter Tryz.func40,Tryz.ntmps40
 go_upto_region 1 with (fail)
 rw [← HW.out]
 clear HW
 have HO1:=Lib.hid ho1
 clear ho1
 go_wp2_with fail
 refine (markEntryS_own B n1 (.slice a1 m1 c1) t.base k _ HO1.out.head HN1.out (by omega) (by omega) (by omega)).mono ?_;rintro e1 w2 ⟨rfl,ho2,hg2⟩
 have ht2:=HO1.out.turnOfB (r:=⟨.slice a1 m1 c1,142,2,n1,flatE t.base⟩) List.mem_cons_self hg2
 have HG2:=Lib.hid (HG.out.keep (ht2.block _ hzb (.inr hT)))
 have HO2:=Lib.hid (HO1.out.markB (R1:=[]) (r':=⟨.slice a1 m1 c1,142,2,n1,flatE (marksE k n1)⟩) ho2 rfl hg2)
 have HT2:=Lib.hid (hwt.trans ht2)
 have hz2:w.heap.size < w2.heap.size:=HG2.out.lt
 clear ho2 hg2 ht2 hwt hzb q0 q1 q2 HO1 HG
 obtain ⟨q0,q1,q2,-⟩:=HG2.out
 go_wp2_with fail
 refine (markBlockS_own B T (.slice a2 m2 c2) t.blocks ts [⟨.slice a1 m1 c1,142,2,n1,flatE (marksE k n1)⟩,⟨.slice a3 m3 c3,3,1,n3,t.bef.map (Value.int .i64)⟩] _ _ HTL.out (HO2.out.perm (by
  simp only [List.nil_append]
  exact List.perm_append_comm (l₁:=[_,_]) (l₂:=_ :: _))) (by have:=HH2.out;omega) (by omega) (by omega)).mono ?_;rintro e1 w3 ⟨rfl,ho3,ht3⟩
 have HG3:=Lib.hid (HG2.out.keep (ht3.block _ hz2 (.inr hT)))
 have HO3:=Lib.hid ho3
 have HT3:=Lib.hid (HT2.out.trans ht3)
 have hz3:w.heap.size < w3.heap.size:=HG3.out.lt
 rw [HNQ.out]
 clear ho3 ht3 hz2 q0 q1 q2 HO2 HG2 HT2
 obtain ⟨q0,q1,q2,-⟩:=HG3.out
 go_wp2_with fail
 refine (markIntS_own B n3 (.slice a3 m3 c3) t.bef _ _ (HO3.out.own ⟨.slice a3 m3 c3,3,1,n3,t.bef.map (Value.int .i64)⟩ (by simp)) HN3.out (by omega) (by omega) (by omega)).mono ?_;rintro e1 w4 ⟨rfl,ho4,hg4⟩
 have ht4:=HO3.out.turnOfB (r:=⟨.slice a3 m3 c3,3,1,n3,t.bef.map (Value.int .i64)⟩) (by simp) hg4
 have HT4:=Lib.hid (HT3.out.trans ht4)
 have HO4:Hid (OwnR w4 B T (treRs tTre (.slice a1 m1 c1) (.slice a2 m2 c2) (.slice a3 m3 c3) (markedTre k t) ts)):=Lib.hid (by
  have:=OwnR.markB (R1:=⟨.slice a2 m2 c2,37,6,t.blocks.length,bksCs (marksBk (k+2*n1) t.blocks) ts⟩ :: (bksRs 113 (marksBk (k+2*n1) t.blocks) ts++[⟨.slice a1 m1 c1,142,2,n1,flatE (marksE k n1)⟩])) (r:=⟨.slice a3 m3 c3,3,1,n3,t.bef.map (Value.int .i64)⟩) (r':=⟨.slice a3 m3 c3,3,1,n3,(marksI (k+2*n1+(nq:Nat)) n3).map (Value.int .i64)⟩) (R2:=[]) (by simpa using HO3.out) ho4 rfl hg4
  rw [HE.out]
  unfold treRs bksAll
  simp only [marksE_len,marksI_len,marksBk_len]
  refine this.perm ?_
  have:=List.perm_append_comm (l₁:=⟨.slice a2 m2 c2,37,6,t.blocks.length,bksCs (marksBk (k+2*n1) t.blocks) ts⟩ :: bksRs 113 (marksBk (k+2*n1) t.blocks) ts) (l₂:=[⟨.slice a1 m1 c1,142,2,n1,flatE (marksE k n1)⟩,⟨.slice a3 m3 c3,3,1,n3,(marksI (k+2*n1+(nq:Nat)) n3).map (Value.int .i64)⟩])
  simpa [tTre] using this)
 clear ho4 hg4 ht4 HO3 HT3 HG3 q0 q1 q2
 go_wp2
 go_ret
 exact ⟨ret_int (by rw [HMN.out];push_cast;omega),HO4.out,HT4.out⟩
theorem owns_turnP {w w':World} {B C T:Nat} {e:TypeId} {size n:Nat} {v:Value} {xs:List Value} (h:w.ownsRow B e size v n xs) (ht:Turn C T w w') (hd:∀ b,blk v=some b→b < C∨T≤b):w'.ownsRow B e size v n xs :=
 owns_keep h (fun b hb=>by have h2:=hb;rw [owns_blk h] at h2;exact ht.block b (h.lt b h2).2 (hd b hb))
theorem owns_lo {w:World} {B:Nat} {e:TypeId} {size n:Nat} {v:Value} {xs:List Value} (h:w.ownsRow B e size v n xs):∀ b,blk v=some b→B≤b:=fun b hb=>by
 rw [owns_blk h] at hb;exact (h.lt b hb).1
theorem owns_hi {w:World} {B:Nat} {e:TypeId} {size n:Nat} {v:Value} {xs:List Value} (h:w.ownsRow B e size v n xs):∀ b,blk v=some b→b < w.heap.size:=fun b hb=>by
 rw [owns_blk h] at hb;exact (h.lt b hb).2
end Go.Proofs.YtpnjgmgmakmgeaaGreat
