/- Texts of ours that stand together: ComMath, CmtMath, BolMem, CertK, RevI, ImplCm, ImplCm2 -/
import Derived.Test.YtpnjgmgmakmgeaaGreatTrM
import Derived.Test.YtpnjgmgmakmgeaaGreatTrX
import Derived.Test.YtpnjgmgmakmgeaaGreatCtG
import Derived.Test.YtpnjgmgmakmgeaaGreatVerA
import Derived.Test.YtpnjgmgmakmgeaaGreatCore
import Derived.Test.YtpnjgmgmakmgeaaGreatTrFP
import Derived.OwnWalk
import Derived.RegionTactic
import Derived.BigQuiet
import Derived.Test.YtpnjgmgmakmgeaaGreatConv
import Derived.Test.YtpnjgmgmakmgeaaGreatImT
/- Rows of certified blocks and heads: plain mathematics. No function of the program is named here. -/
namespace Go.Proofs.YtpnjgmgmakmgeaaGreat
set_option linter.unusedVariables false
theorem getD_set_eqC {α : Type} (L:List α) (d x : α) {k:Nat} (h:k < L.length):(L.set k x).getD k d=x:=by
 rw [List.getD_eq_getElem?_getD,List.getElem?_set,if_pos rfl,if_pos h];rfl
theorem getD_set_neC {α : Type} (L:List α) (d x : α) {k i:Nat} (h:k≠i):(L.set k x).getD i d=L.getD i d:=by
 rw [List.getD_eq_getElem?_getD,List.getD_eq_getElem?_getD,List.getElem?_set,if_neg h]
def RowC (C:List Bool) (F:List Int) (V:Nat→Int) (n:Nat):Nat→Nat→Prop
 | 0,_=>True
 | m+1,i=>C.getD i false=true∧(m=0∨∃ c,c < n∧F.getD c 0=(i:Int)∧V c=V i+1∧RowC C F V n m c)
structure RowsTo (C:List Bool) (F:List Int) (V:Nat→Int) (n:Nat) (R:List Int) (k:Nat):Prop where
 len:R.length=n
 bd:∀ i,i < n→0≤R.getD i 0∧R.getD i 0≤(n:Int) - k
 row:∀ i,i < k→∀ m:Nat,((m:Int)+1≤R.getD i 0 ↔ ∃ c,k≤c∧c < n∧F.getD c 0=(i:Int)∧V c=V i+1∧RowC C F V n (m+1) c)
theorem rowsTo_new (C:List Bool) (F:List Int) (V:Nat→Int) (n:Nat):RowsTo C F V n (List.replicate n 0) n:=by
 have hg:∀ i,(List.replicate n (0:Int)).getD i 0=0:=fun i=>by
  rw [List.getD_eq_getElem?_getD,List.getElem?_replicate];split <;> rfl
 refine ⟨by simp,fun i hi=>by rw [hg];omega,fun i hi m=>?_⟩
 rw [hg]
 constructor
 · intro h;omega
 · rintro ⟨c,h1,h2,-⟩;omega
theorem RowsTo.skip {C:List Bool} {F:List Int} {V:Nat→Int} {n k:Nat} {R:List Int} (h:RowsTo C F V n R (k+1)) (hc:C.getD k false=false):RowsTo C F V n R k:=by
 refine ⟨h.len,fun i hi=>by have:=h.bd i hi;omega,fun i hi m=>?_⟩
 rw [h.row i (by omega) m]
 constructor
 · rintro ⟨c,h1,h2⟩;exact ⟨c,by omega,h2⟩
 · rintro ⟨c,h1,h2,h3,h4,h5⟩
   by_cases e:c=k
   · subst e;rw [RowC,hc] at h5;cases h5.1
   · exact ⟨c,by omega,h2,h3,h4,h5⟩
theorem RowsTo.head {C:List Bool} {F:List Int} {V:Nat→Int} {n k:Nat} {R:List Int} (h:RowsTo C F V n R (k+1)) (hF:∀ c,c < n→F.getD c 0 < c) (hc:C.getD k false=true) (m:Nat):(m:Int)+1≤R.getD k 0+1 ↔ RowC C F V n (m+1) k:=by
 rw [RowC]
 cases m with
 | zero =>
  constructor
  · intro _;exact ⟨hc,.inl rfl⟩
  · intro _
    by_cases hk:k < n
    · have:=(h.bd k hk).1;omega
    · have:R.getD k 0=0:=by rw [List.getD_eq_getElem?_getD,List.getElem?_eq_none (by rw [h.len];omega)];rfl
      omega
 | succ m =>
  have h1:=h.row k (by omega) m
  constructor
  · intro h2
    obtain ⟨c,e1,e2,e3,e4,e5⟩:=h1.1 (by push_cast at h2 ⊢;omega)
    exact ⟨hc,.inr ⟨c,e2,e3,e4,e5⟩⟩
  · rintro ⟨-,h2 | ⟨c,e1,e2,e3,e4⟩⟩
    · cases h2
    · have:=hF c e1
      have h3:=h1.2 ⟨c,by omega,e1,e2,e3,e4⟩
      push_cast at h3 ⊢;omega
theorem RowsTo.alone {C:List Bool} {F:List Int} {V:Nat→Int} {n k:Nat} {R:List Int} (h:RowsTo C F V n R (k+1)) (hk:k < n) (hn:∀ i:Nat,i < k→¬ (F.getD k 0=(i:Int)∧V k=V i+1)):RowsTo C F V n (R.set k (R.getD k 0+1)) k:=by
 have hg:∀ i,i≠k→(R.set k (R.getD k 0+1)).getD i 0=R.getD i 0:=fun i hi=>getD_set_neC _ _ _ (fun e=>hi e.symm)
 refine ⟨by rw [List.length_set,h.len],fun i hi=>?_,fun i hi m=>?_⟩
 · by_cases e:i=k
   · subst e;rw [getD_set_eqC _ _ _ (by rw [h.len];exact hk)];have:=h.bd i hk;omega
   · rw [hg i e];have:=h.bd i hi;omega
 · rw [hg i (by omega),h.row i (by omega) m]
   constructor
   · rintro ⟨c,h1,h2⟩;exact ⟨c,by omega,h2⟩
   · rintro ⟨c,h1,h2,h3,h4,h5⟩
     by_cases e:c=k
     · subst e;exact absurd ⟨h3,h4⟩ (hn i hi)
     · exact ⟨c,by omega,h2,h3,h4,h5⟩
theorem RowsTo.take {C:List Bool} {F:List Int} {V:Nat→Int} {n k p:Nat} {R:List Int} {x:Int} (h:RowsTo C F V n R (k+1)) (hF:∀ c,c < n→F.getD c 0 < c) (hc:C.getD k false=true) (hk:k < n) (hp:F.getD k 0=(p:Int)) (hv:V k=V p+1)
  (hx:x=if R.getD p 0 < R.getD k 0+1 then R.getD k 0+1 else R.getD p 0):RowsTo C F V n ((R.set k (R.getD k 0+1)).set p x) k:=by
 have hpk:p < k:=by have:=hF k hk;omega
 have hb:=h.bd k hk
 have hbp:=h.bd p (by omega)
 have hgp:((R.set k (R.getD k 0+1)).set p x).getD p 0=x:=getD_set_eqC _ _ _ (by rw [List.length_set,h.len];omega)
 have hg:∀ i,i≠k→i≠p→((R.set k (R.getD k 0+1)).set p x).getD i 0=R.getD i 0:=fun i hi hip=>by
  rw [getD_set_neC _ _ _ (fun e=>hip e.symm),getD_set_neC _ _ _ (fun e=>hi e.symm)]
 have hgk:((R.set k (R.getD k 0+1)).set p x).getD k 0=R.getD k 0+1:=by
  rw [getD_set_neC _ _ _ (by omega),getD_set_eqC _ _ _ (by rw [h.len];exact hk)]
 have hhd:=h.head hF hc
 refine ⟨by rw [List.length_set,List.length_set,h.len],fun i hi=>?_,fun i hi m=>?_⟩
 · by_cases e:i=k
   · subst e;rw [hgk];omega
   · by_cases e2:i=p
     · subst e2;rw [hgp,hx];split <;> omega
     · rw [hg i e e2];have:=h.bd i hi;omega
 · by_cases e2:i=p
   · subst e2
     rw [hgp]
     have h1:=h.row i (by omega) m
     have h2:=hhd m
     constructor
     · intro h3
       by_cases h4:(m:Int)+1≤R.getD k 0+1
       · exact ⟨k,Nat.le_refl _,hk,hp,hv,h2.1 h4⟩
       · obtain ⟨c,a1,a2⟩:=h1.1 (by rw [hx] at h3;split at h3 <;> omega)
         exact ⟨c,by omega,a2⟩
     · rintro ⟨c,a1,a2,a3,a4,a5⟩
       by_cases e:c=k
       · subst e
         have:=h2.2 a5
         rw [hx];split <;> omega
       · have:=h1.2 ⟨c,by omega,a2,a3,a4,a5⟩
         rw [hx];split <;> omega
   · rw [hg i (by omega) e2,h.row i (by omega) m]
     constructor
     · rintro ⟨c,h1,h2⟩;exact ⟨c,by omega,h2⟩
     · rintro ⟨c,h1,h2,h3,h4,h5⟩
       by_cases e:c=k
       · subst e;rw [hp] at h3;exact absurd (by omega) e2
       · exact ⟨c,by omega,h2,h3,h4,h5⟩
def comD (C:List Bool) (F:List Int) (V:Nat→Int) (d b:Nat):Bool :=
 decide (0≤F.getD d 0) && decide (F.getD (F.getD d 0).toNat 0=(b:Int)) && decide (V b+1=V (F.getD d 0).toNat) && decide (V (F.getD d 0).toNat+1=V d) && C.getD b false && C.getD (F.getD d 0).toNat false && C.getD d false
def comK (C:List Bool) (F:List Int) (V:Nat→Int) (k b:Nat):Bool:=(List.range k).any (fun d=>comD C F V d b)
theorem comK_zero (C:List Bool) (F:List Int) (V:Nat→Int) (b:Nat):comK C F V 0 b=false:=rfl
theorem comK_next (C:List Bool) (F:List Int) (V:Nat→Int) (k b:Nat):comK C F V (k+1) b=(comK C F V k b || comD C F V k b):=by simp [comK,List.range_succ]
theorem comK_iff {C:List Bool} {F:List Int} {V:Nat→Int} {k b:Nat}:comK C F V k b=true ↔ ∃ d,d < k∧comD C F V d b=true:=by simp [comK]
theorem comD_iff {C:List Bool} {F:List Int} {V:Nat→Int} {d b:Nat}:comD C F V d b=true ↔ ∃ c:Nat,F.getD d 0=(c:Int)∧F.getD c 0=(b:Int)∧V c=V b+1∧V d=V c+1∧C.getD b false=true∧C.getD c false=true∧C.getD d false=true:=by
 unfold comD
 simp only [Bool.and_eq_true,decide_eq_true_eq]
 constructor
 · rintro ⟨⟨⟨⟨⟨⟨h1,h2⟩,h3⟩,h4⟩,h5⟩,h6⟩,h7⟩
   exact ⟨(F.getD d 0).toNat,by omega,h2,by omega,by omega,h5,h6,h7⟩
 · rintro ⟨c,h1,h2,h3,h4,h5,h6,h7⟩
   rw [h1,Int.toNat_natCast]
   exact ⟨⟨⟨⟨⟨⟨by omega,h2⟩,by omega⟩,by omega⟩,h5⟩,h6⟩,h7⟩
theorem rowC_three {C:List Bool} {F:List Int} {V:Nat→Int} {n b:Nat} (hF:∀ c,c < n→F.getD c 0 < c):RowC C F V n 3 b ↔ comK C F V n b=true:=by
 rw [comK_iff]
 simp only [RowC,comD_iff]
 constructor
 · rintro ⟨h1,h2 | ⟨c,h2,h3,h4,h5,h6 | ⟨d,h6,h7,h8,h9,h10⟩⟩⟩
   · omega
   · omega
   · exact ⟨d,h6,c,h7,h3,h4,h8,h1,h5,h9⟩
 · rintro ⟨d,h6,c,h7,h3,h4,h8,h1,h5,h9⟩
   have:=hF d h6
   exact ⟨h1,.inr ⟨c,by omega,h3,h4,h5,.inr ⟨d,h6,h7,h8,h9,.inl (by first | trivial | omega)⟩⟩⟩
theorem comK_false {C:List Bool} {F:List Int} {V:Nat→Int} {k b:Nat} (h:C.getD b false=false):comK C F V k b=false:=by
 cases e:comK C F V k b with
 | false=>rfl
 | true =>
  obtain ⟨d,-,hd⟩:=comK_iff.1 e
  obtain ⟨c,-,-,-,-,h1,-⟩:=comD_iff.1 hd
  rw [h] at h1;cases h1
theorem RowsTo.three {C:List Bool} {F:List Int} {V:Nat→Int} {n k:Nat} {R:List Int} (h:RowsTo C F V n R (k+1)) (hF:∀ c,c < n→F.getD c 0 < c) (hc:C.getD k false=true):comK C F V n k=decide (3≤R.getD k 0+1):=by
 have h1:=h.head hF hc 2
 rw [rowC_three hF] at h1
 cases e:comK C F V n k with
 | true=>rw [e] at h1;have:=h1.2 rfl;exact (decide_eq_true (by omega)).symm
 | false =>
  rw [e] at h1
  exact (decide_eq_false (fun q=>by have:=h1.1 (by omega);cases this)).symm
def upTo (hd:Nat→Bool):Nat→List Int
 | 0=>[]
 | k+1=>if hd k then upTo hd k++[(k:Int)] else upTo hd k
def downTo (hd:Nat→Bool) (n:Nat):Nat→List Int
 | 0=>[]
 | k+1=>if hd (n - 1 - k) then downTo hd n k++[((n - 1 - k:Nat):Int)] else downTo hd n k
theorem upTo_down (hd:Nat→Bool) (n:Nat):∀ k,k≤n→upTo hd n=upTo hd (n - k)++(downTo hd n k).reverse:=by
 intro k
 induction k with
 | zero=>intro _;simp [downTo]
 | succ k ih =>
  intro hk
  rw [ih (by omega),show n - k=(n - 1 - k)+1 by omega,upTo,downTo,show n - (k+1)=n - 1 - k by omega]
  split <;> simp
theorem down_all (hd:Nat→Bool) (n:Nat):(downTo hd n n).reverse=upTo hd n:=by
 have:=upTo_down hd n n (Nat.le_refl _)
 rw [Nat.sub_self] at this
 simpa [upTo] using this.symm
theorem downTo_next {hd:Nat→Bool} {n j:Nat} (h:j < n):downTo hd n (n - j)=if hd j then downTo hd n (n - (j+1))++[(j:Int)] else downTo hd n (n - (j+1)):=by
 rw [show n - j=(n - (j+1))+1 by omega,downTo,show n - 1 - (n - (j+1))=j by omega]
theorem upTo_mem {hd:Nat→Bool} {n:Nat} {x:Int}:x∈upTo hd n ↔ ∃ k:Nat,x=k∧k < n∧hd k=true:=by
 induction n with
 | zero=>simp [upTo]
 | succ n ih =>
  rw [upTo]
  constructor
  · intro h
    by_cases e:hd n=true
    · rw [if_pos e,List.mem_append] at h
      rcases h with h | h
      · obtain ⟨k,h1,h2,h3⟩:=ih.1 h;exact ⟨k,h1,by omega,h3⟩
      · simp at h;exact ⟨n,h,by omega,e⟩
    · rw [if_neg e] at h
      obtain ⟨k,h1,h2,h3⟩:=ih.1 h;exact ⟨k,h1,by omega,h3⟩
  · rintro ⟨k,h1,h2,h3⟩
    by_cases e:k=n
    · subst e;rw [if_pos h3];simp [h1]
    · have:=ih.2 ⟨k,h1,by omega,h3⟩
      split
      · exact List.mem_append.2 (.inl this)
      · exact this
theorem upTo_len (hd:Nat→Bool) (n:Nat):(upTo hd n).length≤n:=by
 induction n with
 | zero=>simp [upTo]
 | succ n ih =>
  rw [upTo]
  split
  · rw [List.length_append,List.length_singleton];omega
  · omega
theorem downTo_len (hd:Nat→Bool) (n k:Nat):(downTo hd n k).length≤k:=by
 induction k with
 | zero=>simp [downTo]
 | succ k ih =>
  rw [downTo]
  split
  · rw [List.length_append,List.length_singleton];omega
  · omega
theorem getD_appL {α : Type} (L M:List α) (d : α) {i:Nat} (h:i < L.length):(L++M).getD i d=L.getD i d:=by
 rw [List.getD_eq_getElem?_getD,List.getD_eq_getElem?_getD,List.getElem?_append_left h]
theorem getD_appE {α : Type} (L:List α) (x d : α) {i:Nat} (h:i=L.length):(L++[x]).getD i d=x:=by
 rw [List.getD_eq_getElem?_getD,List.getElem?_append_right (by omega),h,Nat.sub_self];rfl
theorem upTo_asc {hd:Nat→Bool} (n:Nat):∀ i j,i < j→j < (upTo hd n).length→(upTo hd n).getD i 0 < (upTo hd n).getD j 0:=by
 induction n with
 | zero=>intro i j _ h;simp [upTo] at h
 | succ n ih =>
  intro i j hij hj
  rw [upTo] at hj ⊢
  by_cases e:hd n=true
  · rw [if_pos e] at hj ⊢
    rw [List.length_append,List.length_singleton] at hj
    by_cases e2:j < (upTo hd n).length
    · rw [getD_appL _ _ _ e2,getD_appL _ _ _ (by omega)];exact ih i j hij e2
    · have e3:j=(upTo hd n).length:=by omega
      rw [getD_appL _ _ _ (show i < (upTo hd n).length by omega),getD_appE _ _ _ e3]
      have hm:(upTo hd n).getD i 0∈upTo hd n:=by
       rw [List.getD_eq_getElem?_getD,List.getElem?_eq_getElem (by omega)];exact List.getElem_mem _
      obtain ⟨k,h1,h2,-⟩:=upTo_mem.1 hm
      rw [h1];omega
  · rw [if_neg e] at hj ⊢;exact ih i j hij hj
def toK (V:Nat→Int) (H:List Int):Nat→Int
 | 0=>0
 | k+1=>if V (toK V H k).toNat < V (H.getD k 0).toNat then H.getD k 0 else toK V H k
theorem toK_mem {V:Nat→Int} {H:List Int}:∀ k,k≤H.length→toK V H k=0∨toK V H k∈H:=by
 intro k
 induction k with
 | zero=>intro _;exact .inl rfl
 | succ k ih =>
  intro hk
  rw [toK]
  split
  · right;rw [List.getD_eq_getElem?_getD,List.getElem?_eq_getElem (by omega)];exact List.getElem_mem _
  · exact ih (by omega)
theorem toK_most {V:Nat→Int} {H:List Int}:∀ k,∀ j,j < k→V (H.getD j 0).toNat≤V (toK V H k).toNat:=by
 intro k
 induction k with
 | zero=>intro j h;omega
 | succ k ih =>
  intro j hj
  rw [toK]
  by_cases e:j=k
  · subst e;split <;> omega
  · have:=ih j (by omega)
    split <;> omega
open Go.RowKit
set_option linter.unusedSimpArgs false
def crtV (x:Ver):Crt:=⟨x.key,x.by_,x.val⟩
def cerK (L:List Blk) (cs:List Ver):Nat→List Bool
 | 0=>(List.replicate L.length false).set 0 true
 | k+1=>if cbN L (crtV (cs.getD k noV)) = -1 then cerK L cs k else (cerK L cs k).set (cbN L (crtV (cs.getD k noV))).toNat true
theorem cerK_len (L:List Blk) (cs:List Ver) (k:Nat):(cerK L cs k).length=L.length:=by
 induction k with
 | zero=>simp [cerK]
 | succ k ih=>rw [cerK];split <;> simp [ih]
theorem cerK_no {L:List Blk} {cs:List Ver} {k:Nat} (h:cbN L (crtV (cs.getD k noV)) = -1):cerK L cs (k+1)=cerK L cs k:=by rw [cerK,if_pos h]
theorem cerK_yes {L:List Blk} {cs:List Ver} {k j:Nat} (h:cbN L (crtV (cs.getD k noV))=(j:Int)):cerK L cs (k+1)=(cerK L cs k).set j true:=by
 rw [cerK,if_neg (by omega),h,Int.toNat_natCast]
theorem cbN_bd (L:List Blk) (c:Crt):cbN L c = -1∨∃ k:Nat,k < L.length∧cbN L c=(k:Int):=by
 unfold cbN
 split
 · unfold cbL
   split
   · exact .inl rfl
   · split
     · have:=findL_bd L c.sum
       obtain ⟨k,hk⟩:=Int.eq_ofNat_of_zero_le (show 0≤findL L c.sum by omega)
       exact .inr ⟨k,by omega,hk⟩
     · exact .inl rfl
 · exact .inl rfl
def cerM (t:Tre) (cs:List Ver):List Bool:=if treB t=true∧cs.length≤30 then cerK t.blocks cs cs.length else []
theorem cerM_yes {t:Tre} {cs:List Ver} (h:treB t=true) (hc:cs.length≤30):cerM t cs=cerK t.blocks cs cs.length:=by unfold cerM;rw [if_pos ⟨h,hc⟩]
theorem cerM_no {t:Tre} {cs:List Ver} (h:treB t=false∨30 < cs.length):cerM t cs=[]:=by
 unfold cerM
 rw [if_neg]
 rintro ⟨h1,h2⟩
 rcases h with h | h
 · rw [h] at h1;cases h1
 · omega
theorem cerM_cases (t:Tre) (cs:List Ver):(cerM t cs=[]∧(treB t=false∨30 < cs.length))∨(treB t=true∧cs.length≤30∧cerM t cs=cerK t.blocks cs cs.length∧(cerM t cs).length=t.blocks.length∧0 < (cerM t cs).length∧(cerM t cs).length≤14):=by
 by_cases h:treB t=true∧cs.length≤30
 · have hk:=(treB_iff t).1 h.1
   have h1:=hk.one;have h2:=hk.most
   have e:=cerM_yes h.1 h.2
   have el:(cerM t cs).length=t.blocks.length:=by rw [e,cerK_len]
   exact .inr ⟨h.1,h.2,e,el,by omega,by omega⟩
 · have:treB t=false∨30 < cs.length:=by
    cases e:treB t with
    | false=>exact .inl rfl
    | true=>exact .inr (by have:¬ cs.length≤30:=fun q=>h ⟨e,q⟩;omega)
   exact .inl ⟨cerM_no this,this⟩
theorem cerM_len14 (t:Tre) (cs:List Ver):(cerM t cs).length≤14:=by
 rcases cerM_cases t cs with ⟨h,-⟩ | ⟨-,-,-,-,-,h⟩
 · rw [h];simp
 · exact h
def vwAt (t:Tre) (k:Nat):Int:=(blkAt t.blocks k).view
def hdsM (t:Tre) (C:List Bool):List Int:=upTo (comK C t.bef (vwAt t) C.length) C.length
theorem hdsM_none (t:Tre):hdsM t []=[]:=rfl
theorem hdsM_mem {t:Tre} {C:List Bool} {x:Int} (h:x∈hdsM t C):∃ k:Nat,x=k∧k < C.length∧comK C t.bef (vwAt t) C.length k=true:=upTo_mem.1 h
theorem hdsM_at {t:Tre} {C:List Bool} {j:Nat} (h:j < (hdsM t C).length):∃ k:Nat,(hdsM t C).getD j 0=k∧k < C.length∧comK C t.bef (vwAt t) C.length k=true:=by
 refine hdsM_mem ?_
 rw [List.getD_eq_getElem?_getD,List.getElem?_eq_getElem h];exact List.getElem_mem _
theorem hdsM_len {t:Tre} {C:List Bool}:(hdsM t C).length≤C.length:=upTo_len _ _
theorem hdsM_ok {t:Tre} {C:List Bool} (hC:C.length≤14):(∀ x∈hdsM t C,(Lit.int .i64 x).wf=true)∧(hdsM t C).length≤14 :=
 ⟨fun x hx=>by obtain ⟨k,rfl,hk,-⟩:=hdsM_mem hx;exact WalkArith.wf_i64 (by omega),Nat.le_trans hdsM_len hC⟩
def ctoM (t:Tre) (H:List Int):Int:=toK (vwAt t) H H.length
def ctM (t:Tre) (cs:List Ver):Int:=if (cerM t cs).length=0 then -1 else ctoM t (hdsM t (cerM t cs))
def RowO (w:World) (a:Option Addr) (len:Nat) (C:List Bool):Prop :=
 C.length=len∧len≤maxLen∧(0 < len→∃ b off,a=some ⟨b,off,none⟩∧∀ i,i < len→w.cell? ⟨b,off+i,none⟩=some (.bool (C.getD i false)))
theorem RowO.below {w w':World} {a:Option Addr} {n:Nat} {C:List Bool} (h:RowO w a n C) (hb:Below w.heap.size w w'):RowO w' a n C:=by
 obtain ⟨h1,h2,h3⟩:=h
 refine ⟨h1,h2,fun hl=>?_⟩
 obtain ⟨b,off,he,hc⟩:=h3 hl
 refine ⟨b,off,he,fun i hi=>?_⟩
 have hlt:b < w.heap.size:=World.block_lt_of_cell? w ⟨b,off+i,none⟩ (hc i hi)
 rw [hb.cell (p:=⟨b,off+i,none⟩) hlt]
 exact hc i hi
theorem RowO.at {w:World} {a:Option Addr} {n:Nat} {C:List Bool} (h:RowO w a n C) {i:Nat} (hi:i < n):∃ b off,a=some ⟨b,off,none⟩∧∀ i,i < n→w.cell? ⟨b,off+i,none⟩=some (.bool (C.getD i false)):=h.2.2 (by omega)
theorem getD_mapO (C:List Bool) {i:Nat} (h:i < C.length):(C.map Value.bool)[i]? = some (.bool (C.getD i false)):=by
 rw [List.getElem?_map,List.getElem?_eq_getElem h,List.getD_eq_getElem?_getD,List.getElem?_eq_getElem h];rfl
theorem rowO_of_owns {w:World} {base e n:Nat} {v:Value} {C:List Bool} (h:w.ownsRow base e 1 v n (C.map Value.bool)) (hm:n≤4000000) :
  ∃ a cap,v = .slice a n cap∧RowO w a n C∧(a=none→n=0∧cap=0)∧n≤cap:=by
 have hlen:C.length=n:=by have:=h.1;simpa using this
 rcases h.2 with ⟨rfl,h0⟩ | ⟨g,cap,cur,rfl,hb,hg,hnc,hcm,hcs,htake⟩
 · subst h0
   exact ⟨none,0,rfl,⟨hlen,by unfold maxLen;omega,fun h=>absurd h (by omega)⟩,fun _=>⟨rfl,rfl⟩,Nat.le_refl _⟩
 · refine ⟨_,cap,rfl,⟨hlen,by unfold maxLen;omega,fun _=>⟨g,0,rfl,fun i hi=>?_⟩⟩,fun e=>(by cases e),hnc⟩
   have:=h.cellAt i (by omega)
   rw [Nat.zero_add,this,getD_mapO C (by omega)]
def NewO (w:World) (e0:TypeId) (C:List Bool) (e:Ending) (w':World):Prop :=
 ∃ v,e = .returned v∧w'.ownsRow w.heap.size e0 1 v C.length (C.map Value.bool)∧C.length≤14∧Below w.heap.size w w'
theorem newO_nil (w w':World) (e0:TypeId) (h:Below w.heap.size w w'):NewO w e0 [] (.returned (.slice none 0 0)) w':=⟨_,rfl,World.ownsRow_nil _ _ _ _,by simp,h⟩
theorem made_false (n:Nat):(madeCells (Value.bool false).cells (n*1)).toList=(List.replicate n false).map Value.bool:=by
 rw [Nat.mul_one];exact (toList_madeCells_one _ _).trans (by simp)
theorem infoBoolC:(Tryz.prog.info? 4).map (fun i=>(i.zero,i.size,i.bytes))=some (some (.bool false),1,1):=by kernel_rfl
set_option maxRecDepth 100000 in
set_option maxHeartbeats 4000000 in
theorem certifiedBy_impl (B Z m:Nat) (v1 v2 v3:Value) (t:Tre) (ts:List Value) (a:Option Addr) (n c:Nat) (cs:List Ver) (w:World) (h:TrIx w B Z m tTreP v1 v2 v3 t ts) (ht:treB t=true) (hc:RowV w a n cs) (hn:n≤30) :
  Calls Tryz.prog 156 #[.pointer (some ⟨Z,0,none⟩),.slice a n c] w (NewO w 4 (cerK t.blocks cs cs.length)):=by
 have htk:=(treB_iff t).1 ht
 obtain ⟨a2,n2,c2,rfl,r2,-,-⟩:=h.rd.blocks
 obtain rfl:t.blocks.length=n2:=r2.1
 have h1:=htk.one
 have hm14:=htk.most
 have hcl:=hc.1
 have HK:=Lib.hid (fun (W:World) (hb:Below w.heap.size w W)=>(⟨h.box.below hb,(h.below hb).map,h.rd.below hb,hc.below hb⟩:IxAt W Z v1 (.slice a2 t.blocks.length c2) v3 (.map (some m))∧MapF W m t.blocks.length (idxF t.blocks)∧TreRd W v1 (.slice a2 t.blocks.length c2) v3 t∧RowV W a n cs))
 have HCL:=Lib.hid hcl
 obtain ⟨N,hN⟩:∃ N,N=t.blocks.length:=⟨_,rfl⟩
 have HN:=Lib.hid hN
 rw [← hN] at HK h1 hm14
 obtain ⟨⟨y0,y1,y2,y3,-⟩,-,-,-⟩:=HK.out w (Below.refl _ _)
 clear h ht hc r2 htk hcl hN
 obtain ⟨i0,hi,hz0,hz1,hz2⟩:=info_parts infoBoolC
 have i3:(0:Int) < (N:Int):=by omega
 go_enter Tryz.func156,Tryz.ntmps156
 go_wp2_with (first | (at_make;refine wpList_make_full _ rfl (.tmp 14) (.tmp 14) 68 rfl w.heap.size 4 i0 (.bool false) 1 Tryz.underlying68 hi hz0 hz1 .i64 .i64 N N N rfl rfl rfl rfl (by rw [hz2];omega) (by unfold maxLen;omega) (Nat.le_refl _) ?_;intro w2 hown hgrow;clear hi hz0 hz1 hz2;rw [made_false] at hown;have hce:=hown.cellAt 0 (by omega);rw [getD_mapO _ (by simp;omega)] at hce;have hfz:=hown.frozenAt 0))
 have hst:=(hown.stored 0 (.bool true)).1
 rw [← List.map_set] at hst
 have hb2:Below w.heap.size w w2:=(Below.refl _ _).grown hgrow (Nat.le_refl _) (fun k hk=>by simp at hk)
 have hbs:Below w.heap.size w (w2.setCell ⟨w.heap.size,0,none⟩ (.bool true)):=hb2.setCell (Nat.le_refl _) _
 have HST:=Lib.hid hst
 have HBS:=Lib.hid hbs
 clear hown hgrow hce hfz hst hb2 hbs y0 y1 y2 y3
 go_loopw [20] (fun i wr=>∃ k:Nat,k≤n∧i = .int .i64 (k:Int)∧wr.ownsRow w.heap.size 4 1 (.slice (some ⟨w.heap.size,0,none⟩) N N) N ((cerK t.blocks cs k).map Value.bool)∧Below w.heap.size w wr) (fun i _=>n - (intOf i).toNat)
 case atStart=>exact ⟨0,Nat.zero_le _,rfl,by have:=HST.out;rw [cerK,← HN.out];exact this,HBS.out⟩
 case round =>
  clear HST HBS
  obtain ⟨k,hk,rfl,hown,hb⟩:=hrel
  by_cases hlt:k < n
  · have hrc:=(HK.out wr hb).2.2.2
    have hwf:=hrc.bd k hlt
    obtain ⟨b,off,rfl,hcc⟩:=hrc.2.2.1 (by omega)
    obtain ⟨g0,g1,g2⟩:=hcc k hlt
    obtain ⟨x,hx⟩:∃ x,x=cs.getD k noV:=⟨_,rfl⟩
    rw [← hx] at g0 g1 g2 hwf
    have HX:=Lib.hid hx
    obtain ⟨p,q,r⟩:=x
    simp only at g0 g1 g2
    have HWF:=Lib.hid hwf.1
    have HOW:=Lib.hid hown
    have HB:=Lib.hid hb
    clear hrc hwf hcc hx hown hb
    go_upto_region 6 with (fail)
    generalize hw3:World.alloc _ _=w3
    have hb3:Below wr.heap.size wr w3:=by rw [← hw3];exact (Below.refl _ _).alloc (Nat.le_refl _) _
    have hX3:TrAt w3 wr.heap.size (.int .i64 p) (.int .i64 q) (.int .i64 r):=by rw [← hw3];exact trAt_new wr _ _ _ _
    have HB3:=Lib.hid (HB.out.trans (hb3.mono HB.out.size))
    have HO3:=Lib.hid (owns_below HOW.out hb3)
    obtain ⟨x0,x1,x2,-⟩:=hX3
    clear hw3 hb3 g0 g1 g2 HOW HB
    go_wp2_with fail
    refine (numberOfCertified_impl Z m _ _ _ _ t p q r w3 (HK.out w3 HB3.out).1 (HK.out w3 HB3.out).2.1 (HK.out w3 HB3.out).2.2.1 HWF.out).mono ?_;rintro e w4 ⟨rfl,hb4⟩
    have HB4:=Lib.hid (HB3.out.trans (hb4.mono HB3.out.size))
    have HO4:=Lib.hid (owns_below HO3.out hb4)
    have hcr:crtV (cs.getD k noV)=⟨p,q,r⟩:=by rw [← HX.out];rfl
    rcases cbN_bd t.blocks ⟨p,q,r⟩ with hcb | ⟨j,hj,hcb⟩
    · have HE:=Lib.hid (cerK_no (cs:=cs) (k:=k) (hcr ▸ hcb))
      rw [hcb]
      clear hcb hcr x0 x1 x2 HB3 HO3 hb4
      go_wp2_with fail
      go_roundw
      case rel=>exact ⟨k+1,by omega,by go_num,by rw [HE.out];exact HO4.out,HB4.out⟩
      case measure=>simp [intOf];omega
    · have HE:=Lib.hid (cerK_yes (cs:=cs) (k:=k) (hcr ▸ hcb))
      rw [hcb]
      have hjN:j < N:=by rw [HN.out];exact hj
      have e1:((j:Int) != -1)=true:=bne_iff_ne.2 (by omega)
      have i1:(0:Int)≤(j:Int):=by omega
      have i2:(j:Int) < (N:Int):=by omega
      have hst:=(HO4.out.stored j (.bool true)).1
      rw [← List.map_set,← HE.out] at hst
      have hce:=HO4.out.cellAt j (by omega)
      rw [getD_mapO _ (by rw [cerK_len];exact hj)] at hce
      have hfz:=HO4.out.frozenAt j
      have HST:=Lib.hid hst
      have HBS:=Lib.hid (HB4.out.setCell (p:=⟨w.heap.size,j,none⟩) (Nat.le_refl _) (.bool true))
      clear hcb hcr x0 x1 x2 HB3 HO3 hb4 hst HO4 HB4 hj hjN
      go_wp2_with fail
      go_roundw
      case rel=>exact ⟨k+1,by omega,by go_num,HST.out,HBS.out⟩
      case measure=>simp [intOf];omega
  · obtain rfl:k=n:=by omega
    have HO:Hid (wr.ownsRow w.heap.size 4 1 (.slice (some ⟨w.heap.size,0,none⟩) N N) (cerK t.blocks cs cs.length).length ((cerK t.blocks cs cs.length).map Value.bool)):=Lib.hid (by
     rw [cerK_len,← HN.out,HCL.out];exact hown)
    have HL:Hid ((cerK t.blocks cs cs.length).length≤14):=Lib.hid (by rw [cerK_len,← HN.out];exact hm14)
    clear hown
    go_wp2_with fail
    go_ret
    exact ⟨_,rfl,HO.out,HL.out,hb⟩
def CtrOf (w:World) (tT:TreT) (t:Tre) (cs:List Ver) (e:Ending) (w':World):Prop :=
 Below w.heap.size w w'∧(cerM t cs=[]→e = .returned (.tuple #[.pointer none,.slice none 0 0,.bool false]))∧(0 < (cerM t cs).length→∃ Z m u1 u2 u3 ts v,e = .returned (.tuple #[.pointer (some ⟨Z,0,none⟩),v,.bool true])∧TrIx w' w.heap.size Z m tT u1 u2 u3 t ts∧w'.ownsRow w.heap.size 4 1 v (cerM t cs).length ((cerM t cs).map Value.bool))
set_option maxRecDepth 100000 in
set_option maxHeartbeats 4000000 in
theorem certifiedTreeOf_impl (v1 v2 v3:Value) (t:Tre) (a:Option Addr) (n c:Nat) (cs:List Ver) (w:World) (h:TreRd w v1 v2 v3 t) (hc:RowV w a n cs) :
  Calls Tryz.prog 114 #[.agg #[v1,v2,v3],.slice a n c] w (CtrOf w tTreP t cs):=by
 have hrd:=h
 obtain ⟨⟨a1,n1,c1,rfl,-⟩,⟨a2,n2,c2,rfl,-⟩,a3,n3,c3,rfl,-⟩:=h
 have hcl:=hc.1
 have hmx:=hc.2.1
 unfold maxLen at hmx
 have hb0:=(Below.refl w.heap.size w).alloc (Nat.le_refl _) (.cells #[.slice a1 n1 c1,.slice a2 n2 c2,.slice a3 n3 c3] 27)
 have hg0:=trAt_new w 27 (.slice a1 n1 c1) (.slice a2 n2 c2) (.slice a3 n3 c3)
 have hr0:=hrd.below hb0
 have hc0:=hc.below hb0
 obtain ⟨W1,hW1⟩:∃ W1,W1=w.alloc (.cells #[.slice a1 n1 c1,.slice a2 n2 c2,.slice a3 n3 c3] 27):=⟨_,rfl⟩
 have HW1:=Lib.hid hW1
 rw [← hW1] at hb0 hg0 hr0 hc0
 clear hW1 hrd hc
 have HB:=Lib.hid hb0
 have HRD:=Lib.hid hr0
 have HC:=Lib.hid hc0
 have HCL:=Lib.hid hcl
 obtain ⟨x0,x1,x2,-⟩:=hg0
 clear hb0 hr0 hc0 hcl
 go_enter Tryz.func114,Tryz.ntmps114
 go_upto_region 1 with (fail)
 rw [← HW1.out]
 clear HW1
 go_wp2_with fail
 refine (indexedTreeOf_impl _ _ _ t _ HRD.out).mono ?_;rintro e w2 ⟨hb2,hno,hyes⟩
 have HC2:=Lib.hid (HC.out.below hb2)
 have HBF:=Lib.hid (HB.out.trans (hb2.mono HB.out.size))
 clear HC x0 x1 x2 hb2
 cases ht:treB t with
 | false =>
  have HF:=Lib.hid (cerM_no (cs:=cs) (.inl ht))
  obtain rfl:=hno ht
  clear hno hyes ht
  go_wp2_with fail
  refine bodyPost_ret (results_tmp3 rfl _ _ _) rfl ?_
  exact ⟨HBF.out,fun _=>rfl,fun e=>by rw [HF.out] at e;simp at e⟩
 | true =>
  obtain ⟨Z,m,u1,u2,u3,ts,rfl,hix⟩:=hyes ht
  have HIX:=Lib.hid (hix.mono (Nat.le_trans HB.out.size (Nat.le_refl _)))
  have HT:=Lib.hid ht
  clear hno hyes ht hix
  by_cases hn:n≤30
  · have HF:=Lib.hid (cerM_yes HT.out (cs:=cs) (by rw [HCL.out];exact hn))
    have hd:decide ((30:Int) < (n:Int))=false:=decide_eq_false (by omega)
    go_wp2_with fail
    refine (certifiedBy_impl w.heap.size Z m _ _ _ t ts a n c cs w2 HIX.out HT.out HC2.out hn).mono ?_;rintro e w3 ⟨v,rfl,ho,hl,hb3⟩
    have HB3:=Lib.hid (HBF.out.trans (hb3.mono HBF.out.size))
    have HIX3:=Lib.hid (HIX.out.below hb3)
    have HO:=Lib.hid (owns_mono ho HBF.out.size)
    clear ho hb3 hl
    go_wp2_with fail
    refine bodyPost_ret (results_tmp3 rfl _ _ _) rfl ?_
    exact ⟨HB3.out,fun e=>by
     have h1:=((treB_iff t).1 HT.out).one
     have:=congrArg List.length e
     rw [HF.out,cerK_len] at this
     have h3:t.blocks.length=0:=this
     omega,fun _=>⟨Z,m,u1,u2,u3,ts,v,rfl,HIX3.out,by rw [HF.out];exact HO.out⟩⟩
  · have HF:=Lib.hid (cerM_no (t:=t) (cs:=cs) (.inr (by rw [HCL.out];omega)))
    have hd:decide ((30:Int) < (n:Int))=true:=decide_eq_true (by omega)
    go_wp2_with fail
    refine bodyPost_ret (results_tmp3 rfl _ _ _) rfl ?_
    exact ⟨HBF.out,fun _=>rfl,fun e=>by rw [HF.out] at e;simp at e⟩
theorem certifiedBlocks_impl (v1 v2 v3:Value) (t:Tre) (a:Option Addr) (n c:Nat) (cs:List Ver) (w:World) (h:TreRd w v1 v2 v3 t) (hc:RowV w a n cs) :
  Calls Tryz.prog 46 #[.agg #[v1,v2,v3],.slice a n c] w (NewO w 4 (cerM t cs)):=by
 have hrd:=h
 obtain ⟨⟨a1,n1,c1,rfl,-⟩,⟨a2,n2,c2,rfl,-⟩,a3,n3,c3,rfl,-⟩:=h
 have hb0:=(Below.refl w.heap.size w).alloc (Nat.le_refl _) (.cells #[.slice a1 n1 c1,.slice a2 n2 c2,.slice a3 n3 c3] 27)
 have hg0:=trAt_new w 27 (.slice a1 n1 c1) (.slice a2 n2 c2) (.slice a3 n3 c3)
 have hr0:=hrd.below hb0
 have hc0:=hc.below hb0
 obtain ⟨W1,hW1⟩:∃ W1,W1=w.alloc (.cells #[.slice a1 n1 c1,.slice a2 n2 c2,.slice a3 n3 c3] 27):=⟨_,rfl⟩
 have HW1:=Lib.hid hW1
 rw [← hW1] at hb0 hg0 hr0 hc0
 clear hW1 hrd hc
 have HB:=Lib.hid hb0
 have HRD:=Lib.hid hr0
 have HC:=Lib.hid hc0
 obtain ⟨x0,x1,x2,-⟩:=hg0
 clear hb0 hr0 hc0
 go_enter Tryz.func46,Tryz.ntmps46
 go_upto_region 1 with (fail)
 rw [← HW1.out]
 clear HW1
 go_wp2_with fail
 refine (certifiedTreeOf_impl _ _ _ t a n c cs _ HRD.out HC.out).mono ?_;rintro e w2 ⟨hb2,hno,hyes⟩
 have HBF:=Lib.hid (HB.out.trans (hb2.mono HB.out.size))
 clear x0 x1 x2 hb2
 rcases cerM_cases t cs with ⟨hf,-⟩ | ⟨-,-,-,-,hp,h14⟩
 · obtain rfl:=hno hf
   have HF:=Lib.hid hf
   clear hno hyes hf
   go_wp2_with fail
   go_ret
   rw [HF.out];exact newO_nil _ _ _ HBF.out
 · obtain ⟨Z,m,u1,u2,u3,ts,v,rfl,-,ho⟩:=hyes hp
   have HO:=Lib.hid (owns_mono ho HB.out.size)
   have HL:=Lib.hid h14
   clear hno hyes ho hp h14
   go_wp2_with fail
   go_ret
   exact ⟨_,rfl,HO.out,HL.out,HBF.out⟩
def revTo (l:List Int) (i:Nat):List Int:=(List.range l.length).map fun q:Nat=>if q < i∨l.length - 1 - q < i then l.getD (l.length - 1 - q) 0 else l.getD q 0
theorem revTo_len (l:List Int) (i:Nat):(revTo l i).length=l.length:=by simp [revTo]
theorem revTo_get (l:List Int) (i:Nat) {q:Nat} (h:q < l.length):(revTo l i)[q]? = some (if q < i∨l.length - 1 - q < i then l.getD (l.length - 1 - q) 0 else l.getD q 0):=by
 unfold revTo
 rw [List.getElem?_map,List.getElem?_range h];rfl
theorem revTo_zero (l:List Int):revTo l 0=l:=by
 apply List.ext_getElem?
 intro q
 by_cases h:q < l.length
 · rw [revTo_get l 0 h,if_neg (by omega),List.getD_eq_getElem?_getD,List.getElem?_eq_getElem h];rfl
 · rw [List.getElem?_eq_none (by rw [revTo_len];omega),List.getElem?_eq_none (by omega)]
theorem revTo_all (l:List Int) {i:Nat} (h:l.length≤2*i+1):revTo l i=l.reverse:=by
 apply List.ext_getElem?
 intro q
 by_cases hq:q < l.length
 · rw [revTo_get l i hq,List.getElem?_reverse hq]
   have e1:l.getD (l.length - 1 - q) 0=l[l.length - 1 - q]'(by omega):=by rw [List.getD_eq_getElem?_getD,List.getElem?_eq_getElem (by omega)];rfl
   rw [List.getElem?_eq_getElem (show l.length - 1 - q < l.length by omega),← e1]
   split
   · rfl
   · rename_i hn
     have:q=l.length - 1 - q:=by omega
     rw [← this]
 · rw [List.getElem?_eq_none (by rw [revTo_len];omega),List.getElem?_eq_none (by rw [List.length_reverse];omega)]
theorem revTo_next (l:List Int) {i:Nat} (h:2*i+1 < l.length):((revTo l i).set i (l.getD (l.length - 1 - i) 0)).set (l.length - 1 - i) (l.getD i 0)=revTo l (i+1):=by
 apply List.ext_getElem?
 intro q
 by_cases hq:q < l.length
 · rw [List.getElem?_set,List.length_set,revTo_len,List.getElem?_set,revTo_len,revTo_get l i hq,revTo_get l (i+1) hq]
   by_cases e1:l.length - 1 - i=q
   · rw [if_pos e1,if_pos (by omega),if_pos (by omega),show l.length - 1 - q=i by omega]
   · rw [if_neg e1]
     by_cases e2:i=q
     · subst e2;rw [if_pos rfl,if_pos hq,if_pos (by omega)]
     · rw [if_neg e2]
       by_cases e3:q < i∨l.length - 1 - q < i
       · rw [if_pos e3,if_pos (by omega)]
       · rw [if_neg e3,if_neg (by omega)]
 · rw [List.getElem?_eq_none (by rw [List.length_set,List.length_set,revTo_len];omega),List.getElem?_eq_none (by rw [revTo_len];omega)]
theorem grownBy_drew (w:World) (r:Option Nat):w.grownBy w.drew r:=⟨rfl,rfl,rfl,Nat.le_refl _,fun q hq hr=>rfl⟩
set_option maxHeartbeats 2000000 in
theorem reverseI_any (B g n c:Nat) (e:TypeId) (l:List Int) (w:World) (h:w.ownsRow B e 1 (.slice (some ⟨g,0,none⟩) n c) n (l.map (Value.int .i64))) (hl:l.length=n) (hn:n≤1000) :
  Calls Tryz.prog 157 #[.slice (some ⟨g,0,none⟩) n c] w (fun en w'=>en = .returned (.tuple #[])∧w'.ownsRow B e 1 (.slice (some ⟨g,0,none⟩) n c) n (l.reverse.map (Value.int .i64))∧w.grownBy w' (some g)):=by
 have HL:=Lib.hid hl
 clear hl
 go_enter Tryz.func157,Tryz.ntmps157
 go_wp2
 go_loopw [2,3] (fun i j wr=>∃ k:Nat,i = .int .i64 (k:Int)∧j = .int .i64 ((n:Int) - 1 - k)∧k≤n∧wr.ownsRow B e 1 (.slice (some ⟨g,0,none⟩) n c) n ((revTo l k).map (Value.int .i64))∧w.grownBy wr (some g)) (fun i _ _=>n - (intOf i).toNat)
 case atStart=>exact ⟨0,rfl,by simp,by omega,by rw [revTo_zero];exact h,World.grownBy.refl _ _⟩
 case round =>
  clear h
  obtain ⟨k,rfl,rfl,hkn,hown,hg⟩:=hrel
  by_cases hlt:(k:Int) < (n:Int) - 1 - k
  · obtain ⟨m,hm⟩:∃ m:Nat,(n:Int) - 1 - k=m:=⟨n - 1 - k,by omega⟩
    rw [hm] at hlt ⊢
    have hmn:m=l.length - 1 - k:=by rw [HL.out];omega
    have hc1:=hown.cellAt k (by omega)
    have hc2:=hown.cellAt m (by omega)
    rw [List.getElem?_map,revTo_get l k (by rw [HL.out];omega),if_neg (by rw [HL.out];omega)] at hc1
    rw [List.getElem?_map,revTo_get l k (by rw [HL.out];omega),if_neg (by rw [HL.out];omega)] at hc2
    simp only [Option.map_some] at hc1 hc2
    have hf1:=hown.frozenAt k
    have hf2:=hown.frozenAt m
    have hst:=((hown.stored k (.int .i64 (l.getD m 0))).1.stored m (.int .i64 (l.getD k 0))).1
    rw [← List.map_set,← List.map_set,hmn,revTo_next l (by rw [HL.out];omega),← hmn] at hst
    obtain ⟨x,hx⟩:∃ x,x=l.getD k 0:=⟨_,rfl⟩
    obtain ⟨y,hy⟩:∃ y,y=l.getD m 0:=⟨_,rfl⟩
    rw [← hx] at hc1 hst
    rw [← hy] at hc2 hst
    have HST:=Lib.hid hst
    have HG:=Lib.hid (grownBy_trans hg (grownBy_trans (grownBy_set wr g k (.int .i64 y)) (grownBy_set _ g m (.int .i64 x))))
    have HM:=Lib.hid hm
    have HKN:=Lib.hid hkn
    have i1:(0:Int)≤(k:Int):=by omega
    have i2:(k:Int) < (n:Int):=by omega
    have i3:(0:Int)≤(m:Int):=by omega
    have i4:(m:Int) < (n:Int):=by omega
    clear hst hg hown hm hmn hx hy hkn
    go_wp2_with fail
    go_region
    go_wp2
    go_roundw
    case rel =>
     have hm:=HM.out
     exact ⟨k+1,by go_num,by congr 1;omega,by omega,HST.out,grownBy_trans HG.out (grownBy_drew _ _)⟩
    case measure=>simp [intOf];omega
  · have e:revTo l k=l.reverse:=revTo_all l (by rw [HL.out];omega)
    rw [e] at hown
    go_wp2
    go_end0
    exact ⟨rfl,by simpa using hown,hg⟩
theorem reverseI_own (B n:Nat) (e:TypeId) (v:Value) (l:List Int) (w:World) (h:w.ownsRow B e 1 v n (l.map (Value.int .i64))) (hl:l.length=n) (hn:n≤1000) :
  Calls Tryz.prog 157 #[v] w (fun en w'=>en = .returned (.tuple #[])∧w'.ownsRow B e 1 v n (l.reverse.map (Value.int .i64))∧w.grownBy w' v.ownBlock):=by
 by_cases hv:v = .slice none 0 0
 · have h0:n=0:=by
    rcases h.2 with ⟨_,h1⟩ | ⟨g,cap,cur,h1,_⟩
    · exact h1
    · rw [hv] at h1;simp at h1
   subst h0;subst hv
   have hl0:l=[]:=List.eq_nil_of_length_eq_zero hl
   subst hl0
   have HO:=Lib.hid h
   clear h hl
   go_enter Tryz.func157,Tryz.ntmps157
   go_wp2
   go_loop [2,3] (fun i j=>i = .int .i64 0∧j = .int .i64 (-1)) (fun _ _=>0)
   case atStart=>exact ⟨rfl,rfl⟩
   case round =>
    obtain ⟨rfl,rfl⟩:=hrel
    go_wp2
    go_end0
    exact ⟨rfl,HO.out,World.grownBy.refl _ _⟩
 · obtain ⟨g,c,rfl,_,_⟩:=Own.slice ⟨h,hv⟩
   exact reverseI_any B g n c e l w h hl hn
def IxRd (t:Tre) (Z m n:Nat) (v1:Value) (a2:Option Addr) (c2:Nat) (b off:Nat) (a3:Option Addr) (c3:Nat) (b3 off3:Nat) (W:World):Prop :=
 IxAt W Z v1 (.slice a2 n c2) (.slice a3 n c3) (.map (some m))∧(∀ k,k < n→W.cell? ⟨b,off+k*6+2,none⟩=some (.int .i64 (vwAt t k)))∧∀ k,k < n→W.cell? ⟨b3,off3+k,none⟩=some (.int .i64 (t.bef.getD k 0))
theorem ixRd_of {w:World} {B Z m:Nat} {v1 v2 v3:Value} {t:Tre} {ts:List Value} (h:TrIx w B Z m tTreP v1 v2 v3 t ts) (ht:TreOk t):∃ b off c2 b3 off3 c3,v2 = .slice (some ⟨b,off,none⟩) t.blocks.length c2∧v3 = .slice (some ⟨b3,off3,none⟩) t.blocks.length c3∧∀ W,Below w.heap.size w W→IxRd t Z m t.blocks.length v1 (some ⟨b,off,none⟩) c2 b off (some ⟨b3,off3,none⟩) c3 b3 off3 W:=by
 obtain ⟨a2,n2,c2,rfl,r2,-,-⟩:=h.rd.blocks
 obtain ⟨a3,n3,c3,rfl,r3,-,-⟩:=h.rd.bef
 have hl2:t.blocks.length=n2:=r2.1
 have hl3:t.bef.length=n3:=r3.1
 have h1:=ht.one
 have hll:=ht.len
 obtain rfl:n3=n2:=by omega
 subst hl2
 obtain ⟨b,off,rfl,hbk⟩:=r2.2.2.1 (by omega)
 obtain ⟨b3,off3,rfl,hc3⟩:=r3.2.2.1 (by omega)
 exact ⟨b,off,c2,b3,off3,c3,rfl,rfl,fun W hb=>⟨h.box.below hb,fun k hk=>((hbk k hk).below hb).c2,fun k hk=>by
  have hlt:=World.block_lt_of_cell? w ⟨b3,off3+k,none⟩ (hc3 k hk)
  exact below_cell hb hlt (hc3 k hk)⟩⟩
theorem view_bd {t:Tre} (h:TreOk t) {k:Nat} (hk:k < t.blocks.length):0≤vwAt t k∧vwAt t k≤1000:=by
 have:=h.ok hk
 exact (blkB_true this).2.2.2.2.1
theorem owns_setC {w:World} {G:Nat} {e:TypeId} {size n:Nat} {v:Value} {xs:List Value} (h:w.ownsRow (G+1) e size v n xs) (o:Nat) (u:Value):(w.setCell ⟨G,o,none⟩ u).ownsRow (G+1) e size v n xs :=
 owns_set h (fun q=>by have:=(h.lt G q).1;omega) o u
theorem owns_grownC {w w':World} {G:Nat} {e e':TypeId} {size n n':Nat} {v':Value} {c:Nat} {xs xs':List Value} (h:w.ownsRow G e size (.slice (some ⟨G,0,none⟩) n c) n xs) (hv:w.ownsRow (G+1) e' 1 v' n' xs') (hg:w.grownBy w' v'.ownBlock):w'.ownsRow G e size (.slice (some ⟨G,0,none⟩) n c) n xs :=
 owns_keep h (fun b hb=>by
  have hb2:b=G:=by simp [blk] at hb;exact hb.symm
  subst hb2
  exact hg.block b (h.lt b (by rfl)).2 (fun q=>by have:=(hv.lt b q.symm).1;omega))
set_option maxRecDepth 100000 in
set_option maxHeartbeats 8000000 in
theorem commitHeads_ix (B Z m:Nat) (v1 v2 v3:Value) (t:Tre) (ts:List Value) (ac:Option Addr) (nc cc:Nat) (C:List Bool) (w:World) (h:TrIx w B Z m tTreP v1 v2 v3 t ts) (ht:treB t=true) (hc:RowO w ac nc C) (hn:nc=t.blocks.length) :
  Calls Tryz.prog 119 #[.pointer (some ⟨Z,0,none⟩),.slice ac nc cc] w (NewIs w (hdsM t C)):=by
 have htk:=(treB_iff t).1 ht
 obtain ⟨b,off,c2,b3,off3,c3,rfl,rfl,hixr⟩:=ixRd_of h htk
 have h1:=htk.one
 have hm14:=htk.most
 have hcl:=hc.1
 obtain ⟨N,hN⟩:∃ N,N=t.blocks.length:=⟨_,rfl⟩
 rw [← hN] at hixr h1 hm14 hn
 subst hn
 obtain ⟨bc,oc,rfl,-⟩:=hc.2.2 (by omega)
 have HK:=Lib.hid (fun (W:World) (hb:Below w.heap.size w W)=>(⟨hixr W hb,hc.below hb⟩:IxRd t Z m nc v1 (some ⟨b,off,none⟩) c2 b off (some ⟨b3,off3,none⟩) c3 b3 off3 W∧RowO W (some ⟨bc,oc,none⟩) nc C))
 have hF:∀ c,c < nc→t.bef.getD c 0 < c:=fun c hc=>(htk.befBd (by rw [← hN];exact hc)).2
 have HBB:=Lib.hid (fun c (hc:c < nc)=>htk.befBd (k:=c) (by rw [← hN];exact hc))
 have HVB:=Lib.hid (fun c (hc:c < nc)=>view_bd htk (k:=c) (by rw [← hN];exact hc))
 have HF:=Lib.hid hF
 have HCL:=Lib.hid hcl
 obtain ⟨G,hG⟩:∃ G,G=w.heap.size:=⟨_,rfl⟩
 have HG:=Lib.hid hG
 obtain ⟨⟨⟨y0,y1,y2,y3,-⟩,-,-⟩,-⟩:=HK.out w (Below.refl _ _)
 clear h ht hc htk hcl hN hF hixr
 obtain ⟨i0,hi,hz0,hz1,hz2⟩:=info_parts infoIntP
 go_enter Tryz.func119,Tryz.ntmps119
 go_wp2_with (first | (at_make;refine wpList_make_full _ rfl (.tmp 14) (.tmp 14) 25 rfl w.heap.size 3 i0 (.int .i64 0) 1 Tryz.underlying25 hi hz0 hz1 .i64 .i64 nc nc nc rfl rfl rfl rfl (by rw [hz2];omega) (by unfold maxLen;omega) (Nat.le_refl _) ?_;intro w2 hown hgrow;clear hi hz0 hz1 hz2;have hcells:(madeCells (Value.int .i64 0).cells (nc*1)).toList=(List.replicate nc (0:Int)).map (Value.int .i64):=(by rw [Nat.mul_one];exact (toList_madeCells_one _ _).trans (by simp));rw [hcells] at hown;have hb2:Below w.heap.size w w2:=(Below.refl _ _).grown hgrow (Nat.le_refl _) (fun k hk=>by simp at hk);clear hcells;obtain ⟨⟨⟨ya0,ya1,ya2,ya3,-⟩,-,-⟩,-⟩:=HK.out w2 hb2))
 rw [← hG] at hown
 have HOW:=Lib.hid hown
 have HB2:=Lib.hid hb2
 clear hown hgrow hb2 y0 y1 y2 y3 ya0 ya1 ya2 ya3 hG
 rw [← HG.out]
 go_loopw [5,7] (fun hv q wr=>∃ (k:Nat) (R:List Int),k≤nc∧q = .int .i64 ((k:Int) - 1)∧RowsTo C t.bef (vwAt t) nc R k∧wr.ownsRow G 3 1 (.slice (some ⟨G,0,none⟩) nc nc) nc (R.map (Value.int .i64))∧wr.ownsRow (G+1) 3 1 hv (downTo (comK C t.bef (vwAt t) nc) nc (nc - k)).length ((downTo (comK C t.bef (vwAt t) nc) nc (nc - k)).map (Value.int .i64))∧Below G w wr∧G+1≤wr.heap.size) (fun _ q _=>(intOf q+1).toNat)
 case atStart =>
  refine ⟨nc,List.replicate nc 0,Nat.le_refl _,by rfl,rowsTo_new _ _ _ _,HOW.out,?_,by rw [HG.out];exact HB2.out,?_⟩
  · rw [Nat.sub_self];exact World.ownsRow_nil _ _ _ _
  · exact (HOW.out.lt G (by rfl)).2
 case round =>
  clear HOW HB2
  obtain ⟨k,R,hk,rfl,hrt,hor,hoh,hb,hgw⟩:=hrel
  cases k with
  | zero =>
   rw [Nat.sub_zero] at hoh
   obtain ⟨hk1,hk2⟩:=hdsM_ok (t:=t) (C:=C) (by rw [HCL.out];exact hm14)
   have HFI:=Lib.hid (And.intro hk1 hk2)
   have HLN:=Lib.hid (downTo_len (comK C t.bef (vwAt t) nc) nc nc)
   have HRV:Hid ((downTo (comK C t.bef (vwAt t) nc) nc nc).reverse=hdsM t C):=Lib.hid (by rw [down_all];unfold hdsM;rw [HCL.out])
   have HB:=Lib.hid hb
   have HOH:=Lib.hid hoh
   clear hrt hor hb hoh hk1 hk2
   go_wp2_with fail
   refine (reverseI_own (G+1) _ _ _ _ wr HOH.out rfl (by have:=HLN.out;omega)).mono ?_;rintro e w3 ⟨rfl,ho3,hg3⟩
   rw [HRV.out] at ho3
   have hle:(downTo (comK C t.bef (vwAt t) nc) nc nc).length=(hdsM t C).length:=by rw [← HRV.out,List.length_reverse]
   rw [hle] at ho3
   have hb3:Below G w w3:=HB.out.grown hg3 (by omega) (fun k hk=>by have:=(HOH.out.lt k hk).1;omega)
   go_wp2_with fail
   go_ret
   exact ⟨_,rfl,by rw [← HG.out];exact owns_mono ho3 (by omega),HFI.out.1,HFI.out.2,by rw [← HG.out];exact hb3⟩
  | succ j =>
   have hjn:j < nc:=by omega
   have ej:(((j+1:Nat):Int) - 1)=(j:Int):=by omega
   rw [ej]
   have HRT:=Lib.hid hrt
   have HOR:=Lib.hid hor
   have HOH:=Lib.hid hoh
   have HB:=Lib.hid hb
   have hcert:=(HK.out wr (by rw [← HG.out];exact hb)).2
   obtain ⟨_,_,e9,hcc⟩:=hcert.2.2 (by omega)
   simp only [Option.some.injEq,Addr.mk.injEq] at e9
   obtain ⟨rfl,rfl,-⟩:=e9
   have hcj:=hcc j hjn
   have i1:(0:Int)≤(j:Int):=by omega
   have i2:(j:Int) < (nc:Int):=by omega
   obtain ⟨ah,nh,ch,rfl⟩:=slice_form hoh
   clear hrt hor hoh hb hcert hcc ej
   cases hcb:C.getD j false with
   | false =>
    rw [hcb] at hcj
    have HE:=Lib.hid (HRT.out.skip hcb)
    have HDN:Hid (downTo (comK C t.bef (vwAt t) nc) nc (nc - j)=downTo (comK C t.bef (vwAt t) nc) nc (nc - (j+1))):=Lib.hid (by rw [downTo_next hjn,comK_false hcb];rfl)
    clear hcb
    go_wp2_with fail
    go_roundw
    case rel=>exact ⟨j,R,by omega,by go_num,HE.out,HOR.out,by rw [HDN.out];exact HOH.out,HB.out,hgw⟩
    case measure=>simp [intOf]
   | true =>
    rw [hcb] at hcj
    have HCB:=Lib.hid hcb
    have hbd:=HRT.out.bd j hjn
    have hrl:=HRT.out.len
    obtain ⟨r,hr⟩:∃ r,r=R.getD j 0:=⟨_,rfl⟩
    have hce:=HOR.out.cellAt j (by omega)
    rw [List.getElem?_map,List.getElem?_eq_getElem (by rw [hrl];exact hjn)] at hce
    have hge:R[j]'(by rw [hrl];exact hjn)=r:=by rw [hr,List.getD_eq_getElem?_getD,List.getElem?_eq_getElem (by rw [hrl];exact hjn)];rfl
    rw [hge] at hce
    simp only [Option.map_some] at hce
    have hfz:=HOR.out.frozenAt j
    rw [← hr] at hbd
    have hw1:IntKind.i64.wrap (r+1)=r+1:=IntWalk.i64_in _ (by omega)
    have hst:=(HOR.out.stored j (.int .i64 (r+1))).1
    rw [← List.map_set] at hst
    have hoh7:=owns_setC HOH.out j (.int .i64 (r+1))
    have h3:=HRT.out.three HF.out HCB.out
    rw [← hr] at h3
    have HR:=Lib.hid hr
    have HRL:=Lib.hid hrl
    obtain ⟨w7,hw7⟩:∃ w7,w7=wr.setCell ⟨G,j,none⟩ (.int .i64 (r+1)):=⟨_,rfl⟩
    have HW7:=Lib.hid hw7
    have hb7:Below G w w7:=by rw [hw7];exact HB.out.setCell (Nat.le_refl _) _
    have hgW:G+1≤w7.heap.size:=by rw [hw7];simpa [World.setCell] using hgw
    rw [← hw7] at hst hoh7
    have hce7:=hst.cellAt j (by omega)
    rw [List.getElem?_map,List.getElem?_set,if_pos rfl,if_pos (by rw [hrl];exact hjn)] at hce7
    simp only [Option.map_some] at hce7
    have HBW:=Lib.hid hb7
    have HOR:=Lib.hid hst
    clear hbd hr hrl hge hst hw7 hb7 HB hgw
    go_upto_region 8 with (fail)
    rw [← HW7.out]
    clear HW7 hce hfz hw1 hcj
    cases h3b:decide (3≤r+1) with
    | false =>
     rw [h3b] at h3
     have HOH:Hid (w7.ownsRow (G+1) 3 1 (.slice ah nh ch) (downTo (comK C t.bef (vwAt t) nc) nc (nc - j)).length ((downTo (comK C t.bef (vwAt t) nc) nc (nc - j)).map (Value.int .i64))):=Lib.hid (by rw [downTo_next hjn,h3,if_neg (by simp)];exact hoh7)
     clear hoh7 h3
     go_upto_region 10 with (fail)
     clear h3b hce7
     obtain ⟨⟨⟨y0,y1,y2,y3,-⟩,hvw,hbf⟩,-⟩:=HK.out w7 (by rw [← HG.out];exact HBW.out)
     have hfj:=hbf j hjn
     have hvj:=hvw j hjn
     obtain ⟨f,hf⟩:∃ f,f=t.bef.getD j 0:=⟨_,rfl⟩
     have hfb:=HBB.out j hjn
     rw [← hf] at hfj hfb
     have HFF:=Lib.hid hf
     clear hbf hf
     by_cases hf1:f = -1
     · subst hf1
       have HRN:Hid (RowsTo C t.bef (vwAt t) nc (R.set j (r+1)) j):=Lib.hid (by rw [HR.out];exact HRT.out.alone hjn (fun i hi q=>by have:=HFF.out;omega))
       clear hvw hvj hfb
       go_upto_region 11 with (fail)
       go_quiet (fail)
       go_wp2_with fail
       go_roundw
       case rel=>exact ⟨j,_,by omega,by go_num,HRN.out,HOR.out,HOH.out,by first | exact HBW.out | exact below_drewN' HBW.out _,hgW⟩
       case measure=>simp [intOf]
     · obtain ⟨p,hp⟩:=Int.eq_ofNat_of_zero_le (show 0≤f by omega)
       change f=(p:Int) at hp
       subst hp
       have hpj:p < j:=by omega
       have hvp:=hvw p (by omega)
       obtain ⟨vj,hvj2⟩:∃ vj,vj=vwAt t j:=⟨_,rfl⟩
       obtain ⟨vp,hvp2⟩:∃ vp,vp=vwAt t p:=⟨_,rfl⟩
       have hbp:=HVB.out p (by omega)
       rw [← hvj2] at hvj
       rw [← hvp2] at hvp hbp
       have HVJ:=Lib.hid hvj2
       have HVP:=Lib.hid hvp2
       have e1:((p:Int) != -1)=true:=bne_iff_ne.2 (by omega)
       have hw2:IntKind.i64.wrap (vp+1)=vp+1:=IntWalk.i64_in _ (by omega)
       have i3:(0:Int)≤(p:Int):=by omega
       have i4:(p:Int) < (nc:Int):=by omega
       clear hvw hf1 hvj2 hvp2 hfb hbp
       by_cases hv:vj=vp+1
       · have e2:(vj == vp+1)=true:=by simp [hv]
         have hgs:=HOR.out.cellAt p (by omega)
         obtain ⟨s,hs⟩:∃ s,s=R.getD p 0:=⟨_,rfl⟩
         have hlr:=HRL.out
         rw [List.getElem?_map,List.getElem?_set,if_neg (by omega),List.getElem?_eq_getElem (show p < R.length by omega)] at hgs
         have hgp:R[p]'(by omega)=s:=by rw [hs,List.getD_eq_getElem?_getD,List.getElem?_eq_getElem (show p < R.length by omega)];rfl
         rw [hgp] at hgs
         simp only [Option.map_some] at hgs
         have hfp:=HOR.out.frozenAt p
         have hgj:=HOR.out.cellAt j (by omega)
         rw [List.getElem?_map,List.getElem?_set,if_pos rfl,if_pos (by omega)] at hgj
         simp only [Option.map_some] at hgj
         obtain ⟨x,hx⟩:∃ x,x=if s < r+1 then r+1 else s:=⟨_,rfl⟩
         have hst2:=(HOR.out.stored p (.int .i64 x)).1
         rw [← List.map_set] at hst2
         have HST2:=Lib.hid hst2
         have HRN:Hid (RowsTo C t.bef (vwAt t) nc ((R.set j (r+1)).set p x) j):=Lib.hid (by rw [HR.out];exact HRT.out.take HF.out HCB.out hjn HFF.out.symm (by rw [← HVJ.out,← HVP.out];exact hv) (by rw [hx,hs,← HR.out]))
         have HOH2:=Lib.hid (owns_setC HOH.out p (.int .i64 x))
         have HBW2:=Lib.hid (HBW.out.setCell (p:=⟨G,p,none⟩) (Nat.le_refl _) (.int .i64 x))
         have hgW2:G+1≤(w7.setCell ⟨G,p,none⟩ (.int .i64 x)).heap.size:=by simpa [World.setCell] using hgW
         have HX:=Lib.hid hx
         clear hst2 hgp hlr hs hv hx hpj
         go_upto_region 11 with (fail)
         go_quiet (fail)
         go_wp2_with fail
         go_region
         rw [← HX.out]
         go_wp2_with fail
         go_roundw
         case rel=>exact ⟨j,_,by omega,by go_num,HRN.out,HST2.out,HOH2.out,by first | exact HBW2.out | exact HBW2.out.drew | exact (below_drewN' HBW2.out _).drew | exact below_drewN' HBW2.out _,hgW2⟩
         case measure=>simp [intOf]
       · have e2:(vj == vp+1)=false:=by simp [hv]
         have HRN:Hid (RowsTo C t.bef (vwAt t) nc (R.set j (r+1)) j):=Lib.hid (by rw [HR.out];exact HRT.out.alone hjn (fun i hi q=>by
          have h1:=HFF.out
          have:i=p:=by omega
          subst this
          exact hv (by rw [HVJ.out,HVP.out];exact q.2)))
         clear hv hpj
         go_upto_region 11 with (fail)
         go_quiet (fail)
         go_wp2_with fail
         go_roundw
         case rel=>exact ⟨j,_,by omega,by go_num,HRN.out,HOR.out,HOH.out,by first | exact HBW.out | exact below_drewN' HBW.out _,hgW⟩
         case measure=>simp [intOf]
    | true =>
     rw [h3b] at h3
     have hdl:=downTo_len (comK C t.bef (vwAt t) nc) nc (nc - (j+1))
     go_upto_region 9 with (fail)
     clear h3b hce7
     go_upto_region 10 with (first | (at_builtin;refine wpList_append_lit (W:=w7) rfl _ _ 25 rfl (G+1) 3 3 (.int .i64 0) 1 8 1 Tryz.underlying25 infoIntP rfl (by decide) _ (downTo (comK C t.bef (vwAt t) nc) nc (nc - (j+1))).length _ [.int .i64 (j:Int)] (by rfl) hoh7 (by simp [Act.eval]) rfl ?c11 (by decide) ?c21 (by decide) ?c31 ?_))
     case c11=>intro u hu;simp at hu;rcases hu with rfl;rfl
     case c21=>show (downTo (comK C t.bef (vwAt t) nc) nc (nc - (j+1))).length+1≤_;omega
     case c31=>exact hgW
     intro v10 w10 ho10 hnn10 hg10 hat10
     obtain ⟨pa,pn,pc,rfl⟩:=slice_form ho10
     have hb7a:Below w7.heap.size w7 (w7.alloc (.cells #[.int .i64 (j:Int)] 3)):=(Below.refl _ _).alloc (Nat.le_refl _) _
     have hor10:=owns_grownC (owns_below HOR.out hb7a) (owns_below hoh7 hb7a) hg10
     have hb10:Below G w w10:=(HBW.out.trans (hb7a.mono (by omega))).grown hg10 (by rw [World.size_alloc];omega) (fun k hk=>by have:=(hoh7.lt k hk).1;omega)
     have hgW10:G+1≤w10.heap.size:=by have:=hg10.size;rw [World.size_alloc] at this;omega
     have HOHN:Hid (w10.ownsRow (G+1) 3 1 (.slice pa pn pc) (downTo (comK C t.bef (vwAt t) nc) nc (nc - j)).length ((downTo (comK C t.bef (vwAt t) nc) nc (nc - j)).map (Value.int .i64))):=Lib.hid (by rw [downTo_next hjn,h3,if_pos rfl,List.length_append,List.map_append];exact ho10)
     have HORN:=Lib.hid hor10
     have HBWN:=Lib.hid hb10
     clear ho10 hnn10 hg10 hat10 hb7a hor10 hb10 hoh7 h3 hgW hdl HOR HBW HOH
     have HOR:=HORN
     have HOH:=HOHN
     have HBW:=HBWN
     have hgW:=hgW10
     clear HORN HOHN HBWN hgW10
     obtain ⟨⟨⟨y0,y1,y2,y3,-⟩,hvw,hbf⟩,-⟩:=HK.out w10 (by rw [← HG.out];exact HBW.out)
     have hfj:=hbf j hjn
     have hvj:=hvw j hjn
     obtain ⟨f,hf⟩:∃ f,f=t.bef.getD j 0:=⟨_,rfl⟩
     have hfb:=HBB.out j hjn
     rw [← hf] at hfj hfb
     have HFF:=Lib.hid hf
     clear hbf hf
     by_cases hf1:f = -1
     · subst hf1
       have HRN:Hid (RowsTo C t.bef (vwAt t) nc (R.set j (r+1)) j):=Lib.hid (by rw [HR.out];exact HRT.out.alone hjn (fun i hi q=>by have:=HFF.out;omega))
       clear hvw hvj hfb
       go_upto_region 11 with (fail)
       go_quiet (fail)
       go_wp2_with fail
       go_roundw
       case rel=>exact ⟨j,_,by omega,by go_num,HRN.out,HOR.out,HOH.out,by first | exact HBW.out | exact below_drewN' HBW.out _,hgW⟩
       case measure=>simp [intOf]
     · obtain ⟨p,hp⟩:=Int.eq_ofNat_of_zero_le (show 0≤f by omega)
       change f=(p:Int) at hp
       subst hp
       have hpj:p < j:=by omega
       have hvp:=hvw p (by omega)
       obtain ⟨vj,hvj2⟩:∃ vj,vj=vwAt t j:=⟨_,rfl⟩
       obtain ⟨vp,hvp2⟩:∃ vp,vp=vwAt t p:=⟨_,rfl⟩
       have hbp:=HVB.out p (by omega)
       rw [← hvj2] at hvj
       rw [← hvp2] at hvp hbp
       have HVJ:=Lib.hid hvj2
       have HVP:=Lib.hid hvp2
       have e1:((p:Int) != -1)=true:=bne_iff_ne.2 (by omega)
       have hw2:IntKind.i64.wrap (vp+1)=vp+1:=IntWalk.i64_in _ (by omega)
       have i3:(0:Int)≤(p:Int):=by omega
       have i4:(p:Int) < (nc:Int):=by omega
       clear hvw hf1 hvj2 hvp2 hfb hbp
       by_cases hv:vj=vp+1
       · have e2:(vj == vp+1)=true:=by simp [hv]
         have hgs:=HOR.out.cellAt p (by omega)
         obtain ⟨s,hs⟩:∃ s,s=R.getD p 0:=⟨_,rfl⟩
         have hlr:=HRL.out
         rw [List.getElem?_map,List.getElem?_set,if_neg (by omega),List.getElem?_eq_getElem (show p < R.length by omega)] at hgs
         have hgp:R[p]'(by omega)=s:=by rw [hs,List.getD_eq_getElem?_getD,List.getElem?_eq_getElem (show p < R.length by omega)];rfl
         rw [hgp] at hgs
         simp only [Option.map_some] at hgs
         have hfp:=HOR.out.frozenAt p
         have hgj:=HOR.out.cellAt j (by omega)
         rw [List.getElem?_map,List.getElem?_set,if_pos rfl,if_pos (by omega)] at hgj
         simp only [Option.map_some] at hgj
         obtain ⟨x,hx⟩:∃ x,x=if s < r+1 then r+1 else s:=⟨_,rfl⟩
         have hst2:=(HOR.out.stored p (.int .i64 x)).1
         rw [← List.map_set] at hst2
         have HST2:=Lib.hid hst2
         have HRN:Hid (RowsTo C t.bef (vwAt t) nc ((R.set j (r+1)).set p x) j):=Lib.hid (by rw [HR.out];exact HRT.out.take HF.out HCB.out hjn HFF.out.symm (by rw [← HVJ.out,← HVP.out];exact hv) (by rw [hx,hs,← HR.out]))
         have HOH2:=Lib.hid (owns_setC HOH.out p (.int .i64 x))
         have HBW2:=Lib.hid (HBW.out.setCell (p:=⟨G,p,none⟩) (Nat.le_refl _) (.int .i64 x))
         have hgW2:G+1≤(w10.setCell ⟨G,p,none⟩ (.int .i64 x)).heap.size:=by simpa [World.setCell] using hgW
         have HX:=Lib.hid hx
         clear hst2 hgp hlr hs hv hx hpj
         go_upto_region 11 with (fail)
         go_quiet (fail)
         go_wp2_with fail
         go_region
         rw [← HX.out]
         go_wp2_with fail
         go_roundw
         case rel=>exact ⟨j,_,by omega,by go_num,HRN.out,HST2.out,HOH2.out,by first | exact HBW2.out | exact HBW2.out.drew | exact (below_drewN' HBW2.out _).drew | exact below_drewN' HBW2.out _,hgW2⟩
         case measure=>simp [intOf]
       · have e2:(vj == vp+1)=false:=by simp [hv]
         have HRN:Hid (RowsTo C t.bef (vwAt t) nc (R.set j (r+1)) j):=Lib.hid (by rw [HR.out];exact HRT.out.alone hjn (fun i hi q=>by
          have h1:=HFF.out
          have:i=p:=by omega
          subst this
          exact hv (by rw [HVJ.out,HVP.out];exact q.2)))
         clear hv hpj
         go_upto_region 11 with (fail)
         go_quiet (fail)
         go_wp2_with fail
         go_roundw
         case rel=>exact ⟨j,_,by omega,by go_num,HRN.out,HOR.out,HOH.out,by first | exact HBW.out | exact below_drewN' HBW.out _,hgW⟩
         case measure=>simp [intOf]
set_option maxRecDepth 100000 in
set_option maxHeartbeats 4000000 in
theorem committedTo_ix (B Z m:Nat) (v1 v2 v3:Value) (t:Tre) (ts:List Value) (ah:Option Addr) (nh ch:Nat) (H:List Int) (w:World) (h:TrIx w B Z m tTreP v1 v2 v3 t ts) (ht:treB t=true) (hr:RowI w ah nh H) (hH:∀ x∈H,∃ k:Nat,x=k∧k < t.blocks.length) :
  Calls Tryz.prog 120 #[.pointer (some ⟨Z,0,none⟩),.slice ah nh ch] w (IntB (ctoM t H) w):=by
 have htk:=(treB_iff t).1 ht
 obtain ⟨b,off,c2,b3,off3,c3,rfl,rfl,hixr⟩:=ixRd_of h htk
 have h1:=htk.one
 have hhl:=hr.1
 have hmx:=hr.2.1
 unfold maxLen at hmx
 have hto:∀ k,k≤H.length→∃ T:Nat,toK (vwAt t) H k=T∧T < t.blocks.length:=by
  intro k hk
  rcases toK_mem (V:=vwAt t) (H:=H) k hk with e | e
  · exact ⟨0,e,h1⟩
  · exact hH _ e
 have hat:∀ j,j < H.length→∃ k:Nat,H.getD j 0=k∧k < t.blocks.length:=fun j hj=>hH _ (by
  rw [List.getD_eq_getElem?_getD,List.getElem?_eq_getElem hj];exact List.getElem_mem _)
 obtain ⟨N,hN⟩:∃ N,N=t.blocks.length:=⟨_,rfl⟩
 rw [← hN] at hixr hto hat
 have HTO:=Lib.hid hto
 have HAT:=Lib.hid hat
 have HHL:=Lib.hid hhl
 have HK:=Lib.hid (fun (W:World) (hb:Below w.heap.size w W)=>(⟨hixr W hb,hr.below hb⟩:IxRd t Z m N v1 (some ⟨b,off,none⟩) c2 b off (some ⟨b3,off3,none⟩) c3 b3 off3 W∧RowI W ah nh H))
 clear h ht hr hH htk h1 hixr hto hat hN hhl
 go_enter Tryz.func120,Tryz.ntmps120
 go_wp2_with fail
 go_loopw [5,10] (fun q i wr=>∃ k:Nat,k≤nh∧i = .int .i64 (k:Int)∧q = .int .i64 (toK (vwAt t) H k)∧Below w.heap.size w wr) (fun _ i _=>nh - (intOf i).toNat)
 case atStart=>exact ⟨0,Nat.zero_le _,rfl,rfl,Below.refl _ _⟩
 case round =>
  obtain ⟨k,hk,rfl,rfl,hb⟩:=hrel
  obtain ⟨T,hT,hTN⟩:=HTO.out k (by rw [HHL.out];exact hk)
  by_cases hlt:k < nh
  · obtain ⟨⟨⟨y0,y1,y2,y3,-⟩,hvw,-⟩,hrw⟩:=HK.out wr hb
    obtain ⟨x,hx,hxN⟩:=HAT.out k (by rw [HHL.out];exact hlt)
    obtain ⟨bh,oh,rfl,hch⟩:=hrw.2.2.1 (by omega)
    have hcx:=hch k hlt
    rw [hx] at hcx
    have hvx:=hvw x hxN
    have hvt:=hvw T hTN
    obtain ⟨vx,hvx2⟩:∃ v,v=vwAt t x:=⟨_,rfl⟩
    obtain ⟨vt,hvt2⟩:∃ v,v=vwAt t T:=⟨_,rfl⟩
    rw [← hvx2] at hvx
    rw [← hvt2] at hvt
    have HEQ:Hid (toK (vwAt t) H (k+1)=if vt < vx then (x:Int) else (T:Int)):=Lib.hid (by rw [toK,hT,hx,Int.toNat_natCast,Int.toNat_natCast,← hvx2,← hvt2])
    rw [hT]
    have HB:=Lib.hid hb
    have i1:(0:Int)≤(x:Int):=by omega
    have i2:(x:Int) < (N:Int):=by omega
    have i3:(0:Int)≤(T:Int):=by omega
    have i4:(T:Int) < (N:Int):=by omega
    have i5:(0:Int)≤(k:Int):=by omega
    have i6:(k:Int) < (nh:Int):=by omega
    clear hvw hrw hch hx hT hvx2 hvt2 hb hTN hxN
    by_cases hv:vt < vx
    · have e2:decide (vt < vx)=true:=decide_eq_true hv
      have HE:Hid (toK (vwAt t) H (k+1)=(x:Int)):=Lib.hid (by rw [HEQ.out,if_pos hv])
      clear hv HEQ
      go_upto_region 5 with (fail)
      go_quiet (fail)
      go_wp2_with fail
      go_roundw
      case rel=>exact ⟨k+1,by omega,by go_num,by rw [HE.out],by first | exact HB.out | exact below_drewN' HB.out _⟩
      case measure=>simp [intOf];omega
    · have e2:decide (vt < vx)=false:=decide_eq_false hv
      have HE:Hid (toK (vwAt t) H (k+1)=(T:Int)):=Lib.hid (by rw [HEQ.out,if_neg hv])
      clear hv HEQ
      go_upto_region 5 with (fail)
      go_quiet (fail)
      go_wp2_with fail
      go_roundw
      case rel=>exact ⟨k+1,by omega,by go_num,by rw [HE.out],by first | exact HB.out | exact below_drewN' HB.out _⟩
      case measure=>simp [intOf];omega
  · obtain rfl:k=nh:=by omega
    have HE:Hid (toK (vwAt t) H k=ctoM t H):=Lib.hid (by unfold ctoM;rw [HHL.out])
    rw [HE.out]
    clear hT
    go_wp2_with fail
    go_ret
    exact ⟨rfl,hb⟩
set_option maxRecDepth 100000 in
set_option maxHeartbeats 4000000 in
theorem commitHeads_impl (v1 v2 v3:Value) (t:Tre) (a:Option Addr) (n c:Nat) (cs:List Ver) (w:World) (h:TreRd w v1 v2 v3 t) (hc:RowV w a n cs) :
  Calls Tryz.prog 54 #[.agg #[v1,v2,v3],.slice a n c] w (NewIs w (hdsM t (cerM t cs))):=by
 have hrd:=h
 obtain ⟨⟨a1,n1,c1,rfl,-⟩,⟨a2,n2,c2,rfl,-⟩,a3,n3,c3,rfl,-⟩:=h
 have hb0:=(Below.refl w.heap.size w).alloc (Nat.le_refl _) (.cells #[.slice a1 n1 c1,.slice a2 n2 c2,.slice a3 n3 c3] 27)
 have hg0:=trAt_new w 27 (.slice a1 n1 c1) (.slice a2 n2 c2) (.slice a3 n3 c3)
 have hr0:=hrd.below hb0
 have hc0:=hc.below hb0
 obtain ⟨W1,hW1⟩:∃ W1,W1=w.alloc (.cells #[.slice a1 n1 c1,.slice a2 n2 c2,.slice a3 n3 c3] 27):=⟨_,rfl⟩
 have HW1:=Lib.hid hW1
 rw [← hW1] at hb0 hg0 hr0 hc0
 clear hW1 hrd hc
 have HB:=Lib.hid hb0
 have HRD:=Lib.hid hr0
 have HC:=Lib.hid hc0
 obtain ⟨x0,x1,x2,-⟩:=hg0
 clear hb0 hr0 hc0
 go_enter Tryz.func54,Tryz.ntmps54
 go_upto_region 1 with (fail)
 rw [← HW1.out]
 clear HW1
 go_wp2_with fail
 refine (certifiedTreeOf_impl _ _ _ t a n c cs _ HRD.out HC.out).mono ?_;rintro e w2 ⟨hb2,hno,hyes⟩
 have HBF:=Lib.hid (HB.out.trans (hb2.mono HB.out.size))
 clear x0 x1 x2 hb2
 rcases cerM_cases t cs with ⟨hf,-⟩ | ⟨ht,-,-,hl,hp,h14⟩
 · obtain rfl:=hno hf
   have HF:=Lib.hid hf
   clear hno hyes hf
   go_wp2_with fail
   go_ret
   rw [HF.out];exact newIs_nil _ _ HBF.out
 · obtain ⟨Z,m,u1,u2,u3,ts,v,rfl,hix,ho⟩:=hyes hp
   obtain ⟨ac,cc,rfl,hro,-⟩:=rowO_of_owns ho (by omega)
   have HRO:=Lib.hid hro
   have HIX:=Lib.hid hix
   have HT:=Lib.hid ht
   have HL:=Lib.hid hl
   have HP:=Lib.hid hp
   have H14:=Lib.hid h14
   clear hno hyes ho hp h14 hl ht hix hro
   go_wp2_with fail
   refine (commitHeads_ix W1.heap.size Z m u1 u2 u3 t ts ac _ cc (cerM t cs) w2 HIX.out HT.out HRO.out HL.out).mono ?_;rintro e w3 ⟨vh,rfl,ho3,hwf3,hl3,hb3⟩
   have HBF3:=Lib.hid (HBF.out.trans (hb3.mono HBF.out.size))
   have HO3:=Lib.hid (owns_mono ho3 HBF.out.size)
   clear ho3 hb3
   go_wp2_with fail
   go_ret
   exact ⟨_,rfl,HO3.out,hwf3,hl3,HBF3.out⟩
set_option maxRecDepth 100000 in
set_option maxHeartbeats 4000000 in
theorem committedTo_impl (v1 v2 v3:Value) (t:Tre) (a:Option Addr) (n c:Nat) (cs:List Ver) (w:World) (h:TreRd w v1 v2 v3 t) (hc:RowV w a n cs) :
  Calls Tryz.prog 59 #[.agg #[v1,v2,v3],.slice a n c] w (IntB (ctM t cs) w):=by
 have hrd:=h
 obtain ⟨⟨a1,n1,c1,rfl,-⟩,⟨a2,n2,c2,rfl,-⟩,a3,n3,c3,rfl,-⟩:=h
 have hb0:=(Below.refl w.heap.size w).alloc (Nat.le_refl _) (.cells #[.slice a1 n1 c1,.slice a2 n2 c2,.slice a3 n3 c3] 27)
 have hg0:=trAt_new w 27 (.slice a1 n1 c1) (.slice a2 n2 c2) (.slice a3 n3 c3)
 have hr0:=hrd.below hb0
 have hc0:=hc.below hb0
 obtain ⟨W1,hW1⟩:∃ W1,W1=w.alloc (.cells #[.slice a1 n1 c1,.slice a2 n2 c2,.slice a3 n3 c3] 27):=⟨_,rfl⟩
 have HW1:=Lib.hid hW1
 rw [← hW1] at hb0 hg0 hr0 hc0
 clear hW1 hrd hc
 have HB:=Lib.hid hb0
 have HRD:=Lib.hid hr0
 have HC:=Lib.hid hc0
 obtain ⟨x0,x1,x2,-⟩:=hg0
 clear hb0 hr0 hc0
 go_enter Tryz.func59,Tryz.ntmps59
 go_upto_region 1 with (fail)
 rw [← HW1.out]
 clear HW1
 go_wp2_with fail
 refine (certifiedTreeOf_impl _ _ _ t a n c cs _ HRD.out HC.out).mono ?_;rintro e w2 ⟨hb2,hno,hyes⟩
 have HBF:=Lib.hid (HB.out.trans (hb2.mono HB.out.size))
 clear x0 x1 x2 hb2
 rcases cerM_cases t cs with ⟨hf,-⟩ | ⟨ht,-,-,hl,hp,h14⟩
 · obtain rfl:=hno hf
   have HF:=Lib.hid hf
   clear hno hyes hf
   go_wp2_with fail
   go_ret
   exact ⟨by unfold ctM;rw [HF.out];rfl,HBF.out⟩
 · obtain ⟨Z,m,u1,u2,u3,ts,v,rfl,hix,ho⟩:=hyes hp
   obtain ⟨ac,cc,rfl,hro,-⟩:=rowO_of_owns ho (by omega)
   have HRO:=Lib.hid hro
   have HIX:=Lib.hid hix
   have HT:=Lib.hid ht
   have HL:=Lib.hid hl
   have HP:=Lib.hid hp
   have H14:=Lib.hid h14
   clear hno hyes ho hp h14 hl ht hix hro
   go_wp2_with fail
   refine (commitHeads_ix W1.heap.size Z m u1 u2 u3 t ts ac _ cc (cerM t cs) w2 HIX.out HT.out HRO.out HL.out).mono ?_;rintro e w3 ⟨vh,rfl,ho3,hwf3,hl3,hb3⟩
   obtain ⟨a4,c4,rfl,r4⟩:=rowI_of_owns ho3 (by unfold maxLen;omega) hwf3
   have HBF3:=Lib.hid (HBF.out.trans (hb3.mono HBF.out.size))
   have HR4:=Lib.hid r4
   have HIX3:=Lib.hid (HIX.out.below hb3)
   have HHM:Hid (∀ x∈hdsM t (cerM t cs),∃ k:Nat,x=k∧k < t.blocks.length):=Lib.hid (fun x hx=>by obtain ⟨k,e,hk,-⟩:=hdsM_mem hx;exact ⟨k,e,by rw [← HL.out];exact hk⟩)
   clear ho3 hb3 hwf3 hl3 r4
   go_wp2_with fail
   refine (committedTo_ix W1.heap.size Z m u1 u2 u3 t ts a4 _ c4 _ w3 HIX3.out HT.out HR4.out HHM.out).mono ?_;rintro e w4 ⟨rfl,hb4⟩
   have HBF4:=Lib.hid (HBF3.out.trans (hb4.mono HBF3.out.size))
   have HE:Hid (ctM t cs=ctoM t (hdsM t (cerM t cs))):=Lib.hid (by unfold ctM;rw [if_neg (by have:=HP.out;omega)])
   clear hb4
   go_wp2_with fail
   go_ret
   exact ⟨by rw [HE.out];rfl,HBF4.out⟩
end Go.Proofs.YtpnjgmgmakmgeaaGreat
