/- Texts of ours that stand together: MarkSl, HeldA, ConvEng6, MarkEng, TwoE -/
import Derived.Test.YtoiblfjafjoaeabGreatConvH
import Derived.Test.YtoiblfjafjoaeabGreatConvX
import Derived.Test.YtoiblfjafjoaeabGreatConvA
import Derived.Test.YtoiblfjafjoaeabGreatConv
import Derived.Test.YtoiblfjafjoaeabGreatExLib
import Derived.Test.YtoiblfjafjoaeabGreatStepG
import Derived.Deep.Cut
import Derived.Test.YtoiblfjafjoaeabGreatConvG
/- Marks of slots: plain mathematics. No function of the program is named here. -/
namespace Go.Proofs.YtoiblfjafjoaeabGreat
set_option linter.unusedVariables false
def mkN (s:Slt):Nat:=3+s.from_.length+2*(s.res.rds.length+s.res.wrs.length)
def markOfS (k:Int) (s:Slt):Slt:=⟨k,k+1,marksI (k+2) s.from_.length,⟨mk3 (k+2+s.from_.length),marksE (k+3+s.from_.length) s.res.rds.length,marksE (k+3+s.from_.length+2*s.res.rds.length) s.res.wrs.length⟩⟩
def marksSl:Int→List Slt→List Slt
 | _,[]=>[]
 | k,s :: r=>markOfS k s :: marksSl (k+mkN s) r
def sumMk:List Slt→Nat
 | []=>0
 | s :: r=>mkN s+sumMk r
def offSl (L:List Slt) (j:Nat):Nat:=sumMk (L.take j)
theorem sumMk_append (l m:List Slt):sumMk (l++m)=sumMk l+sumMk m:=by
 induction l with
 | nil=>simp [sumMk]
 | cons a r ih=>simp only [List.cons_append,sumMk,ih];omega
theorem marksSl_append (k:Int) (l m:List Slt):marksSl k (l++m)=marksSl k l++marksSl (k+(sumMk l:Nat)) m:=by
 induction l generalizing k with
 | nil=>simp [marksSl,sumMk]
 | cons a r ih =>
  simp only [List.cons_append,marksSl,ih,sumMk]
  congr 3;omega
theorem marksSl_len (k:Int) (L:List Slt):(marksSl k L).length=L.length:=by
 induction L generalizing k with
 | nil=>rfl
 | cons a r ih=>simp [marksSl,ih]
theorem marksSl_next (k:Int) (L:List Slt) (j:Nat) (h:j < L.length):marksSl k (L.take (j+1))=marksSl k (L.take j)++[markOfS (k+offSl L j) (L.getD j noSlt)]:=by
 rw [take_one L j h,marksSl_append];rfl
theorem offSl_next (L:List Slt) (j:Nat) (h:j < L.length):offSl L (j+1)=offSl L j+mkN (L.getD j noSlt):=by
 unfold offSl;rw [take_one L j h,sumMk_append];simp [sumMk]
theorem marksSl_get (k:Int) (L:List Slt) (j:Nat) (h:j < L.length):(marksSl k L).getD j noSlt=markOfS (k+offSl L j) (L.getD j noSlt):=by
 have e:(marksSl k (L.take j)).length=j:=by rw [marksSl_len,List.length_take];omega
 have hs:=marksSl_append k (L.take (j+1)) (L.drop (j+1))
 rw [List.take_append_drop,marksSl_next k L j h] at hs
 rw [hs,List.getD_eq_getElem?_getD,List.append_assoc,List.getElem?_append_right (by rw [e];exact Nat.le_refl _),e,Nat.sub_self]
 rfl
def markSlTo (k:Int) (L:List Slt) (j:Nat):List Slt:=marksSl k (L.take j)++L.drop j
theorem markSlTo_len (k:Int) (L:List Slt) (j:Nat) (h:j≤L.length):(markSlTo k L j).length=L.length:=by
 simp [markSlTo,marksSl_len];omega
theorem markSlTo_zero (k:Int) (L:List Slt):markSlTo k L 0=L:=by simp [markSlTo,marksSl]
theorem markSlTo_all (k:Int) (L:List Slt):markSlTo k L L.length=marksSl k L:=by simp [markSlTo]
theorem markSlTo_get (k:Int) (L:List Slt) (j:Nat) (h:j < L.length):(markSlTo k L j).getD j noSlt=L.getD j noSlt:=by
 have e:(marksSl k (L.take j)).length=j:=by rw [marksSl_len,List.length_take];omega
 unfold markSlTo
 rw [List.getD_eq_getElem?_getD,List.getElem?_append_right (by rw [e];exact Nat.le_refl _),e,Nat.sub_self,List.getElem?_drop,Nat.add_zero,List.getD_eq_getElem?_getD]
theorem markSlTo_set (k:Int) (L:List Slt) (j:Nat) (h:j < L.length):(markSlTo k L j).set j (markOfS (k+offSl L j) (L.getD j noSlt))=markSlTo k L (j+1):=by
 have e:(marksSl k (L.take j)).length=j:=by rw [marksSl_len,List.length_take];omega
 unfold markSlTo
 rw [marksSl_next k L j h,List.set_append_right _ _ (by rw [e];exact Nat.le_refl _),e,Nat.sub_self,List.drop_eq_getElem_cons h,List.set_cons_zero,List.append_assoc]
 rfl
end Go.Proofs.YtoiblfjafjoaeabGreat
/- Marks of actions,and the contract of the laws' own helper heldActionS. -/
namespace Go.Proofs.YtoiblfjafjoaeabGreat
open Go.RowKit
set_option linter.unusedVariables false
def marksA (k:Int) (n:Nat):List Acn:=(List.range n).map fun i:Nat=>⟨k+4*i,k+4*i+1,k+4*i+2,k+4*i+3⟩
theorem marksA_len (k:Int) (n:Nat):(marksA k n).length=n:=by simp [marksA]
theorem marksA_get (k:Int) (n i:Nat) (h:i < n):(marksA k n).getD i noA=⟨k+4*i,k+4*i+1,k+4*i+2,k+4*i+3⟩:=by
 unfold marksA
 rw [List.getD_eq_getElem?_getD,List.getElem?_map,List.getElem?_range h];rfl
set_option maxHeartbeats 2000000 in
theorem heldActionS_any (a:Option Addr) (n cap:Nat) (k:Int) (w:World) (h:RowA w a n (marksA k n)) (hn:n≤4000000) (hk0:0≤k) (hk1:k≤100000000) :
  Calls Tryz.prog 69 #[.slice a n cap,.int .i64 k] w fun e w'=>e = .returned (.int .i64 (k+4*n))∧w=w':=by
 obtain ⟨-,hm,hc,-⟩:=h
 clear hm
 by_cases h0:0 < n
 · obtain ⟨b,off,rfl,hcc⟩:=hc h0;clear hc;have hc:=hcc;clear hcc
   go_enter Tryz.func69,Tryz.ntmps69
   go_wp2
   go_loop [1,5] (fun q i=>∃ j:Nat,j≤n∧i = .int .i64 j∧q = .int .i64 (k+4*j)) (fun _ i=>n - (intOf i).toNat)
   case atStart=>exact ⟨0,Nat.zero_le _,rfl,by simp⟩
   case round =>
    obtain ⟨j,hj,rfl,rfl⟩:=hrel
    by_cases hlt:j < n
    · obtain ⟨hc1,hc2,hc3,hc4⟩:=hc j hlt
      rw [marksA_get k n j hlt] at hc1 hc2 hc3 hc4
      simp only at hc1 hc2 hc3 hc4
      rw [show k+4*(j:Int)+2=k+4*(j:Int)+1+1 by omega] at hc3
      rw [show k+4*(j:Int)+3=k+4*(j:Int)+1+1+1 by omega] at hc4
      clear hc
      go_wp2
      go_round
      case rel=>exact ⟨j+1,by omega,by go_num,by congr 1;omega⟩
      case measure=>simp [intOf];omega
    · obtain rfl:j=n:=by omega
      clear hc
      go_wp2
      go_ret
      exact ⟨rfl,rfl⟩
 · obtain rfl:n=0:=by omega
   clear hc
   go_enter Tryz.func69,Tryz.ntmps69
   go_wp2
   go_loop [1,5] (fun q i=>q = .int .i64 k∧i = .int .i64 0) (fun _ _=>0)
   case atStart=>exact ⟨rfl,rfl⟩
   case round =>
    obtain ⟨rfl,rfl⟩:=hrel
    go_wp2
    go_ret
    exact ⟨ret_int (by simp),rfl⟩
theorem Own.storeA {w:World} {B:Nat} {e:TypeId} {g n cap:Nat} {l:List Acn} (h:Own w B e 4 (.slice (some ⟨g,0,none⟩) n cap) n (flatA l)) (k:Nat) (x:Acn) :
  Own ((((w.setCell ⟨g,k*4,none⟩ (.int .i64 x.kind)).setCell ⟨g,k*4+1,none⟩ (.int .i64 x.src)).setCell ⟨g,k*4+2,none⟩ (.int .i64 x.dst)).setCell ⟨g,k*4+3,none⟩ (.int .i64 x.amt)) B e 4 (.slice (some ⟨g,0,none⟩) n cap) n (flatA (l.set k x)):=by
 rw [flatA_set]
 exact ⟨((((h.1.stored (k*4) _).1.stored (k*4+1) _).1.stored (k*4+2) _).1.stored (k*4+3) _).1,h.2⟩
def markToA (k:Int) (l:List Acn) (i:Nat):List Acn:=marksA k i++l.drop i
theorem markToA_set (k:Int) (l:List Acn) (i:Nat) (h:i < l.length):(markToA k l i).set i ⟨k+4*i,k+4*i+1,k+4*i+2,k+4*i+3⟩=markToA k l (i+1):=by
 unfold markToA marksA
 rw [List.set_append_right _ _ (by simp),List.range_succ,List.map_append,List.append_assoc]
 congr 1
 rw [show i - (List.map (fun i:Nat=>(⟨k+4*(i:Int),k+4*(i:Int)+1,k+4*(i:Int)+2,k+4*(i:Int)+3⟩:Acn)) (List.range i)).length=0 by simp,List.drop_eq_getElem_cons h,List.set_cons_zero]
 rfl
theorem markToA_len (k:Int) (l:List Acn) (i:Nat) (h:i≤l.length):(markToA k l i).length=l.length:=by simp [markToA,marksA];omega
theorem markToA_all (k:Int) (l:List Acn):markToA k l l.length=marksA k l.length:=by simp [markToA]
theorem markToA_zero (k:Int) (l:List Acn):markToA k l 0=l:=by simp [markToA,marksA]
def MarkedA (w:World) (e0:TypeId) (B g n cap:Nat) (k:Int) (e:Ending) (w':World):Prop :=
 e = .returned (.int .i64 (k+4*n))∧Own w' B e0 4 (.slice (some ⟨g,0,none⟩) n cap) n (flatA (marksA k n))∧w.grownBy w' (some g)
set_option maxHeartbeats 1000000 in
theorem markActionS_any (B g n cap:Nat) (l:List Acn) (k:Int) (w:World) (h:Own w B 119 4 (.slice (some ⟨g,0,none⟩) n cap) n (flatA l)) (hl:l.length=n) (hn:n≤4000000) (hk0:0≤k) (hk1:k≤100000000) :
  Calls Tryz.prog 66 #[.slice (some ⟨g,0,none⟩) n cap,.int .i64 k] w (MarkedA w 119 B g n cap k):=by
 have HL:=Lib.hid hl;clear hl
 go_enter Tryz.func66,Tryz.ntmps66
 go_wp2
 go_loopw [1,5] (fun q i wr=>∃ j:Nat,j≤n∧i = .int .i64 j∧q = .int .i64 (k+4*j)∧Own wr B 119 4 (.slice (some ⟨g,0,none⟩) n cap) n (flatA (markToA k l j))∧w.grownBy wr (some g)) (fun _ i _=>n - (intOf i).toNat)
 case atStart=>exact ⟨0,Nat.zero_le _,rfl,by simp,by rw [markToA_zero];exact h,World.grownBy.refl _ _⟩
 case round =>
  obtain ⟨j,hj,rfl,rfl,hown,hg⟩:=hrel
  clear h
  by_cases hlt:j < n
  · have hs0:=markToA_set k l j (by rw [HL.out];exact hlt)
    have hml:=markToA_len k l j (by rw [HL.out];exact hj)
    obtain ⟨f1,f2,f3,f4⟩:=flatA_get (markToA k l j) j (by rw [hml,HL.out];exact hlt)
    have hfr1:=hown.1.frozenAt (j*4)
    have hfr2:=hown.1.frozenAt (j*4+1)
    have hfr3:=hown.1.frozenAt (j*4+2)
    have hfr4:=hown.1.frozenAt (j*4+3)
    have hce1:=hown.1.cellAt (j*4) (by omega)
    have hce2:=hown.1.cellAt (j*4+1) (by omega)
    have hce3:=hown.1.cellAt (j*4+2) (by omega)
    have hce4:=hown.1.cellAt (j*4+3) (by omega)
    rw [f1] at hce1
    rw [f2] at hce2
    rw [f3] at hce3
    rw [f4] at hce4
    clear f1 f2 f3 f4 hml
    have hst:=hown.storeA j ⟨k+4*(j:Int),k+4*(j:Int)+1,k+4*(j:Int)+1+1,k+4*(j:Int)+1+1+1⟩
    have he:(⟨k+4*(j:Int),k+4*(j:Int)+1,k+4*(j:Int)+1+1,k+4*(j:Int)+1+1+1⟩:Acn)=⟨k+4*(j:Int),k+4*(j:Int)+1,k+4*(j:Int)+2,k+4*(j:Int)+3⟩:=by congr 1;all_goals omega
    rw [he,hs0,← he] at hst
    have HST:=Lib.hid hst
    have HG:=Lib.hid (grownBy_transX hg (grownBy_transX (grownBy_set wr g (j*4) (.int .i64 (k+4*j))) (grownBy_transX (grownBy_set _ g (j*4+1) (.int .i64 (k+4*j+1))) (grownBy_transX (grownBy_set _ g (j*4+2) (.int .i64 (k+4*j+1+1))) (grownBy_set _ g (j*4+3) (.int .i64 (k+4*j+1+1+1)))))))
    clear hst hg hown hs0 he
    go_wp2
    go_roundw
    case rel=>exact ⟨j+1,by omega,by go_num,by congr 1;omega,HST.out,HG.out⟩
    case measure=>simp [intOf];omega
  · obtain rfl:j=n:=by omega
    have e:markToA k l j=marksA k j:=by rw [← HL.out];exact markToA_all k l
    rw [e] at hown
    have HO:=Lib.hid hown
    clear hown e
    go_wp2
    go_ret
    exact ⟨rfl,HO.out,hg⟩
end Go.Proofs.YtoiblfjafjoaeabGreat
/- The contracts of the laws' own helpers heldSlotS and heldEngine. -/
namespace Go.Proofs.YtoiblfjafjoaeabGreat
open Go.RowKit
set_option linter.unusedVariables false
theorem sumMk_le (L:List Slt):sumMk L≤3*(L.length+sumSl L):=by
 induction L with
 | nil=>simp [sumMk]
 | cons a r ih=>simp only [sumMk,sumSl,List.length_cons,mkN,wtS];omega
theorem offSl_le (L:List Slt) (j:Nat):offSl L j≤3*wtSl L:=by
 have h:=sumMk_append (L.take j) (L.drop j)
 rw [List.take_append_drop] at h
 have:=sumMk_le L
 unfold offSl wtSl;omega
set_option maxRecDepth 100000 in
set_option maxHeartbeats 4000000 in
theorem heldSlotS_any (a:Option Addr) (n cap:Nat) (L:List Slt) (k:Int) (w:World) (h:RowSl w a n (marksSl k L)) (hn:L.length=n) (hw:wtSl L≤2000000) (hk0:0≤k) (hk1:k≤10000000) :
  Calls Tryz.prog 71 #[.slice a n cap,.int .i64 k] w fun e w'=>e = .returned (.int .i64 (k+offSl L n))∧w=w':=by
 have HOFF:Hid (∀ j,offSl L j≤6000000):=Lib.hid fun j=>by have:=offSl_le L j;omega
 have HSW:Hid (∀ j,j < L.length→wtS (L.getD j noSlt)≤2000000):=Lib.hid (fun j hj=>by have:=sumSl_len L j hj;unfold wtSl at hw;omega)
 have hlen:n≤2000000:=by unfold wtSl at hw;omega
 clear hw
 obtain ⟨-,-,hc,-⟩:=h
 have HN:=Lib.hid hn;clear hn
 go_enter Tryz.func71,Tryz.ntmps71
 go_wp2
 go_loop [1,5] (fun q i=>∃ j:Nat,j≤n∧i = .int .i64 j∧q = .int .i64 (k+offSl L j)) (fun _ i=>n - (intOf i).toNat)
 case atStart=>exact ⟨0,Nat.zero_le _,rfl,by simp [offSl,sumMk]⟩
 case round =>
  obtain ⟨j,hj,rfl,rfl⟩:=hrel
  by_cases hlt:j < n
  · have hjL:j < L.length:=by rw [HN.out];exact hlt
    obtain ⟨b,off,rfl,hcc⟩:=hc (by omega)
    obtain ⟨g1,g2,⟨x,g3,hx⟩,g4,⟨y,g5,hy⟩,z,g6,hz⟩:=hcc j hlt
    rw [marksSl_get k L j hjL] at g1 g2 g4 hx hy hz
    have hof:=HOFF.out j
    have hon:=offSl_next L j hjL
    have hle:=HSW.out j hjL
    unfold mkN at hon
    unfold wtS at hle
    obtain ⟨a1,n1,cap1,rfl,r1,-,-⟩:=hx
    obtain ⟨a2,n2,cap2,rfl,r2,-,-⟩:=hy
    obtain ⟨a3,n3,cap3,rfl,r3,-,-⟩:=hz
    have e1:=r1.1;have e2:=r2.1;have e3:=r3.1
    simp only [markOfS] at g1 g2 g4 r1 r2 r3 e1 e2 e3
    rw [show (marksI (k+(offSl L j:Nat)+2) (L.getD j noSlt).from_.length).length=(L.getD j noSlt).from_.length by simp [marksI]] at e1
    rw [marksE_len] at e2 e3
    rw [e1] at hon hle r1 r2 r3 g4
    rw [e2] at hon hle r2 r3
    rw [e3] at hon hle r3
    obtain ⟨q,hq⟩:∃ q,q=offSl L j:=⟨_,rfl⟩
    rw [← hq] at hof hon g1 g2 g4 r1 r2 r3 ⊢
    rw [show k+(q:Int)+2=k+(q:Int)+1+1 by omega] at r1 g4
    rw [show k+(q:Int)+3+(n1:Int)=k+(q:Int)+1+1+(n1:Int)+1 by omega] at r2 r3
    have HR1:=Lib.hid r1;have HR2:=Lib.hid r2;have HR3:=Lib.hid r3
    have HS2:=Lib.hid hon
    have hkq:0≤k+(q:Int)+1+1+(n1:Int):=by omega
    have t3:=tmod3 hkq
    obtain ⟨db,hdb⟩:∃ db,db=mk3 (k+(q:Int)+1+1+(n1:Int)):=⟨_,rfl⟩
    have m1:((k+(q:Int)+1+1+(n1:Int)) % 3 == 0)=db:=by rw [hdb];rfl
    have m2:((k+(q:Int)+1+1+(n1:Int)).tmod 3 == 0)=db:=by rw [t3];exact m1
    have hdd:(db != db)=false:=by simp
    rw [← hdb] at g4
    have x1:(k+(q:Int) != k+(q:Int))=false:=by simp
    have x2:(k+(q:Int)+1 != k+(q:Int)+1)=false:=by simp
    clear hc hcc hq e1 e2 e3 r1 r2 r3 hon hdb t3
    go_wp2_with fail
    refine (heldIntS_any a1 n1 cap1 _ _ HR1.out (by omega) (by omega) (by omega)).mono ?_;rintro e w' ⟨rfl,rfl⟩
    have y1:decide (k+(q:Int)+1+1+(n1:Int) < 0)=false:=by simp;omega
    go_wp2_with fail
    refine (heldEntryS_any a2 n2 cap2 _ _ HR2.out (by omega) (by omega) (by omega)).mono ?_;rintro e w' ⟨rfl,rfl⟩
    have y2:decide (k+(q:Int)+1+1+(n1:Int)+1+2*(n2:Int) < 0)=false:=by simp;omega
    clear m1 m2
    go_wp2_with fail
    refine (heldEntryS_any a3 n3 cap3 _ _ HR3.out (by omega) (by omega) (by omega)).mono ?_;rintro e w' ⟨rfl,rfl⟩
    have y3:decide (k+(q:Int)+1+1+(n1:Int)+1+2*(n2:Int)+2*(n3:Int) < 0)=false:=by simp;omega
    go_wp2
    go_round
    case rel=>exact ⟨j+1,by omega,by go_num,by rw [HS2.out];congr 1;omega⟩
    case measure=>simp [intOf];omega
  · obtain rfl:j=n:=by omega
    clear hc
    go_wp2
    go_ret
    exact ⟨rfl,rfl⟩
set_option maxHeartbeats 2000000 in
theorem heldEngine_any (a1 a2 a3 a4:Option Addr) (n1 n2 n3 n4 c1 c2 c3 c4:Nat) (L:List Slt) (k:Int) (w:World) (r1:RowE w a1 n1 (marksE k n1)) (r2:RowA w a2 n2 (marksA (k+2*n1) n2)) (r3:RowV w a3 n3 (marksV (k+2*n1+4*n2) n3)) (r4:RowSl w a4 n4 (marksSl (k+2*n1+4*n2+3*n3) L)) (hn:L.length=n4) (hw:wtSl L≤2000000) (m1:n1≤500000) (m2:n2≤500000) (m3:n3≤500000) (hk0:0≤k) (hk1:k≤1000000) :
  Calls Tryz.prog 20 #[.agg #[.slice a1 n1 c1,.slice a2 n2 c2,.slice a3 n3 c3,.slice a4 n4 c4],.int .i64 k] w fun e w'=>e = .returned (.int .i64 (k+2*n1+4*n2+3*n3+offSl L n4))∧Below w.heap.size w w':=by
 have hb0:=(Below.refl w.heap.size w).alloc (Nat.le_refl _) (.cells #[.slice a1 n1 c1,.slice a2 n2 c2,.slice a3 n3 c3,.slice a4 n4 c4] 35)
 have R1:=Lib.hid (r1.below hb0);have R2:=Lib.hid (r2.below hb0);have R3:=Lib.hid (r3.below hb0);have R4:=Lib.hid (r4.below hb0)
 have HB:=Lib.hid hb0
 have HN:=Lib.hid hn
 have hof:=offSl_le L n4
 clear r1 r2 r3 r4 hb0 hn
 obtain ⟨q,hq⟩:∃ q,q=offSl L n4:=⟨_,rfl⟩
 have HQ:=Lib.hid hq
 rw [← hq] at hof ⊢
 clear hq
 go_enter Tryz.func20,Tryz.ntmps20
 go_wp2_with fail
 refine (heldEntryS_any a1 n1 c1 _ _ R1.out (by omega) (by omega) (by omega)).mono ?_;rintro e w' ⟨rfl,rfl⟩
 have y1:decide (k+2*(n1:Int) < 0)=false:=by simp;omega
 go_wp2_with fail
 refine (heldActionS_any a2 n2 c2 _ _ R2.out (by omega) (by omega) (by omega)).mono ?_;rintro e w' ⟨rfl,rfl⟩
 have y2:decide (k+2*(n1:Int)+4*(n2:Int) < 0)=false:=by simp;omega
 go_wp2_with fail
 refine (heldVersionS_any a3 n3 c3 _ _ R3.out (by omega) (by omega) (by omega)).mono ?_;rintro e w' ⟨rfl,rfl⟩
 have y3:decide (k+2*(n1:Int)+4*(n2:Int)+3*(n3:Int) < 0)=false:=by simp;omega
 go_wp2_with fail
 refine (heldSlotS_any a4 n4 c4 L _ _ R4.out HN.out hw (by omega) (by omega)).mono ?_;rintro e w' ⟨rfl,rfl⟩
 rw [← HQ.out]
 have y4:decide (k+2*(n1:Int)+4*(n2:Int)+3*(n3:Int)+(q:Int) < 0)=false:=by simp;omega
 go_wp2
 go_ret
 exact ⟨rfl,HB.out⟩
end Go.Proofs.YtoiblfjafjoaeabGreat
/- The contracts of the laws' own helpers markSlotS and markEngine. -/
namespace Go.Proofs.YtoiblfjafjoaeabGreat
open Go.RowKit
set_option linter.unusedVariables false
set_option linter.unusedSimpArgs false
theorem markActionS_ow (B n:Nat) (v:Value) (l:List Acn) (k:Int) (w:World) (h:w.ownsRow B 119 4 v n (flatA l)) (hl:l.length=n) (hn:n≤4000000) (hk0:0≤k) (hk1:k≤100000000) :
  Calls Tryz.prog 66 #[v,.int .i64 k] w fun e w'=>e = .returned (.int .i64 (k+4*n))∧w'.ownsRow B 119 4 v n (flatA (marksA k n))∧w.grownBy w' v.ownBlock:=by
 by_cases hv:v = .slice none 0 0
 · have h0:n=0:=by
    rcases h.2 with ⟨_,h1⟩ | ⟨g,cap,cur,h1,_⟩
    · exact h1
    · rw [hv] at h1;simp at h1
   subst h0;subst hv
   have HO:=Lib.hid (World.ownsRow_nil w B 119 4)
   clear h hl
   go_enter Tryz.func66,Tryz.ntmps66
   go_wp2
   go_loop [1,5] (fun q i=>q = .int .i64 k∧i = .int .i64 0) (fun _ _=>0)
   case atStart=>exact ⟨rfl,rfl⟩
   case round =>
    obtain ⟨rfl,rfl⟩:=hrel
    go_wp2
    go_ret
    exact ⟨ret_int (by simp),HO.out,World.grownBy.refl _ _⟩
 · obtain ⟨g,cap,rfl,_,_⟩:=Own.slice ⟨h,hv⟩
   exact (markActionS_any B g n cap l k w ⟨h,hv⟩ hl hn hk0 hk1).mono fun e w' ⟨h1,h2,h3⟩=>⟨h1,h2.1,h3⟩
theorem wfA_marks (k:Int) (n:Nat) (h0:0≤k) (h1:k≤100000000) (hn:n≤4000000):WfAs (marksA k n):=by
 intro e he
 obtain ⟨i,hi,rfl⟩:=List.mem_map.1 he
 have:=List.mem_range.1 hi
 exact ⟨WalkArith.wf_i64 (by simp only;omega),WalkArith.wf_i64 (by simp only;omega),WalkArith.wf_i64 (by simp only;omega),WalkArith.wf_i64 (by simp only;omega)⟩
def MarkedSl (w:World) (B T:Nat) (v:Value) (k:Int) (L:List Slt) (ts:List (Value × Value × Value)) (R:List Rw) (e:Ending) (w':World):Prop :=
 e = .returned (.int .i64 (k+(offSl L L.length:Nat)))∧OwnR w' B T (⟨v,70,6,L.length,slsCs (marksSl k L) ts⟩ :: (slsRs 3 109 (marksSl k L) ts++R))∧Turn B T w w'
theorem mkN_le (L:List Slt) {j:Nat} (hj:j < L.length):mkN (L.getD j noSlt)≤3*wtSl L+3:=by
 have:=sumSl_len L j hj
 have e:L.getD j noSlt=L[j]:=by rw [List.getD_eq_getElem?_getD,List.getElem?_eq_getElem hj];rfl
 unfold wtSl
 rw [e] at this ⊢
 unfold wtS at this
 unfold mkN
 omega
set_option maxRecDepth 100000 in
set_option maxHeartbeats 4000000 in
theorem markSlotS_own (B T:Nat) (v:Value) (L:List Slt) (ts:List (Value × Value × Value)) (R:List Rw) (k:Int) (w:World) (hl:ts.length=L.length) (h:OwnR w B T (⟨v,70,6,L.length,slsCs L ts⟩ :: (slsRs 3 109 L ts++R))) (hw:wtSl L≤2000000) (hk0:0≤k) (hk1:k≤10000000) :
  Calls Tryz.prog 68 #[v,.int .i64 k] w (MarkedSl w B T v k L ts R):=by
 have hlen:L.length≤2000000:=by unfold wtSl at hw;omega
 rcases slice_of_owns h.head with ⟨hv,hn⟩ | ⟨g,cap,hv,hBg,hgw,hnc,hcm⟩
 · simp only at hv hn
   have hL:L=[]:=List.eq_nil_of_length_eq_zero hn
   subst hv hL
   have HO:=Lib.hid h
   clear h hl hn
   go_enter Tryz.func68,Tryz.ntmps68
   go_wp2
   go_loop [1,5] (fun q i=>q = .int .i64 k∧i = .int .i64 0) (fun _ _=>0)
   case atStart=>exact ⟨rfl,rfl⟩
   case round =>
    obtain ⟨rfl,rfl⟩:=hrel
    go_wp2
    go_ret
    exact ⟨ret_int (by simp [offSl,sumMk]),HO.out,Turn.refl _ _ _⟩
 · simp only at hv
   subst hv
   obtain ⟨n,hn⟩:∃ n,n=L.length:=⟨_,rfl⟩
   have hgT:g < T:=h.lt _ List.mem_cons_self g rfl
   have hm0:OwnR w B T (⟨.slice (some ⟨g,0,none⟩) n cap,70,6,n,slsCs (markSlTo k L 0) ts⟩ :: (slsRs 3 109 (markSlTo k L 0) ts++R)):=by rw [markSlTo_zero,hn];exact h
   have HN:=Lib.hid hn.symm
   have HTL:=Lib.hid hl
   have HOF:=Lib.hid (fun j=>offSl_le L j)
   have HMK:=Lib.hid (fun j (hj:j < n)=>mkN_le L (j:=j) (by rw [← hn];exact hj))
   rw [← hn] at hlen hnc ⊢
   clear h hl hn
   go_enter Tryz.func68,Tryz.ntmps68
   go_wp2
   go_loopw [1,5] (fun q i wr=>∃ j:Nat,j≤n∧i = .int .i64 j∧q = .int .i64 (k+(offSl L j:Nat))∧OwnR wr B T (⟨.slice (some ⟨g,0,none⟩) n cap,70,6,n,slsCs (markSlTo k L j) ts⟩ :: (slsRs 3 109 (markSlTo k L j) ts++R))∧Turn B T w wr) (fun _ i _=>n - (intOf i).toNat)
   case atStart=>exact ⟨0,Nat.zero_le _,rfl,by simp [offSl,sumMk],hm0,Turn.refl _ _ _⟩
   case round =>
    clear hm0
    obtain ⟨j,hj,rfl,rfl,hO,ht⟩:=hrel
    by_cases hlt:j < n
    · have hjL:j < L.length:=by rw [HN.out];exact hlt
      have hjM:j < (markSlTo k L j).length:=by rw [markSlTo_len k L j (by omega)];exact hjL
      have htM:ts.length=(markSlTo k L j).length:=by rw [markSlTo_len k L j (by omega)];exact HTL.out
      have hof:=HOF.out j
      have hmk:=HMK.out j hlt
      have HNX:=Lib.hid (offSl_next L j hjL)
      have HST:=Lib.hid (markSlTo_set k L j hjL)
      have hget:=markSlTo_get k L j hjL
      obtain ⟨M,hM⟩:∃ M,M=markSlTo k L j:=⟨_,rfl⟩
      rw [← hM] at hjM htM HST hget hO
      have HMN:Hid (M.length=n):=Lib.hid (by rw [hM,markSlTo_len k L j (by omega),HN.out])
      clear hM
      obtain ⟨q,hq⟩:∃ q,q=offSl L j:=⟨_,rfl⟩
      rw [← hq] at hof HNX HST ⊢
      have HSW:Hid ((L.getD j noSlt).from_.length+(L.getD j noSlt).res.rds.length+(L.getD j noSlt).res.wrs.length≤2000000):=Lib.hid (by have:=sumSl_len L j hjL;unfold wtSl at hw;unfold wtS at this;omega)
      obtain ⟨s,hs⟩:∃ s,s=L.getD j noSlt:=⟨_,rfl⟩
      rw [← hs] at hmk HNX HST hget HSW
      clear hq hs hjL
      have hMK:markOfS (k+(q:Nat)) s=⟨k+q,k+q+1,marksI (k+q+1+1) s.from_.length,⟨mk3 (k+q+1+1+s.from_.length),marksE (k+q+1+1+s.from_.length+1) s.res.rds.length,marksE (k+q+1+1+s.from_.length+1+2*s.res.rds.length) s.res.wrs.length⟩⟩:=by
       unfold markOfS
       rw [show k+(q:Int)+2=k+(q:Int)+1+1 by omega,show k+(q:Int)+3+(s.from_.length:Int)=k+(q:Int)+1+1+(s.from_.length:Int)+1 by omega]
      rw [hMK] at HST
      have hmN:mkN s=3+s.from_.length+2*(s.res.rds.length+s.res.wrs.length):=rfl
      rw [hmN] at hmk HNX
      obtain ⟨x,y,z,hxyz⟩:∃ x y z,ts.getD j (undef,undef,undef)=(x,y,z):=⟨_,_,_,rfl⟩
      have hsp:=slsRs_at (tI:=3) (tE:=109) htM hjM
      have HSP:=Lib.hid (fun s'=>slsRs_set (tI:=3) (tE:=109) htM hjM s')
      rw [hget,hxyz] at hsp
      rw [hxyz] at HSP
      obtain ⟨PB,hPB⟩:∃ P,P=rsB 3 109 M ts j:=⟨_,rfl⟩
      obtain ⟨PA,hPA⟩:∃ P,P=rsA 3 109 M ts j:=⟨_,rfl⟩
      rw [← hPB,← hPA] at hsp HSP
      clear hPB hPA
      have HC1:=Lib.hid (slsCs_set htM hjM ⟨k+q,s.tries,s.from_,s.res⟩ 0 (by omega) (.int .i64 (k+q)) (by rw [hget];rfl))
      have HC2:=Lib.hid (slsCs_set (L:=M.set j ⟨k+q,s.tries,s.from_,s.res⟩) (ts:=ts) (by rw [List.length_set];exact htM) (j:=j) (by rw [List.length_set];exact hjM) ⟨k+q,k+q+1,s.from_,s.res⟩ 1 (by omega) (.int .i64 (k+q+1)) (by rw [getD_setM _ _ _ hjM];rfl))
      obtain ⟨db,hdb⟩:∃ db,db=mk3 (k+q+1+1+s.from_.length):=⟨_,rfl⟩
      rw [← hdb] at HST hMK
      obtain ⟨mf,hmf⟩:∃ m:Slt,m=⟨k+q,k+q+1,marksI (k+q+1+1) s.from_.length,⟨db,marksE (k+q+1+1+s.from_.length+1) s.res.rds.length,marksE (k+q+1+1+s.from_.length+1+2*s.res.rds.length) s.res.wrs.length⟩⟩:=⟨_,rfl⟩
      rw [← hmf] at HST
      have HC3:=Lib.hid (slsCs_set (L:=M.set j ⟨k+q,k+q+1,s.from_,s.res⟩) (ts:=ts) (by rw [List.length_set];exact htM) (j:=j) (by rw [List.length_set];exact hjM) mf 3 (by omega) (.bool db) (by rw [getD_setM _ _ _ hjM,hmf];rfl))
      rw [List.set_set] at HC2
      rw [List.set_set] at HC3
      have hcells:∀ (s':Slt),slCs s' (x,y,z)=[.int .i64 s'.stage,.int .i64 s'.tries,x,.bool s'.res.done,y,z]:=fun _=>rfl
      have HGC:Hid (∀ (s':Slt) (i:Nat),i < 6→(slsCs (M.set j s') ts)[j*6+i]? = [.int .i64 s'.stage,.int .i64 s'.tries,x,.bool s'.res.done,y,z][i]?):=Lib.hid (fun s' i hi=>by
       rw [slsCs_get (L:=M.set j s') (ts:=ts) (by rw [List.length_set];exact htM) (by rw [List.length_set];exact hjM) hi,getD_setM _ _ _ hjM,hxyz];rfl)
      have HG0:Hid (∀ (i:Nat),i < 6→(slsCs M ts)[j*6+i]? = [.int .i64 s.stage,.int .i64 s.tries,x,.bool s.res.done,y,z][i]?):=Lib.hid (fun i hi=>by
       rw [slsCs_get htM hjM hi,hget,hxyz];rfl)
      rw [hsp,List.append_assoc] at hO
      have hO0:OwnR wr B T (⟨.slice (some ⟨g,0,none⟩) n cap,70,6,n,slsCs M ts⟩ :: (PB++(⟨x,3,1,s.from_.length,s.from_.map (Value.int .i64)⟩ :: ⟨y,109,2,s.res.rds.length,flatE s.res.rds⟩ :: ⟨z,109,2,s.res.wrs.length,flatE s.res.wrs⟩ :: (PA++R)))):=by simpa [slRs] using hO
      have hi6:∀ i,i < 6→j*6+i < n*6:=fun i hi=>by omega
      -- the stage
      have c0:=(hO0.head.cellAt (j*6+0) (hi6 0 (by omega))).trans (HG0.out 0 (by omega))
      have f0:=hO0.head.frozenAt (j*6)
      have c1:=(hO0.head.cellAt (j*6+1) (hi6 1 (by omega))).trans (HG0.out 1 (by omega))
      have f1:=hO0.head.frozenAt (j*6+1)
      simp only [Nat.add_zero,List.getElem?_cons_zero,List.getElem?_cons_succ] at c0 c1
      have hO1:=hO0.store (j*6) (.int .i64 (k+q))
      rw [show (slsCs M ts).set (j*6) (.int .i64 (k+q)) = _ from HC1.out] at hO1
      have ht1:=ht.setCell ⟨hBg,hgT⟩ (j*6) (.int .i64 (k+q))
      have hq1:0≤k+(q:Int)∧k+(q:Int)≤20000000:=by omega
      obtain ⟨hq1,hq2⟩:=hq1
      clear hO hO0 ht hsp hcells hget
      go_upto_region 5 with (fail)
      generalize hw1:World.setCell wr _ _=w1
      have hw1':wr.setCell ⟨g,j*6,none⟩ (.int .i64 (k+q))=w1:=hw1
      rw [hw1'] at hO1 ht1
      have c1:=(hO1.head.cellAt (j*6+1) (hi6 1 (by omega))).trans (HGC.out _ 1 (by omega))
      have f1:=hO1.head.frozenAt (j*6+1)
      simp only [List.getElem?_cons_zero,List.getElem?_cons_succ] at c1
      clear hw1 hw1' c0 f0
      -- the tries
      have hO2:=hO1.store (j*6+1) (.int .i64 (k+q+1))
      rw [HC2.out] at hO2
      have ht2:=ht1.setCell ⟨hBg,hgT⟩ (j*6+1) (.int .i64 (k+q+1))
      clear hO1 ht1
      go_upto_region 7 with (fail)
      generalize hw2:World.setCell w1 _ _=w2
      have hw2':w1.setCell ⟨g,j*6+1,none⟩ (.int .i64 (k+q+1))=w2:=hw2
      rw [hw2'] at hO2 ht2
      have c2:=(hO2.head.cellAt (j*6+2) (hi6 2 (by omega))).trans (HGC.out _ 2 (by omega))
      simp only [List.getElem?_cons_zero,List.getElem?_cons_succ] at c2
      clear hw2 hw2' c1 f1
      have HOX:=Lib.hid (hO2.own ⟨x,3,1,s.from_.length,s.from_.map (Value.int .i64)⟩ (by simp))
      -- the writers
      obtain ⟨nf,hnf⟩:∃ m,m=s.from_.length:=⟨_,rfl⟩
      obtain ⟨nr,hnr⟩:∃ m,m=s.res.rds.length:=⟨_,rfl⟩
      obtain ⟨nw,hnw⟩:∃ m,m=s.res.wrs.length:=⟨_,rfl⟩
      have HLF:=Lib.hid hnf.symm
      have HLR:=Lib.hid hnr.symm
      have HLW:=Lib.hid hnw.symm
      rw [← hnf] at hmf hmk HNX hO2 HOX hdb
      rw [← hnr] at hmf hmk HNX hO2
      rw [← hnw] at hmf hmk HNX hO2
      clear hnf hnr hnw hMK
      have hkq:0≤k+(q:Int)+1+1+(nf:Int):=by omega
      have t3:=tmod3 hkq
      have m1:((k+(q:Int)+1+1+(nf:Int)) % 3 == 0)=db:=by rw [hdb];rfl
      have m2:((k+(q:Int)+1+1+(nf:Int)).tmod 3 == 0)=db:=by rw [t3];exact m1
      have hbnd:nf≤4000000∧nr≤4000000∧nw≤4000000:=by
       have:=HSW.out;rw [HLF.out,HLR.out,HLW.out] at this;omega
      obtain ⟨hb1,hb2,hb3⟩:=hbnd
      clear t3 hdb
      go_wp2_with fail
      refine (markIntS_own B nf x s.from_ _ _ HOX.out HLF.out (by omega) (by omega) (by omega)).mono ?_;rintro e w3 ⟨rfl,ho3,hg3⟩
      have ht3:=ht2.trans (hO2.turnOf (r:=⟨x,3,1,nf,s.from_.map (Value.int .i64)⟩) (by simp) hg3)
      have hO3:OwnR w3 B T (⟨.slice (some ⟨g,0,none⟩) n cap,70,6,n,slsCs (M.set j ⟨k+q,k+q+1,s.from_,s.res⟩) ts⟩ :: (PB++(⟨x,3,1,nf,(marksI (k+q+1+1) nf).map (Value.int .i64)⟩ :: ⟨y,109,2,nr,flatE s.res.rds⟩ :: ⟨z,109,2,nw,flatE s.res.wrs⟩ :: (PA++R)))):=by
       have:=OwnR.mark (R1:=⟨.slice (some ⟨g,0,none⟩) n cap,70,6,n,slsCs (M.set j ⟨k+q,k+q+1,s.from_,s.res⟩) ts⟩ :: PB) (r:=⟨x,3,1,nf,s.from_.map (Value.int .i64)⟩) (r':=⟨x,3,1,nf,(marksI (k+q+1+1) nf).map (Value.int .i64)⟩) (by simpa using hO2) ho3 rfl hg3
       simpa using this
      have c3:=(hO3.head.cellAt (j*6+3) (hi6 3 (by omega))).trans (HGC.out _ 3 (by omega))
      have f3:=hO3.head.frozenAt (j*6+3)
      simp only [List.getElem?_cons_zero,List.getElem?_cons_succ] at c3
      clear hO2 ht2 ho3 hg3 c2 HOX
      -- done
      have hO4:=hO3.store (j*6+3) (.bool db)
      rw [HC3.out] at hO4
      have ht4:=ht3.setCell ⟨hBg,hgT⟩ (j*6+3) (.bool db)
      clear hO3 ht3
      go_upto_region 10 with (fail)
      generalize hw4:World.setCell w3 _ _=w4
      have hw4':w3.setCell ⟨g,j*6+3,none⟩ (.bool db)=w4:=hw4
      rw [hw4'] at hO4 ht4
      have hst4:mf.stage=k+q∧mf.tries=k+q+1∧mf.res.done=db:=by rw [hmf];exact ⟨rfl,rfl,rfl⟩
      have c4:=(hO4.head.cellAt (j*6+4) (hi6 4 (by omega))).trans (HGC.out _ 4 (by omega))
      simp only [List.getElem?_cons_zero,List.getElem?_cons_succ] at c4
      have HOY:=Lib.hid (hO4.own ⟨y,109,2,nr,flatE s.res.rds⟩ (by simp))
      clear hw4 hw4' c3 f3 m1 m2 hst4
      go_wp2_with fail
      refine (markEntryS_own B nr y s.res.rds _ _ HOY.out HLR.out (by omega) (by omega) (by omega)).mono ?_;rintro e w5 ⟨rfl,ho5,hg5⟩
      have ht5:=ht4.trans (hO4.turnOf (r:=⟨y,109,2,nr,flatE s.res.rds⟩) (by simp) hg5)
      have hO5:OwnR w5 B T (⟨.slice (some ⟨g,0,none⟩) n cap,70,6,n,slsCs (M.set j mf) ts⟩ :: (PB++(⟨x,3,1,nf,(marksI (k+q+1+1) nf).map (Value.int .i64)⟩ :: ⟨y,109,2,nr,flatE (marksE (k+q+1+1+nf+1) nr)⟩ :: ⟨z,109,2,nw,flatE s.res.wrs⟩ :: (PA++R)))):=by
       have:=OwnR.mark (R1:=⟨.slice (some ⟨g,0,none⟩) n cap,70,6,n,slsCs (M.set j mf) ts⟩ :: (PB++[⟨x,3,1,nf,(marksI (k+q+1+1) nf).map (Value.int .i64)⟩])) (r:=⟨y,109,2,nr,flatE s.res.rds⟩) (r':=⟨y,109,2,nr,flatE (marksE (k+q+1+1+nf+1) nr)⟩) (by simpa using hO4) ho5 rfl hg5
       simpa using this
      have c5:=(hO5.head.cellAt (j*6+5) (hi6 5 (by omega))).trans (HGC.out _ 5 (by omega))
      simp only [List.getElem?_cons_zero,List.getElem?_cons_succ] at c5
      have HOZ:=Lib.hid (hO5.own ⟨z,109,2,nw,flatE s.res.wrs⟩ (by simp))
      clear hO4 ht4 ho5 hg5 c4 HOY
      go_wp2_with fail
      refine (markEntryS_own B nw z s.res.wrs _ _ HOZ.out HLW.out (by omega) (by omega) (by omega)).mono ?_;rintro e w6 ⟨rfl,ho6,hg6⟩
      have ht6:=ht5.trans (hO5.turnOf (r:=⟨z,109,2,nw,flatE s.res.wrs⟩) (by simp) hg6)
      have hO6:OwnR w6 B T (⟨.slice (some ⟨g,0,none⟩) n cap,70,6,n,slsCs (M.set j mf) ts⟩ :: (slsRs 3 109 (M.set j mf) ts++R)):=by
       have:=OwnR.mark (R1:=⟨.slice (some ⟨g,0,none⟩) n cap,70,6,n,slsCs (M.set j mf) ts⟩ :: (PB++[⟨x,3,1,nf,(marksI (k+q+1+1) nf).map (Value.int .i64)⟩,⟨y,109,2,nr,flatE (marksE (k+q+1+1+nf+1) nr)⟩])) (r:=⟨z,109,2,nw,flatE s.res.wrs⟩) (r':=⟨z,109,2,nw,flatE (marksE (k+q+1+1+nf+1+2*nr) nw)⟩) (by simpa using hO5) ho6 rfl hg6
       have e6:slRs 3 109 mf (x,y,z)=[⟨x,3,1,nf,(marksI (k+q+1+1) nf).map (Value.int .i64)⟩,⟨y,109,2,nr,flatE (marksE (k+q+1+1+nf+1) nr)⟩,⟨z,109,2,nw,flatE (marksE (k+q+1+1+nf+1+2*nr) nw)⟩]:=by
        rw [hmf];simp [slRs,marksI_len,marksE_len]
       rw [HSP.out,e6]
       simpa using this
      rw [HST.out] at hO6
      have HO6:=Lib.hid hO6
      have HT6:=Lib.hid ht6
      have HQN:Hid (k+(q:Int)+1+1+(nf:Int)+1+2*(nr:Int)+2*(nw:Int)=k+(offSl L (j+1):Nat)):=Lib.hid (by rw [HNX.out];omega)
      clear hO5 ht5 ho6 hg6 c5 HOZ hO6 ht6 HC1 HC2 HC3 HGC HG0 HSP HST
      go_wp2
      go_roundw
      case rel=>exact ⟨j+1,by omega,by go_num,by rw [← HQN.out],HO6.out,HT6.out⟩
      case measure=>simp [intOf];omega
    · obtain rfl:n=j:=by omega
      have HE:Hid (markSlTo k L n=marksSl k L):=Lib.hid (by rw [← HN.out];exact markSlTo_all k L)
      rw [HE.out] at hO
      have HO:=Lib.hid hO
      have HT:=Lib.hid ht
      clear hO ht HOF HMK
      go_wp2
      go_ret
      exact ⟨ret_int (by rw [HN.out]),by rw [HN.out];exact HO.out,HT.out⟩
def markedEng (k:Int) (e:Eng):Eng:=⟨marksE k e.base.length,marksA (k+2*e.base.length) e.list.length,marksV (k+2*e.base.length+4*e.list.length) e.vers.length,marksSl (k+2*e.base.length+4*e.list.length+3*e.vers.length) e.slots⟩
def mkEngN (e:Eng):Nat:=2*e.base.length+4*e.list.length+3*e.vers.length+offSl e.slots e.slots.length
theorem slWf_marked {k:Int} {L:List Slt} (hw:wtSl L≤2000000) (h0:0≤k) (h1:k≤10000000):∀ s∈marksSl k L,SlWf s:=by
 intro s hs
 obtain ⟨j,hj,rfl⟩:=List.getElem_of_mem hs
 rw [marksSl_len] at hj
 have e1:(marksSl k L)[j]=markOfS (k+offSl L j) (L.getD j noSlt):=by
  rw [← marksSl_get k L j hj,List.getD_eq_getElem?_getD,List.getElem?_eq_getElem (by rw [marksSl_len];exact hj)];rfl
 rw [e1]
 have h2:=offSl_le L j
 have h3:=sumSl_len L j hj
 unfold wtSl at hw h2
 unfold wtS at h3
 refine ⟨WalkArith.wf_i64 (by simp only [markOfS];omega),WalkArith.wf_i64 (by simp only [markOfS];omega),wf_marksI _ _ (by omega) (by omega) (by omega),wfE_marks _ _ (by omega) (by omega) (by omega),wfE_marks _ _ (by omega) (by omega) (by omega),?_,?_,?_⟩
 · simp only [markOfS,marksI_len];omega
 · simp only [markOfS,marksE_len];omega
 · simp only [markOfS,marksE_len];omega
theorem engWf_marked {k:Int} {e:Eng} (hw:wtEng e≤1048576) (h0:0≤k) (h1:k≤1000):EngWf (markedEng k e):=by
 have hw':=hw
 unfold wtEng at hw
 have hs:e.slots.length≤wtSl e.slots:=by unfold wtSl;omega
 refine ⟨wfE_marks _ _ (by omega) (by omega) (by omega),wfA_marks _ _ (by omega) (by omega) (by omega),wfV_marks _ _ (by omega) (by omega) (by omega),slWf_marked (by omega) (by omega) (by omega),?_,?_,?_,?_⟩
 · simp only [markedEng,marksE_len];omega
 · simp only [markedEng,marksA_len];omega
 · simp only [markedEng,marksV_len];omega
 · simp only [markedEng,marksSl_len];omega
set_option maxRecDepth 100000 in
set_option maxHeartbeats 4000000 in
theorem markEngine_any (B T:Nat) (v1 v2 v3 v4:Value) (e:Eng) (ts:List (Value × Value × Value)) (k:Int) (w:World) (h:EngOwn w B T tEng v1 v2 v3 v4 e ts) (hw:wtEng e≤1048576) (hk0:0≤k) (hk1:k≤1000) (hT:T≤w.heap.size) :
  Calls Tryz.prog 19 #[.agg #[v1,v2,v3,v4],.int .i64 k] w fun en w'=>en = .returned (.int .i64 (k+(mkEngN e:Nat)))∧EngOwn w' B T tEng v1 v2 v3 v4 (markedEng k e) ts∧Turn B T w w':=by
 have HWF:=Lib.hid (engWf_marked hw hk0 hk1)
 obtain ⟨htl,ho,hwf⟩:=h
 have hrd:EngRd w v1 v2 v3 v4 e:=EngOwn.rd ⟨htl,ho,hwf⟩
 obtain ⟨⟨a1,m1,c1,rfl,r1,-,-⟩,⟨a2,m2,c2,rfl,r2,-,-⟩,⟨a3,m3,c3,rfl,r3,-,-⟩,a4,m4,c4,rfl,r4,-,-⟩:=hrd
 have hm1:=r1.1
 have hm2:=r2.1
 have hm3:=r3.1
 have hm4:=r4.1
 have hwe:=hw
 unfold wtEng at hwe
 have hwt:Turn B T w (w.alloc (.cells #[.slice a1 m1 c1,.slice a2 m2 c2,.slice a3 m3 c3,.slice a4 m4 c4] 35)):=(Turn.refl B T w).alloc _
 have hb0:=(Below.refl w.heap.size w).alloc (Nat.le_refl _) (.cells #[.slice a1 m1 c1,.slice a2 m2 c2,.slice a3 m3 c3,.slice a4 m4 c4] 35)
 have hg0:=egAt_new w 35 (.slice a1 m1 c1) (.slice a2 m2 c2) (.slice a3 m3 c3) (.slice a4 m4 c4)
 obtain ⟨W,hW⟩:∃ W,W=w.alloc (.cells #[.slice a1 m1 c1,.slice a2 m2 c2,.slice a3 m3 c3,.slice a4 m4 c4] 35):=⟨_,rfl⟩
 rw [← hW] at hb0 hg0 hwt
 have HW:=Lib.hid hW
 have ho1:=ho.below hb0
 have hzb:w.heap.size < W.heap.size:=by rw [hW];simp
 clear hW
 obtain ⟨n1,hn1⟩:∃ n,n=e.base.length:=⟨_,rfl⟩
 obtain ⟨n2,hn2⟩:∃ n,n=e.list.length:=⟨_,rfl⟩
 obtain ⟨n3,hn3⟩:∃ n,n=e.vers.length:=⟨_,rfl⟩
 have HE:Hid (markedEng k e=⟨marksE k n1,marksA (k+2*n1) n2,marksV (k+2*n1+4*n2) n3,marksSl (k+2*n1+4*n2+3*n3) e.slots⟩):=Lib.hid (by rw [hn1,hn2,hn3];rfl)
 have HMN:Hid ((mkEngN e:Nat)=2*n1+4*n2+3*n3+offSl e.slots e.slots.length):=Lib.hid (by rw [hn1,hn2,hn3];rfl)
 have HN1:=Lib.hid hn1.symm
 have HN2:=Lib.hid hn2.symm
 have HN3:=Lib.hid hn3.symm
 have hws:wtSl e.slots≤2000000:=by omega
 obtain ⟨rfl,rfl,rfl⟩:m1=n1∧m2=n2∧m3=n3:=by omega
 have ho1:OwnR W B T (⟨.slice a1 m1 c1,109,2,m1,flatE e.base⟩ :: ⟨.slice a2 m2 c2,119,4,m2,flatA e.list⟩ :: ⟨.slice a3 m3 c3,72,3,m3,flatV e.vers⟩ :: ⟨.slice a4 m4 c4,70,6,e.slots.length,slsCs e.slots ts⟩ :: slsRs 3 109 e.slots ts):=by
  have:=ho.below hb0
  unfold engRs at this
  rw [HN1.out,HN2.out,HN3.out] at this
  exact this
 rw [← hn1,← hn2,← hn3] at hwe
 have HTL:=Lib.hid htl
 clear ho hwf r1 r2 r3 r4 hn1 hn2 hn3 htl hm1 hm2 hm3
 have hof:=offSl_le e.slots e.slots.length
 obtain ⟨q0,q1,q2,q3,-,-,-,-⟩:=hg0
 go_enter Tryz.func19,Tryz.ntmps19
 go_upto_region 1 with (fail)
 rw [← HW.out]
 clear HW
 have HO1:=Lib.hid ho1
 clear ho1
 go_wp2_with fail
 refine (markEntryS_own B m1 (.slice a1 m1 c1) e.base k _ HO1.out.head HN1.out (by omega) (by omega) (by omega)).mono ?_;rintro e1 w2 ⟨rfl,ho2,hg2⟩
 have ht2:=HO1.out.turnOf (r:=⟨.slice a1 m1 c1,109,2,m1,flatE e.base⟩) List.mem_cons_self hg2
 have hk2:w2.heap[w.heap.size]? = W.heap[w.heap.size]?:=ht2.block _ hzb (by omega)
 have HO2:=Lib.hid (HO1.out.mark (R1:=[]) (r':=⟨.slice a1 m1 c1,109,2,m1,flatE (marksE k m1)⟩) ho2 rfl hg2)
 have HT2:=Lib.hid (hwt.trans ht2)
 have q1:=(World.cell?_of_block hk2).trans q1
 have q2:=(World.cell?_of_block hk2).trans q2
 have q3:=(World.cell?_of_block hk2).trans q3
 have hzb2:w.heap.size < w2.heap.size:=by have:=ht2.size;omega
 simp only [List.nil_append] at HO2
 clear HO1 ho2 hg2 ht2 hk2 q0 hwt hzb
 go_wp2_with fail
 refine (markActionS_ow B m2 (.slice a2 m2 c2) e.list _ _ HO2.out.tail.head HN2.out (by omega) (by omega) (by omega)).mono ?_;rintro e1 w3 ⟨rfl,ho3,hg3⟩
 have ht3:=HO2.out.turnOf (r:=⟨.slice a2 m2 c2,119,4,m2,flatA e.list⟩) (by simp) hg3
 have hk3:w3.heap[w.heap.size]? = w2.heap[w.heap.size]?:=ht3.block _ hzb2 (by omega)
 have HO3:=Lib.hid (OwnR.mark (R1:=[⟨.slice a1 m1 c1,109,2,m1,flatE (marksE k m1)⟩]) (r':=⟨.slice a2 m2 c2,119,4,m2,flatA (marksA (k+2*m1) m2)⟩) HO2.out ho3 rfl hg3)
 have HT3:=Lib.hid (HT2.out.trans ht3)
 have q2:=(World.cell?_of_block hk3).trans q2
 have q3:=(World.cell?_of_block hk3).trans q3
 have hzb3:w.heap.size < w3.heap.size:=by have:=ht3.size;omega
 clear HO2 HT2 ho3 hg3 ht3 hk3 q1 hzb2
 go_wp2_with fail
 refine (markVersionS_own B m3 (.slice a3 m3 c3) e.vers _ _ HO3.out.tail.tail.head HN3.out (by omega) (by omega) (by omega)).mono ?_;rintro e1 w4 ⟨rfl,ho4,hg4⟩
 have ht4:=HO3.out.turnOf (r:=⟨.slice a3 m3 c3,72,3,m3,flatV e.vers⟩) (by simp) hg4
 have hk4:w4.heap[w.heap.size]? = w3.heap[w.heap.size]?:=ht4.block _ hzb3 (by omega)
 have HO4:=Lib.hid (OwnR.mark (R1:=[⟨.slice a1 m1 c1,109,2,m1,flatE (marksE k m1)⟩,⟨.slice a2 m2 c2,119,4,m2,flatA (marksA (k+2*m1) m2)⟩]) (r':=⟨.slice a3 m3 c3,72,3,m3,flatV (marksV (k+2*m1+4*m2) m3)⟩) HO3.out ho4 rfl hg4)
 have HT4:=Lib.hid (HT3.out.trans ht4)
 have q3:=(World.cell?_of_block hk4).trans q3
 clear HO3 HT3 ho4 hg4 ht4 hk4 q2 hzb3
 have HP:Hid (OwnR w4 B T (⟨.slice a4 m4 c4,70,6,e.slots.length,slsCs e.slots ts⟩ :: (slsRs 3 109 e.slots ts++[⟨.slice a1 m1 c1,109,2,m1,flatE (marksE k m1)⟩,⟨.slice a2 m2 c2,119,4,m2,flatA (marksA (k+2*m1) m2)⟩,⟨.slice a3 m3 c3,72,3,m3,flatV (marksV (k+2*m1+4*m2) m3)⟩]))):=Lib.hid (HO4.out.perm (by
  simp only [List.cons_append,List.nil_append]
  exact (List.perm_append_comm (l₁:=[_,_,_]) (l₂:=_ :: _)))) 
 clear HO4
 go_wp2_with fail
 refine (markSlotS_own B T (.slice a4 m4 c4) e.slots ts _ _ _ HTL.out HP.out hws (by omega) (by omega)).mono ?_;rintro e1 w5 ⟨rfl,ho5,ht5⟩
 have HO5:Hid (OwnR w5 B T (engRs tEng (.slice a1 m1 c1) (.slice a2 m2 c2) (.slice a3 m3 c3) (.slice a4 m4 c4) (markedEng k e) ts)):=Lib.hid (by
  rw [HE.out]
  unfold engRs
  simp only [marksE_len,marksA_len,marksV_len,marksSl_len]
  exact ho5.perm (List.perm_append_comm (l₁:=_ :: _) (l₂:=[_,_,_])))
 have HT5:=Lib.hid (HT4.out.trans ht5)
 have HTS:Hid (ts.length=(markedEng k e).slots.length):=Lib.hid (by rw [HE.out];simp only [marksSl_len];exact HTL.out)
 clear HP ho5 ht5 HT4 q3
 obtain ⟨qq,hqq⟩:∃ q,q=offSl e.slots e.slots.length:=⟨_,rfl⟩
 rw [← hqq] at HMN hof ⊢
 clear hqq
 go_wp2
 go_ret
 exact ⟨ret_int (by rw [HMN.out];omega),⟨HTS.out,HO5.out,HWF.out⟩,HT5.out⟩
end Go.Proofs.YtoiblfjafjoaeabGreat
/- Two engines and their boxes;what an engine weighs. -/
namespace Go.Proofs.YtoiblfjafjoaeabGreat
open Go.RowKit
set_option linter.unusedVariables false
set_option linter.unusedSimpArgs false
theorem newEng_formO {w:World} {B T:Nat} {t:EngT} {v1 v2 v3 v4:Value} {e:Eng} {ts:List (Value × Value × Value)} (h:EngOwn w B T t v1 v2 v3 v4 e ts):∃ b1 m1 d1 b2 m2 d2 b3 m3 d3 b4 m4 d4,v1 = .slice b1 m1 d1∧v2 = .slice b2 m2 d2∧v3 = .slice b3 m3 d3∧v4 = .slice b4 m4 d4:=by
 obtain ⟨⟨b1,m1,d1,rfl,-⟩,⟨b2,m2,d2,rfl,-⟩,⟨b3,m3,d3,rfl,-⟩,b4,m4,d4,rfl,-⟩:=h.rd
 exact ⟨b1,m1,d1,b2,m2,d2,b3,m3,d3,b4,m4,d4,rfl,rfl,rfl,rfl⟩
structure TwoE (w:World) (Z6 Z9 B0 T0 B1 T1:Nat) (p1 p2 p3 p4 q1 q2 q3 q4:Value) (E G:Eng) (ts0 ts1:List (Value × Value × Value)) (W:World):Prop where
 w0:EngOwn W B0 T0 tEng p1 p2 p3 p4 E ts0
 z6:EgAt W Z6 p1 p2 p3 p4
 g0:EngOwn W B1 T1 tEng q1 q2 q3 q4 G ts1
 z9:EgAt W Z9 q1 q2 q3 q4
 base:Below w.heap.size w W
theorem TwoE.below {w W W':World} {Z6 Z9 B0 T0 B1 T1:Nat} {p1 p2 p3 p4 q1 q2 q3 q4:Value} {E G:Eng} {ts0 ts1:List (Value × Value × Value)} (h:TwoE w Z6 Z9 B0 T0 B1 T1 p1 p2 p3 p4 q1 q2 q3 q4 E G ts0 ts1 W) (hb:Below W.heap.size W W'):TwoE w Z6 Z9 B0 T0 B1 T1 p1 p2 p3 p4 q1 q2 q3 q4 E G ts0 ts1 W' :=
 ⟨h.w0.below hb,h.z6.below hb,h.g0.below hb,h.z9.below hb,h.base.trans (hb.mono h.base.size)⟩
theorem TwoE.turn {w W W':World} {Z6 Z9 B0 T0 B1 T1 B T:Nat} {p1 p2 p3 p4 q1 q2 q3 q4:Value} {E G:Eng} {ts0 ts1:List (Value × Value × Value)} (h:TwoE w Z6 Z9 B0 T0 B1 T1 p1 p2 p3 p4 q1 q2 q3 q4 E G ts0 ts1 W) (ht:Turn B T W W') (h1:T0≤B) (h2:Z6 < B) (h3:T≤B1) (h4:T≤Z9) (h5:w.heap.size≤B):TwoE w Z6 Z9 B0 T0 B1 T1 p1 p2 p3 p4 q1 q2 q3 q4 E G ts0 ts1 W' :=
 ⟨⟨h.w0.tl,h.w0.own.turn ht (.inl h1),h.w0.wf⟩,h.z6.keep (ht.block _ h.z6.lt (.inl h2)),⟨h.g0.tl,h.g0.own.turn ht (.inr (.inl h3)),h.g0.wf⟩,h.z9.keep (ht.block _ h.z9.lt (.inr h4)),ht.below h.base h5 h.base.size⟩
theorem TwoE.mark {w W W':World} {Z6 Z9 B0 T0 B1 T1:Nat} {p1 p2 p3 p4 q1 q2 q3 q4:Value} {E G G':Eng} {ts0 ts1:List (Value × Value × Value)} (h:TwoE w Z6 Z9 B0 T0 B1 T1 p1 p2 p3 p4 q1 q2 q3 q4 E G ts0 ts1 W) (ht:Turn B1 T1 W W') (hg:EngOwn W' B1 T1 tEng q1 q2 q3 q4 G' ts1) (h1:T0≤B1) (h2:Z6 < B1) (h4:T1≤Z9) (h5:w.heap.size≤B1):TwoE w Z6 Z9 B0 T0 B1 T1 p1 p2 p3 p4 q1 q2 q3 q4 E G' ts0 ts1 W' :=
 ⟨⟨h.w0.tl,h.w0.own.turn ht (.inl h1),h.w0.wf⟩,h.z6.keep (ht.block _ h.z6.lt (.inl h2)),hg,h.z9.keep (ht.block _ h.z9.lt (.inr h4)),ht.below h.base h5 h.base.size⟩
theorem sumSl_le {L:List Slt} {c:Nat} (h:∀ s∈L,wtS s≤c):sumSl L≤c*L.length:=by
 induction L with
 | nil=>simp [sumSl]
 | cons a r ih =>
  have h1:=h a List.mem_cons_self
  have h2:=ih fun s hs=>h s (List.mem_cons_of_mem _ hs)
  simp only [sumSl,List.length_cons,Nat.mul_succ];omega
theorem wtEng_ok {e:Eng} (h:EngOk e):wtEng e≤1000:=by
 have h10:=h.ten
 have h1:=store_len h.base
 have h2:=vers_len h.vok
 have h3:=h.len
 have h4:sumSl e.slots≤36*e.slots.length:=sumSl_le fun s hs=>by
  obtain ⟨i,hi,rfl⟩:=List.getElem_of_mem hs
  have e1:e.slots.getD i noSlt=e.slots[i]:=by rw [List.getD_eq_getElem?_getD,List.getElem?_eq_getElem hi];rfl
  have hw:=wr_len (slot_wr (h.act hi) (h.slot i hi))
  rw [e1] at hw
  unfold wtS
  by_cases h0:(e.slots.getD i noSlt).stage=0
  · have:=(slot_new (h.slot i hi) h0).1
    rw [e1] at this
    rw [this];simp [noEff]
  · have hso:=slot_old (h.act hi) (h.slot i hi) h0
    have hrl:=readsM_len (e.list.getD i noA)
    have hf:=hso.flen
    have hr:=congrArg List.length hso.rds
    rw [List.length_map] at hr
    rw [e1] at hf hr
    omega
 unfold wtEng wtSl
 omega
theorem wtEng_no:wtEng noEng=0:=rfl
theorem held_marked {E:Eng} {e1 e2 e3 e4:Option Addr} {i1 i2 i3 i4 j1 j2 j3 j4:Nat} (hwt:wtEng E≤1000) (W:World) (hr:EngRd W (.slice e1 i1 j1) (.slice e2 i2 j2) (.slice e3 i3 j3) (.slice e4 i4 j4) (markedEng 1 E)):Calls Tryz.prog 20 #[.agg #[.slice e1 i1 j1,.slice e2 i2 j2,.slice e3 i3 j3,.slice e4 i4 j4],.int .i64 1] W fun e w'=>e = .returned (.int .i64 (1+(mkEngN E:Nat)))∧Below W.heap.size W w':=by
 obtain ⟨⟨_,_,_,h1,r1,-,-⟩,⟨_,_,_,h2,r2,-,-⟩,⟨_,_,_,h3,r3,-,-⟩,_,_,_,h4,r4,-,-⟩:=hr
 simp only [Value.slice.injEq] at h1 h2 h3 h4
 obtain ⟨rfl,rfl,rfl⟩:=h1
 obtain ⟨rfl,rfl,rfl⟩:=h2
 obtain ⟨rfl,rfl,rfl⟩:=h3
 obtain ⟨rfl,rfl,rfl⟩:=h4
 have l1:E.base.length=i1:=by have:=r1.1;simpa [markedEng,marksE_len] using this
 have l2:E.list.length=i2:=by have:=r2.1;simpa [markedEng,marksA_len] using this
 have l3:E.vers.length=i3:=by have:=r3.1;simpa [markedEng,marksV_len] using this
 have l4:E.slots.length=i4:=by have:=r4.1;simpa [markedEng,marksSl_len] using this
 unfold wtEng at hwt
 simp only [markedEng] at r1 r2 r3 r4
 rw [l1] at r1 r2 r3 r4
 rw [l2] at r3 r4
 rw [l2] at r2
 rw [l3] at r3 r4
 refine (heldEngine_any e1 e2 e3 e4 i1 i2 i3 i4 j1 j2 j3 j4 E.slots 1 W r1 r2 r3 r4 l4 (by omega) (by omega) (by omega) (by omega) (by omega) (by omega)).mono ?_
 rintro e w' ⟨rfl,hb⟩
 refine ⟨?_,hb⟩
 unfold mkEngN
 rw [l1,l2,l3,l4]
 exact ret_int (by omega)
end Go.Proofs.YtoiblfjafjoaeabGreat
