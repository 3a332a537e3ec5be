/- Marks of actions,and the contract of the laws' own helper heldActionS. -/
import Derived.Test.YtpnjgmgmakmgeaaGreatConvAX
import Derived.Test.YtpnjgmgmakmgeaaGreatConv

namespace Go.Proofs.YtpnjgmgmakmgeaaGreat
open Go.RowKit
set_option linter.unusedVariables false
def marksA (k:Int) (n:Nat):List Acn:=(List.range n).map fun i:Nat=>⟨k+4*i,k+4*i+1,k+4*i+2,k+4*i+3⟩
theorem marksA_len (k:Int) (n:Nat):(marksA k n).length=n:=by simp [marksA]
theorem Own.storeA {w:World} {B:Nat} {e:TypeId} {g n cap:Nat} {l:List Acn} (h:Own w B e 4 (.slice (some ⟨g,0,none⟩) n cap) n (flatA l)) (k:Nat) (x:Acn) :
  Own ((((w.setCell ⟨g,k*4,none⟩ (.int .i64 x.kind)).setCell ⟨g,k*4+1,none⟩ (.int .i64 x.src)).setCell ⟨g,k*4+2,none⟩ (.int .i64 x.dst)).setCell ⟨g,k*4+3,none⟩ (.int .i64 x.amt)) B e 4 (.slice (some ⟨g,0,none⟩) n cap) n (flatA (l.set k x)):=by
 rw [flatA_set]
 exact ⟨((((h.1.stored (k*4) _).1.stored (k*4+1) _).1.stored (k*4+2) _).1.stored (k*4+3) _).1,h.2⟩
def markToA (k:Int) (l:List Acn) (i:Nat):List Acn:=marksA k i++l.drop i
theorem markToA_set (k:Int) (l:List Acn) (i:Nat) (h:i < l.length):(markToA k l i).set i ⟨k+4*i,k+4*i+1,k+4*i+2,k+4*i+3⟩=markToA k l (i+1):=by
 unfold markToA marksA
 rw [List.set_append_right _ _ (by simp),List.range_succ,List.map_append,List.append_assoc]
 congr 1
 rw [show i - (List.map (fun i:Nat=>(⟨k+4*(i:Int),k+4*(i:Int)+1,k+4*(i:Int)+2,k+4*(i:Int)+3⟩:Acn)) (List.range i)).length=0 by simp,List.drop_eq_getElem_cons h,List.set_cons_zero]
 rfl
theorem markToA_len (k:Int) (l:List Acn) (i:Nat) (h:i≤l.length):(markToA k l i).length=l.length:=by simp [markToA,marksA];omega
theorem markToA_all (k:Int) (l:List Acn):markToA k l l.length=marksA k l.length:=by simp [markToA]
theorem markToA_zero (k:Int) (l:List Acn):markToA k l 0=l:=by simp [markToA,marksA]
def MarkedA (w:World) (e0:TypeId) (B g n cap:Nat) (k:Int) (e:Ending) (w':World):Prop :=
 e = .returned (.int .i64 (k+4*n))∧Own w' B e0 4 (.slice (some ⟨g,0,none⟩) n cap) n (flatA (marksA k n))∧w.grownBy w' (some g)
set_option maxHeartbeats 1000000 in
theorem markActionS_any (B g n cap:Nat) (l:List Acn) (k:Int) (w:World) (h:Own w B 113 4 (.slice (some ⟨g,0,none⟩) n cap) n (flatA l)) (hl:l.length=n) (hn:n≤4000000) (hk0:0≤k) (hk1:k≤100000000) :
  Calls Tryz.prog 110 #[.slice (some ⟨g,0,none⟩) n cap,.int .i64 k] w (MarkedA w 113 B g n cap k):=by
 have HL:=Lib.hid hl;clear hl
 go_enter Tryz.func110,Tryz.ntmps110
 go_wp2
 go_loopw [1,5] (fun q i wr=>∃ j:Nat,j≤n∧i = .int .i64 j∧q = .int .i64 (k+4*j)∧Own wr B 113 4 (.slice (some ⟨g,0,none⟩) n cap) n (flatA (markToA k l j))∧w.grownBy wr (some g)) (fun _ i _=>n - (intOf i).toNat)
 case atStart=>exact ⟨0,Nat.zero_le _,rfl,by simp,by rw [markToA_zero];exact h,World.grownBy.refl _ _⟩
 case round =>
  obtain ⟨j,hj,rfl,rfl,hown,hg⟩:=hrel
  clear h
  by_cases hlt:j < n
  · have hs0:=markToA_set k l j (by rw [HL.out];exact hlt)
    have hml:=markToA_len k l j (by rw [HL.out];exact hj)
    obtain ⟨f1,f2,f3,f4⟩:=flatA_get (markToA k l j) j (by rw [hml,HL.out];exact hlt)
    have hfr1:=hown.1.frozenAt (j*4)
    have hfr2:=hown.1.frozenAt (j*4+1)
    have hfr3:=hown.1.frozenAt (j*4+2)
    have hfr4:=hown.1.frozenAt (j*4+3)
    have hce1:=hown.1.cellAt (j*4) (by omega)
    have hce2:=hown.1.cellAt (j*4+1) (by omega)
    have hce3:=hown.1.cellAt (j*4+2) (by omega)
    have hce4:=hown.1.cellAt (j*4+3) (by omega)
    rw [f1] at hce1
    rw [f2] at hce2
    rw [f3] at hce3
    rw [f4] at hce4
    clear f1 f2 f3 f4 hml
    have hst:=hown.storeA j ⟨k+4*(j:Int),k+4*(j:Int)+1,k+4*(j:Int)+1+1,k+4*(j:Int)+1+1+1⟩
    have he:(⟨k+4*(j:Int),k+4*(j:Int)+1,k+4*(j:Int)+1+1,k+4*(j:Int)+1+1+1⟩:Acn)=⟨k+4*(j:Int),k+4*(j:Int)+1,k+4*(j:Int)+2,k+4*(j:Int)+3⟩:=by congr 1;all_goals omega
    rw [he,hs0,← he] at hst
    have HST:=Lib.hid hst
    have HG:=Lib.hid (grownBy_transX hg (grownBy_transX (grownBy_set wr g (j*4) (.int .i64 (k+4*j))) (grownBy_transX (grownBy_set _ g (j*4+1) (.int .i64 (k+4*j+1))) (grownBy_transX (grownBy_set _ g (j*4+2) (.int .i64 (k+4*j+1+1))) (grownBy_set _ g (j*4+3) (.int .i64 (k+4*j+1+1+1)))))))
    clear hst hg hown hs0 he
    go_wp2
    go_roundw
    case rel=>exact ⟨j+1,by omega,by go_num,by congr 1;omega,HST.out,HG.out⟩
    case measure=>simp [intOf];omega
  · obtain rfl:j=n:=by omega
    have e:markToA k l j=marksA k j:=by rw [← HL.out];exact markToA_all k l
    rw [e] at hown
    have HO:=Lib.hid hown
    clear hown e
    go_wp2
    go_ret
    exact ⟨rfl,HO.out,hg⟩
end Go.Proofs.YtpnjgmgmakmgeaaGreat
