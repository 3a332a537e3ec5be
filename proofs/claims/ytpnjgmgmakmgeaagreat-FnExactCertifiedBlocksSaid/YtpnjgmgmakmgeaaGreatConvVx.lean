/- Texts of ours that stand together: ConvV, ConvV2 -/
import Derived.Test.YtpnjgmgmakmgeaaGreatVerA
import Derived.Test.YtpnjgmgmakmgeaaGreatConvAX
import Derived.StillTailTactics
import Derived.Test.YtpnjgmgmakmgeaaGreatCore
import Derived.Deep.QuietTactic
import Derived.BigQuiet
/- The contracts of the laws' own helpers over Version: toVersion,eqVersion,szVersionS,toVersionS,eqVersionS,markVersionS,heldVersionS (gen9/structs.py). -/
namespace Go.Proofs.YtpnjgmgmakmgeaaGreat
open Go.RowKit
set_option linter.unusedVariables false
def fillV (l:List Ver) (k:Nat):List Ver:=l.take k++List.replicate (l.length - k) noV
theorem fillV_len (l:List Ver) (k:Nat) (h:k≤l.length):(fillV l k).length=l.length:=by simp [fillV];omega
theorem fillV_all (l:List Ver):fillV l l.length=l:=by simp [fillV]
theorem takeV_snoc (l:List Ver) (k:Nat) (h:k < l.length):l.take (k+1)=l.take k++[l.getD k noV]:=by
 rw [List.take_succ_eq_append_getElem h,List.getD_eq_getElem?_getD,List.getElem?_eq_getElem h];rfl
theorem flatV_set (l:List Ver) (k:Nat) (x:Ver):flatV (l.set k x)=((((flatV l).set (k*3) (.int .i64 x.key)).set (k*3+1) (.int .i64 x.by_)).set (k*3+2) (.int .i64 x.val)):=by
 induction l generalizing k with
 | nil=>simp [flatV]
 | cons e r ih =>
  cases k with
  | zero=>simp [flatV_cons]
  | succ k =>
   rw [show (k+1)*3=k*3+1+1+1 by omega,show k*3+1+1+1+1=(k*3+1)+1+1+1 by omega,show k*3+1+1+1+2=(k*3+2)+1+1+1 by omega]
   simp only [List.set_cons_succ,flatV_cons,ih]
theorem fillV_set (l:List Ver) (k:Nat) (h:k < l.length):(fillV l k).set k (l.getD k noV)=fillV l (k+1):=by
 unfold fillV
 have e:l.length - k=(l.length - (k+1))+1:=by omega
 rw [e,List.replicate_succ,List.set_append_right _ _ (by simp;omega),takeV_snoc l k h]
 simp [Nat.min_eq_left (Nat.le_of_lt h)]
theorem flatV_zeros (n:Nat):flatV (List.replicate n noV)=List.replicate (n*3) (.int .i64 0):=by
 induction n with
 | zero=>rfl
 | succ n ih=>rw [List.replicate_succ,show (n+1)*3=n*3+1+1+1 by omega,List.replicate_succ,List.replicate_succ,List.replicate_succ];simp [flatV_cons,noV] at ih ⊢;exact ih
theorem made_zerosV (n:Nat):(madeCells (Value.agg #[.int .i64 0,.int .i64 0,.int .i64 0]).cells (n*3)).toList=List.replicate (n*3) (.int .i64 0):=by
 unfold madeCells
 apply List.ext_getElem
 · simp [Value.cells]
 · intro i h1 h2
   simp [Value.cells] at h1 ⊢
   rcases (by omega:i % 3=0∨i % 3=1∨i % 3=2) with h | h | h <;> simp [h]
theorem Own.storeV {w:World} {B:Nat} {e:TypeId} {g n cap:Nat} {l:List Ver} (h:Own w B e 3 (.slice (some ⟨g,0,none⟩) n cap) n (flatV l)) (k:Nat) (x:Ver) :
  Own (((w.setCell ⟨g,k*3,none⟩ (.int .i64 x.key)).setCell ⟨g,k*3+1,none⟩ (.int .i64 x.by_)).setCell ⟨g,k*3+2,none⟩ (.int .i64 x.val)) B e 3 (.slice (some ⟨g,0,none⟩) n cap) n (flatV (l.set k x)):=by
 rw [flatV_set]
 exact ⟨(((h.1.stored (k*3) _).1.stored (k*3+1) _).1.stored (k*3+2) _).1,h.2⟩
def marksV (k:Int) (n:Nat):List Ver:=(List.range n).map fun i:Nat=>⟨k+3*i,k+3*i+1,k+3*i+2⟩
def markToV (k:Int) (l:List Ver) (i:Nat):List Ver:=marksV k i++l.drop i
theorem markToV_set (k:Int) (l:List Ver) (i:Nat) (h:i < l.length):(markToV k l i).set i ⟨k+3*i,k+3*i+1,k+3*i+2⟩=markToV k l (i+1):=by
 unfold markToV marksV
 rw [List.set_append_right _ _ (by simp),List.range_succ,List.map_append,List.append_assoc]
 congr 1
 rw [show i - (List.map (fun i:Nat=>(⟨k+3*(i:Int),k+3*(i:Int)+1,k+3*(i:Int)+2⟩:Ver)) (List.range i)).length=0 by simp,List.drop_eq_getElem_cons h,List.set_cons_zero]
 rfl
theorem markToV_len (k:Int) (l:List Ver) (i:Nat) (h:i≤l.length):(markToV k l i).length=l.length:=by simp [markToV,marksV];omega
theorem markToV_all (k:Int) (l:List Ver):markToV k l l.length=marksV k l.length:=by simp [markToV]
theorem markToV_zero (k:Int) (l:List Ver):markToV k l 0=l:=by simp [markToV,marksV]
def MarkedV (w:World) (e0:TypeId) (B g n cap:Nat) (k:Int) (e:Ending) (w':World):Prop :=
 e = .returned (.int .i64 (k+3*n))∧Own w' B e0 3 (.slice (some ⟨g,0,none⟩) n cap) n (flatV (marksV k n))∧w.grownBy w' (some g)
end Go.Proofs.YtpnjgmgmakmgeaaGreat
