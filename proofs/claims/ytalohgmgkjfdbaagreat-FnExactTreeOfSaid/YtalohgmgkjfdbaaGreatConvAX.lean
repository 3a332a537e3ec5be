/- Texts of ours that stand together: ConvA, ExLib -/
import Derived.Test.YtalohgmgkjfdbaaGreatActs
import Derived.StillTailTactics
import Derived.Test.YtalohgmgkjfdbaaGreatConv
/- The contracts of the laws' own helpers over actions: toAction,toActionS (a copy),eqAction,eqActionS,szActionS. -/
namespace Go.Proofs.YtalohgmgkjfdbaaGreat
open Go.RowKit
set_option linter.unusedVariables false
theorem eqAction_same (p q r t:Int) (w:World) :
  Calls Tryz.prog 89 #[.agg #[.int .i64 p,.int .i64 q,.int .i64 r,.int .i64 t],.agg #[.int .i64 p,.int .i64 q,.int .i64 r,.int .i64 t]] w fun e w'=>e = .returned (.bool true)∧Below w.heap.size w w':=by
 go_enter Tryz.func89,Tryz.ntmps89
 go_wp2
 go_ret
 exact ⟨rfl,((Below.refl _ _).alloc (Nat.le_refl _) _).alloc (by simp) _⟩
set_option maxRecDepth 100000 in
set_option maxHeartbeats 1000000 in
theorem eqActionS_same (a a':Option Addr) (n cap cap':Nat) (l:List Acn) (w:World) (h:RowA w a n l) (h':RowA w a' n l) :
  Calls Tryz.prog 50 #[.slice a n cap,.slice a' n cap'] w fun e w'=>e = .returned (.bool true)∧Below w.heap.size w w':=by
 obtain ⟨hl,hm,hc,-⟩:=h
 obtain ⟨-,-,hc',-⟩:=h'
 unfold maxLen at hm
 clear hl
 by_cases h0:0 < n
 · obtain ⟨b,off,rfl,hcc⟩:=hc h0;clear hc;have hc:=hcc;clear hcc
   obtain ⟨b',off',rfl,hcc⟩:=hc' h0;clear hc';have hc':=hcc;clear hcc
   have hbB:b < w.heap.size:=World.block_lt_of_cell? w ⟨b,off+0*4,none⟩ (hc 0 h0).1
   have hbB':b' < w.heap.size:=World.block_lt_of_cell? w ⟨b',off'+0*4,none⟩ (hc' 0 h0).1
   go_enter Tryz.func50,Tryz.ntmps50
   go_wp2
   go_loopw [5] (fun i wr=>∃ k:Nat,k≤n∧i = .int .i64 k∧Below w.heap.size w wr) (fun i _=>n - (intOf i).toNat)
   case atStart=>exact ⟨0,Nat.zero_le _,rfl,Below.refl _ _⟩
   case round =>
    obtain ⟨k,hk,rfl,hb⟩:=hrel
    by_cases hlt:k < n
    · obtain ⟨d1,d2,d3,d4⟩:=hc k hlt
      have c1:=(hb.cell (p:=⟨b,off+k*4,none⟩) hbB).trans d1
      have c2:=(hb.cell (p:=⟨b,off+k*4+1,none⟩) hbB).trans d2
      have c3:=(hb.cell (p:=⟨b,off+k*4+2,none⟩) hbB).trans d3
      have c4:=(hb.cell (p:=⟨b,off+k*4+3,none⟩) hbB).trans d4
      clear d1 d2 d3 d4
      obtain ⟨d1,d2,d3,d4⟩:=hc' k hlt
      have e1:=(hb.cell (p:=⟨b',off'+k*4,none⟩) hbB').trans d1
      have e2:=(hb.cell (p:=⟨b',off'+k*4+1,none⟩) hbB').trans d2
      have e3:=(hb.cell (p:=⟨b',off'+k*4+2,none⟩) hbB').trans d3
      have e4:=(hb.cell (p:=⟨b',off'+k*4+3,none⟩) hbB').trans d4
      clear hc hc' d1 d2 d3 d4
      obtain ⟨x,hx⟩:∃ x,x=l.getD k noA:=⟨_,rfl⟩
      rw [← hx] at c1 c2 c3 c4 e1 e2 e3 e4
      clear hx
      obtain ⟨p,q,r,t⟩:=x
      simp only at c1 c2 c3 c4 e1 e2 e3 e4
      go_wp2
      go_still_tail 8,(by kernel_rfl)
      go_wp2_with fail
      refine (eqAction_same _ _ _ _ _).mono ?_;rintro e w1 ⟨rfl,hb1⟩
      go_wp2
      go_roundw
      case rel=>exact ⟨k+1,by omega,by go_num,by first | exact hb.trans (hb1.mono hb.size) | exact hb.drew.trans (hb1.mono hb.size) | exact (below_drewN' hb _).trans (hb1.mono hb.size)⟩
      case measure=>simp [intOf];omega
    · clear hc hc'
      go_wp2
      go_ret
      exact ⟨rfl,hb⟩
 · obtain rfl:n=0:=by omega
   clear hc hc'
   go_enter Tryz.func50,Tryz.ntmps50
   go_wp2
   go_loop [5] (fun i=>i = .int .i64 0) (fun _=>0)
   case atStart=>rfl
   case round =>
    subst hrel
    go_wp2
    go_ret
    exact ⟨rfl,Below.refl _ _⟩
theorem flatA_set (l:List Acn) (k:Nat) (x:Acn):flatA (l.set k x)=((((flatA l).set (k*4) (.int .i64 x.kind)).set (k*4+1) (.int .i64 x.src)).set (k*4+2) (.int .i64 x.dst)).set (k*4+3) (.int .i64 x.amt):=by
 induction l generalizing k with
 | nil=>simp [flatA]
 | cons e r ih =>
  cases k with
  | zero=>simp [flatA_cons]
  | succ k =>
   rw [show (k+1)*4=k*4+1+1+1+1 by omega,show k*4+1+1+1+1+1=(k*4+1)+1+1+1+1 by omega,show k*4+1+1+1+1+2=(k*4+2)+1+1+1+1 by omega,show k*4+1+1+1+1+3=(k*4+3)+1+1+1+1 by omega]
   simp only [List.set_cons_succ,flatA_cons,ih]
end Go.Proofs.YtalohgmgkjfdbaaGreat
/- What the walks of exact laws share (gen8/exact.py): rows that are owned,marks of actions. -/
namespace Go.Proofs.YtalohgmgkjfdbaaGreat
open Go.RowKit
set_option linter.unusedVariables false
theorem grownBy_transX {a b c:World} {row:Option Nat} (h:a.grownBy b row) (k:b.grownBy c row):a.grownBy c row :=
 ⟨k.os.trans h.os,k.tape.trans h.tape,k.output.trans h.output,Nat.le_trans h.size k.size,fun p hp hn=>(k.block p (Nat.lt_of_lt_of_le hp h.size) hn).trans (h.block p hp hn)⟩
end Go.Proofs.YtalohgmgkjfdbaaGreat
