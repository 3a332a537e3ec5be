/- Texts of ours that stand together: DrawAct, DrawActs -/
import Derived.Test.YtpnjgmgmakmgeaaGreatDrawS
import Derived.Test.YtpnjgmgmakmgeaaGreatSpecAct
import Derived.Deep.DeepCutAuto
import Derived.Deep.CutBlock
/- The contracts of the draws of actions. -/
namespace Go.Proofs.YtpnjgmgmakmgeaaGreat
open Go.RowKit
set_option linter.unusedVariables false
def ActAt (w:World) (G:Nat) (p q r t:Int):Prop :=
 (w.cell? ⟨G,0,none⟩=some (.int .i64 p)∧w.cell? ⟨G,1,none⟩=some (.int .i64 q)∧w.cell? ⟨G,2,none⟩=some (.int .i64 r)∧w.cell? ⟨G,3,none⟩=some (.int .i64 t)) ∧
 w.frozen? ⟨G,0,none⟩=false∧w.frozen? ⟨G,1,none⟩=false∧w.frozen? ⟨G,2,none⟩=false∧w.frozen? ⟨G,3,none⟩=false
theorem ActAt.grown {w w':World} {G:Nat} {row:Option Nat} {p q r t:Int} (h:ActAt w G p q r t) (hg:w.grownBy w' row) (hne:some G≠row):ActAt w' G p q r t:=by
 obtain ⟨⟨h1,h2,h3,h4⟩,h5,h6,h7,h8⟩:=h
 have hlt:G < w.heap.size:=World.block_lt_of_cell? w ⟨G,0,none⟩ h1
 have hf:∀ o,w'.frozen? ⟨G,o,none⟩=w.frozen? ⟨G,o,none⟩:=fun o=>World.frozen?_of_block (hg.block G hlt hne)
 exact ⟨⟨hg.cell h1 hne,hg.cell h2 hne,hg.cell h3 hne,hg.cell h4 hne⟩,(hf 0).trans h5,(hf 1).trans h6,(hf 2).trans h7,(hf 3).trans h8⟩
theorem ActAt.set0 {w:World} {G:Nat} {p q r t:Int} (h:ActAt w G p q r t) (x:Int):ActAt (w.setCell ⟨G,0,none⟩ (.int .i64 x)) G x q r t:=by
 obtain ⟨⟨h1,h2,h3,h4⟩,h5,h6,h7,h8⟩:=h
 simp [ActAt,go_sem,h1,h2,h3,h4,h5,h6,h7,h8]
theorem ActAt.set1 {w:World} {G:Nat} {p q r t:Int} (h:ActAt w G p q r t) (x:Int):ActAt (w.setCell ⟨G,1,none⟩ (.int .i64 x)) G p x r t:=by
 obtain ⟨⟨h1,h2,h3,h4⟩,h5,h6,h7,h8⟩:=h
 simp [ActAt,go_sem,h1,h2,h3,h4,h5,h6,h7,h8]
theorem ActAt.set2 {w:World} {G:Nat} {p q r t:Int} (h:ActAt w G p q r t) (x:Int):ActAt (w.setCell ⟨G,2,none⟩ (.int .i64 x)) G p q x t:=by
 obtain ⟨⟨h1,h2,h3,h4⟩,h5,h6,h7,h8⟩:=h
 simp [ActAt,go_sem,h1,h2,h3,h4,h5,h6,h7,h8]
theorem grown_set (w:World) (G o:Nat) (v:Value):w.grownBy (w.setCell ⟨G,o,none⟩ v) (some G) :=
 ⟨rfl,rfl,rfl,by simp [World.setCell],fun k _ hk=>Below.heap_setCell _ _ _ _ (fun e=>hk (by simp [e]))⟩
def DrAt (w0 wr:World) (R P Z G:Nat) (p q r t:Int):Prop :=
 ActAt wr Z 0 0 0 0∧ActAt wr G p q r t∧Rd wr R P∧Upd R w0 wr∧(R < Z∧Z < G∧w0.heap.size≤Z)∧(-10≤p∧p≤100)∧(-10≤q∧q≤100)∧(-10≤r∧r≤100)∧(-10≤t∧t≤1000010)
theorem DrAt.turn {w0 wr w':World} {R P P' Z G:Nat} {p q r t:Int} (h:DrAt w0 wr R P Z G p q r t) (hr:Rd w' R P') (hu:Upd R wr w'):DrAt w0 w' R P' Z G p q r t:=by
 obtain ⟨h1,h2,h3,h4,h5,h6⟩:=h
 exact ⟨h1.grown hu (by simp;omega),h2.grown hu (by simp;omega),hr,h4.trans hu,h5,h6⟩
theorem DrAt.put {w0 wr:World} {R P Z G:Nat} {p q r t p' q' r' t':Int} (h:DrAt w0 wr R P Z G p q r t) (o:Nat) (x:Int) (hn:ActAt (wr.setCell ⟨G,o,none⟩ (.int .i64 x)) G p' q' r' t')
  (hb:(-10≤p'∧p'≤100)∧(-10≤q'∧q'≤100)∧(-10≤r'∧r'≤100)∧(-10≤t'∧t'≤1000010)):DrAt w0 (wr.setCell ⟨G,o,none⟩ (.int .i64 x)) R P Z G p' q' r' t':=by
 obtain ⟨h1,h2,h3,h4,h5,h6⟩:=h
 have hg:=grown_set wr G o (.int .i64 x)
 refine ⟨h1.grown hg (by simp;omega),hn,h3.grown hg (fun k hk=>by simp at hk;omega),?_,h5,hb⟩
 exact ⟨hg.os.trans h4.os,hg.tape.trans h4.tape,hg.output.trans h4.output,Nat.le_trans h4.size hg.size,fun k hk hr=>(hg.block k (Nat.lt_of_lt_of_le hk h4.size) (by simp;omega)).trans (h4.block k hk hr)⟩
theorem DrAt.mono {w0 wr:World} {R P P' Z G:Nat} {p q r t:Int} (h:DrAt w0 wr R P Z G p q r t) (hP:P≤P'):DrAt w0 wr R P' Z G p q r t:=by
 obtain ⟨h1,h2,h3,h4,h5,h6⟩:=h
 exact ⟨h1,h2,h3.mono hP,h4,h5,h6⟩
def AsAt (w wr:World) (R P:Nat) (v:Value) (l:List Acn):Prop:=Own wr w.heap.size 113 4 v l.length (flatA l)∧WfAs l∧Rd wr R P∧Upd R w wr
theorem AsAt.next {w wr w':World} {R P P':Nat} {v:Value} {l:List Acn} (h:AsAt w wr R P v l) (hr:Rd w' R P') (hu:Upd R wr w') (hR:R < w.heap.size):AsAt w w' R P' v l :=
 ⟨h.1.upd hu hR,h.2.1,hr,h.2.2.2.trans hu⟩
theorem AsAt.app {w wr w':World} {R P:Nat} {v v':Value} {l:List Acn} (h:AsAt w wr R P v l) (x:Acn) (o:Obj) (hx:WfA x) (ho:Own w' w.heap.size 113 4 v' (l.length+1) (flatA l++celA x)) (hg:(wr.alloc o).grownBy w' v.ownBlock) (hR:R < w.heap.size):AsAt w w' R P v' (l++[x]):=by
 obtain ⟨h1,h2,h3,h4⟩:=h
 refine ⟨?_,h2.snoc hx,(h3.alloc _).grown hg (fun k hk=>by have:=(h1.1.lt k hk).1;omega),Upd.ofGrown (h4.alloc _) hg h1⟩
 rw [List.length_append,flatA_append]
 have e:flatA [x]=celA x:=by simp [flatA]
 rw [e];exact ho
end Go.Proofs.YtpnjgmgmakmgeaaGreat
