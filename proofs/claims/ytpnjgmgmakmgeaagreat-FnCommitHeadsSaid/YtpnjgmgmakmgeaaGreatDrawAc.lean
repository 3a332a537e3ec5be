/- Texts of ours that stand together: DrawAct, DrawActs -/
import Derived.Test.YtpnjgmgmakmgeaaGreatDrawS
import Derived.Test.YtpnjgmgmakmgeaaGreatSpecAct
import Derived.Deep.DeepCutAuto
import Derived.Deep.CutBlock
/- The contracts of the draws of actions. -/
namespace Go.Proofs.YtpnjgmgmakmgeaaGreat
open Go.RowKit
set_option linter.unusedVariables false
def DrawA (w:World) (R P c:Nat) (e:Ending) (w':World):Prop :=
 ∃ p q r t:Int,e = .returned (.agg #[.int .i64 p,.int .i64 q,.int .i64 r,.int .i64 t])∧(-10≤p∧p≤100)∧(-10≤q∧q≤100)∧(-10≤r∧r≤100)∧(-10≤t∧t≤1000010)∧Rd w' R (P+c)∧Upd R w w'
def ActAt (w:World) (G:Nat) (p q r t:Int):Prop :=
 (w.cell? ⟨G,0,none⟩=some (.int .i64 p)∧w.cell? ⟨G,1,none⟩=some (.int .i64 q)∧w.cell? ⟨G,2,none⟩=some (.int .i64 r)∧w.cell? ⟨G,3,none⟩=some (.int .i64 t)) ∧
 w.frozen? ⟨G,0,none⟩=false∧w.frozen? ⟨G,1,none⟩=false∧w.frozen? ⟨G,2,none⟩=false∧w.frozen? ⟨G,3,none⟩=false
theorem actAt_new (w:World) (T:TypeId) (p q r t:Int):ActAt (w.alloc (.cells #[.int .i64 p,.int .i64 q,.int .i64 r,.int .i64 t] T)) w.heap.size p q r t:=by
 simp [ActAt,go_sem]
theorem ActAt.grown {w w':World} {G:Nat} {row:Option Nat} {p q r t:Int} (h:ActAt w G p q r t) (hg:w.grownBy w' row) (hne:some G≠row):ActAt w' G p q r t:=by
 obtain ⟨⟨h1,h2,h3,h4⟩,h5,h6,h7,h8⟩:=h
 have hlt:G < w.heap.size:=World.block_lt_of_cell? w ⟨G,0,none⟩ h1
 have hf:∀ o,w'.frozen? ⟨G,o,none⟩=w.frozen? ⟨G,o,none⟩:=fun o=>World.frozen?_of_block (hg.block G hlt hne)
 exact ⟨⟨hg.cell h1 hne,hg.cell h2 hne,hg.cell h3 hne,hg.cell h4 hne⟩,(hf 0).trans h5,(hf 1).trans h6,(hf 2).trans h7,(hf 3).trans h8⟩
theorem ActAt.set0 {w:World} {G:Nat} {p q r t:Int} (h:ActAt w G p q r t) (x:Int):ActAt (w.setCell ⟨G,0,none⟩ (.int .i64 x)) G x q r t:=by
 obtain ⟨⟨h1,h2,h3,h4⟩,h5,h6,h7,h8⟩:=h
 simp [ActAt,go_sem,h1,h2,h3,h4,h5,h6,h7,h8]
theorem ActAt.set1 {w:World} {G:Nat} {p q r t:Int} (h:ActAt w G p q r t) (x:Int):ActAt (w.setCell ⟨G,1,none⟩ (.int .i64 x)) G p x r t:=by
 obtain ⟨⟨h1,h2,h3,h4⟩,h5,h6,h7,h8⟩:=h
 simp [ActAt,go_sem,h1,h2,h3,h4,h5,h6,h7,h8]
theorem ActAt.set2 {w:World} {G:Nat} {p q r t:Int} (h:ActAt w G p q r t) (x:Int):ActAt (w.setCell ⟨G,2,none⟩ (.int .i64 x)) G p q x t:=by
 obtain ⟨⟨h1,h2,h3,h4⟩,h5,h6,h7,h8⟩:=h
 simp [ActAt,go_sem,h1,h2,h3,h4,h5,h6,h7,h8]
theorem ActAt.set3 {w:World} {G:Nat} {p q r t:Int} (h:ActAt w G p q r t) (x:Int):ActAt (w.setCell ⟨G,3,none⟩ (.int .i64 x)) G p q r x:=by
 obtain ⟨⟨h1,h2,h3,h4⟩,h5,h6,h7,h8⟩:=h
 simp [ActAt,go_sem,h1,h2,h3,h4,h5,h6,h7,h8]
theorem grown_set (w:World) (G o:Nat) (v:Value):w.grownBy (w.setCell ⟨G,o,none⟩ v) (some G) :=
 ⟨rfl,rfl,rfl,by simp [World.setCell],fun k _ hk=>Below.heap_setCell _ _ _ _ (fun e=>hk (by simp [e]))⟩
theorem grownBy_tr {a b c:World} {row:Option Nat} (h:a.grownBy b row) (k:b.grownBy c row):a.grownBy c row :=
 ⟨k.os.trans h.os,k.tape.trans h.tape,k.output.trans h.output,Nat.le_trans h.size k.size,fun i hi hr=>(k.block i (Nat.lt_of_lt_of_le hi h.size) hr).trans (h.block i hi hr)⟩
def DrAt (w0 wr:World) (R P Z G:Nat) (p q r t:Int):Prop :=
 ActAt wr Z 0 0 0 0∧ActAt wr G p q r t∧Rd wr R P∧Upd R w0 wr∧(R < Z∧Z < G∧w0.heap.size≤Z)∧(-10≤p∧p≤100)∧(-10≤q∧q≤100)∧(-10≤r∧r≤100)∧(-10≤t∧t≤1000010)
theorem DrAt.turn {w0 wr w':World} {R P P' Z G:Nat} {p q r t:Int} (h:DrAt w0 wr R P Z G p q r t) (hr:Rd w' R P') (hu:Upd R wr w'):DrAt w0 w' R P' Z G p q r t:=by
 obtain ⟨h1,h2,h3,h4,h5,h6⟩:=h
 exact ⟨h1.grown hu (by simp;omega),h2.grown hu (by simp;omega),hr,h4.trans hu,h5,h6⟩
theorem DrAt.put {w0 wr:World} {R P Z G:Nat} {p q r t p' q' r' t':Int} (h:DrAt w0 wr R P Z G p q r t) (o:Nat) (x:Int) (hn:ActAt (wr.setCell ⟨G,o,none⟩ (.int .i64 x)) G p' q' r' t')
  (hb:(-10≤p'∧p'≤100)∧(-10≤q'∧q'≤100)∧(-10≤r'∧r'≤100)∧(-10≤t'∧t'≤1000010)):DrAt w0 (wr.setCell ⟨G,o,none⟩ (.int .i64 x)) R P Z G p' q' r' t':=by
 obtain ⟨h1,h2,h3,h4,h5,h6⟩:=h
 have hg:=grown_set wr G o (.int .i64 x)
 refine ⟨h1.grown hg (by simp;omega),hn,h3.grown hg (fun k hk=>by simp at hk;omega),?_,h5,hb⟩
 exact ⟨hg.os.trans h4.os,hg.tape.trans h4.tape,hg.output.trans h4.output,Nat.le_trans h4.size hg.size,fun k hk hr=>(hg.block k (Nat.lt_of_lt_of_le hk h4.size) (by simp;omega)).trans (h4.block k hk hr)⟩
theorem DrAt.mono {w0 wr:World} {R P P' Z G:Nat} {p q r t:Int} (h:DrAt w0 wr R P Z G p q r t) (hP:P≤P'):DrAt w0 wr R P' Z G p q r t:=by
 obtain ⟨h1,h2,h3,h4,h5,h6⟩:=h
 exact ⟨h1,h2,h3.mono hP,h4,h5,h6⟩
theorem DrAt.fin {w0 wr:World} {R P Z G:Nat} {p q r t:Int} (h:DrAt w0 wr R P Z G p q r t) (a b c d:Value) :
  Rd ((((wr.setCell ⟨Z,0,none⟩ a).setCell ⟨Z,1,none⟩ b).setCell ⟨Z,2,none⟩ c).setCell ⟨Z,3,none⟩ d) R P∧Upd R w0 ((((wr.setCell ⟨Z,0,none⟩ a).setCell ⟨Z,1,none⟩ b).setCell ⟨Z,2,none⟩ c).setCell ⟨Z,3,none⟩ d):=by
 obtain ⟨h1,h2,h3,h4,h5,h6⟩:=h
 have hg:=((grownBy_tr (grownBy_tr (grownBy_tr (grown_set wr Z 0 a) (grown_set _ Z 1 b)) (grown_set _ Z 2 c)) (grown_set _ Z 3 d)))
 exact ⟨h3.grown hg (fun k hk=>by simp at hk;omega),⟨hg.os.trans h4.os,hg.tape.trans h4.tape,hg.output.trans h4.output,Nat.le_trans h4.size hg.size,fun k hk hr=>(hg.block k (Nat.lt_of_lt_of_le hk h4.size) (by simp;omega)).trans (h4.block k hk hr)⟩⟩
set_option maxRecDepth 100000 in
set_option maxHeartbeats 4000000 in
theorem l20Action_any (R P:Nat) (n:Int) (w:World) (h:Rd w R P) (hP:P≤800000) (hn0:0≤n) (hn:n≤1000) :
  Calls Tryz.prog 148 #[.pointer (some ⟨R,0,none⟩),.int .i64 n] w (DrawA w R P 13):=by
 have hRw:=h.lt
 have hz0:=actAt_new w 113 0 0 0 0
 go_enter Tryz.func148,Tryz.ntmps148
 go_wp2_with fail
 refine (pick_pos R P 6 _ (h.alloc _) (by omega) (by omega) (by omega)).mono ?_;rintro e w1 ⟨x1,rfl,hx0,hx1,hr1,hu1⟩
 go_wp2_with fail
 refine (l20Key_any R _ _ hr1 (by omega)).mono ?_;rintro e w2 ⟨x2,rfl,hy0,hy1,hr2,hu2⟩
 go_wp2_with fail
 refine (l20Key_any R _ _ hr2 (by omega)).mono ?_;rintro e w3 ⟨x3,rfl,hz0',hz1,hr3,hu3⟩
 go_wp2_with fail
 refine (l20Value_any R _ _ hr3 (by omega)).mono ?_;rintro e w4 ⟨x4,rfl,hv0,hv1,hr4,hu4⟩
 have hu':=hu1.trans (hu2.trans (hu3.trans hu4))
 have hu:=((Upd.refl R w).alloc (.cells #[.int .i64 0,.int .i64 0,.int .i64 0,.int .i64 0] 113)).trans hu'
 have hs:=hu'.size
 simp at hs
 have hD:∀ a b c d:Int,(-10≤a∧a≤100)∧(-10≤b∧b≤100)∧(-10≤c∧c≤100)∧(-10≤d∧d≤1000010)→DrAt w (w4.alloc (.cells #[.int .i64 a,.int .i64 b,.int .i64 c,.int .i64 d] 113)) R (P+10) w.heap.size w4.heap.size a b c d :=
  fun a b c d hb=>⟨(hz0.grown hu' (by simp;omega)).grown (World.grownBy_alloc w4 _ none) (by simp),actAt_new w4 113 _ _ _ _,(hr4.alloc _).mono (by omega),hu.alloc _,⟨by omega,by omega,Nat.le_refl _⟩,hb⟩
 have HD:=Lib.hid hD
 clear hu1 hu2 hu3 hu4 hr1 hr2 hr3 hr4 hu hu' hz0 hD h
 go_upto_block 0 with (fail)
 go_cut [5] (fun s5 wx=>s5 = .pointer (some ⟨w4.heap.size,0,none⟩)∧∃ p q r t,DrAt w wx R (P+10) w.heap.size w4.heap.size p q r t)
 case first =>
  rcases (by omega:x1=0∨x1=1∨x1=2∨x1=3∨x1=4∨x1=5) with rfl | rfl | rfl | rfl | rfl | rfl
  · go_wp2_with fail
    go_meet
    exact ⟨rfl,_,_,_,_,HD.out 1 x2 0 x4 ⟨by omega,by omega,by omega,by omega⟩⟩
  · go_wp2_with fail
    go_meet
    exact ⟨rfl,_,_,_,_,HD.out 2 x2 x3 x4 ⟨by omega,by omega,by omega,by omega⟩⟩
  · go_wp2_with fail
    go_meet
    exact ⟨rfl,_,_,_,_,HD.out 3 x2 x3 0 ⟨by omega,by omega,by omega,by omega⟩⟩
  · go_wp2_with fail
    go_meet
    exact ⟨rfl,_,_,_,_,HD.out 4 x2 x3 0 ⟨by omega,by omega,by omega,by omega⟩⟩
  · go_wp2_with fail
    go_meet
    exact ⟨rfl,_,_,_,_,HD.out 5 x2 x3 0 ⟨by omega,by omega,by omega,by omega⟩⟩
  · go_wp2_with fail
    go_meet
    exact ⟨rfl,_,_,_,_,HD.out 6 x2 0 x4 ⟨by omega,by omega,by omega,by omega⟩⟩
 case rest =>
  obtain ⟨rfl,p,q,r,t,hD⟩:=hcut
  clear HD
  go_wp2_with fail
  refine (odd_any R _ n _ hD.2.2.1 (by omega) (by omega) hn0).mono ?_;rintro e w5 ⟨ob,rfl,hr5,hu5⟩
  have hD5:=hD.turn hr5 hu5
  clear hD hr5 hu5
  cases ob with
  | false =>
   have HD:=Lib.hid hD5
   obtain ⟨⟨⟨z1,z2,z3,z4⟩,z5,z6,z7,z8⟩,⟨⟨c1,c2,c3,c4⟩,c5,c6,c7,c8⟩,-,-,⟨a1,a2,a3⟩,hbd⟩:=hD5
   have HB:=Lib.hid hbd
   clear hbd
   go_wp2_with fail
   refine bodyPost_ret (v:=.agg #[.int .i64 p,.int .i64 q,.int .i64 r,.int .i64 t]) ?_ rfl ⟨p,q,r,t,rfl,HB.out.1,HB.out.2.1,HB.out.2.2.1,HB.out.2.2.2,(HD.out.fin _ _ _ _).1.mono (by omega),(HD.out.fin _ _ _ _).2⟩
   simp [results,Tryz.results148,go_sem,z1,z2,z3,z4]
  | true =>
   go_wp2_with fail
   refine (pick_pos R _ 4 _ hD5.2.2.1 (by omega) (by omega) (by omega)).mono ?_;rintro e w6 ⟨x6,rfl,hp0,hp1,hr6,hu6⟩
   have hD6:=hD5.turn hr6 hu6
   clear hD5 hr6 hu6
   rcases (by omega:x6=0∨x6=1∨x6=2∨x6=3) with rfl | rfl | rfl | rfl
   · go_wp2_with fail
     refine (pick_pos R _ 2 _ (hD6.2.2.1.alloc _) (by omega) (by omega) (by omega)).mono ?_;rintro e w7 ⟨x7,rfl,hq0,hq1,hr7,hu7⟩
     have hRb:=hD6.2.2.1.lt
     have hcell:∃ y,w7.cell? ⟨w6.heap.size,x7.toNat,none⟩=some (.int .i64 y)∧0≤y∧y≤7:=by
      rcases (by omega:x7=0∨x7=1) with rfl | rfl <;> exact ⟨_,hu7.cell (by simp [go_sem];rfl) (by omega),by omega,by omega⟩
     obtain ⟨y,hy,hy2,hy3⟩:=hcell
     have hD7:=hD6.turn hr7 (((Upd.refl R w6).alloc _).trans hu7)
     have HN:=Lib.hid (hD7.put 0 y (hD7.2.1.set0 y) ⟨by have:=hD7.2.2.2.2.2.1;omega,by have:=hD7.2.2.2.2.2.2.1;omega,by have:=hD7.2.2.2.2.2.2.2.1;omega,by have:=hD7.2.2.2.2.2.2.2.2;omega⟩)
     have HD:=Lib.hid hD7
     obtain ⟨⟨⟨z1,z2,z3,z4⟩,z5,z6,z7,z8⟩,⟨⟨c1,c2,c3,c4⟩,c5,c6,c7,c8⟩,-,-,⟨a1,a2,a3⟩,-⟩:=hD7
     clear hD6 hr7 hu7
     go_wp2_with fail
     refine bodyPost_ret (v:=.agg #[.int .i64 y,.int .i64 q,.int .i64 r,.int .i64 t]) ?_ rfl ⟨_,_,_,_,rfl,HN.out.2.2.2.2.2.1,HN.out.2.2.2.2.2.2.1,HN.out.2.2.2.2.2.2.2.1,HN.out.2.2.2.2.2.2.2.2,(HN.out.fin _ _ _ _).1.mono (by omega),(HN.out.fin _ _ _ _).2⟩
     simp [results,Tryz.results148,go_sem,z1,z2,z3,z4]
   · go_wp2_with fail
     refine (pick_pos R _ 2 _ (hD6.2.2.1.alloc _) (by omega) (by omega) (by omega)).mono ?_;rintro e w7 ⟨x7,rfl,hq0,hq1,hr7,hu7⟩
     have hRb:=hD6.2.2.1.lt
     have hcell:∃ y,w7.cell? ⟨w6.heap.size,x7.toNat,none⟩=some (.int .i64 y)∧-1≤y∧y≤32:=by
      rcases (by omega:x7=0∨x7=1) with rfl | rfl <;> exact ⟨_,hu7.cell (by simp [go_sem];rfl) (by omega),by omega,by omega⟩
     obtain ⟨y,hy,hy2,hy3⟩:=hcell
     have hD7:=hD6.turn hr7 (((Upd.refl R w6).alloc _).trans hu7)
     have HN:=Lib.hid (hD7.put 1 y (hD7.2.1.set1 y) ⟨by have:=hD7.2.2.2.2.2.1;omega,by have:=hD7.2.2.2.2.2.2.1;omega,by have:=hD7.2.2.2.2.2.2.2.1;omega,by have:=hD7.2.2.2.2.2.2.2.2;omega⟩)
     have HD:=Lib.hid hD7
     obtain ⟨⟨⟨z1,z2,z3,z4⟩,z5,z6,z7,z8⟩,⟨⟨c1,c2,c3,c4⟩,c5,c6,c7,c8⟩,-,-,⟨a1,a2,a3⟩,-⟩:=hD7
     clear hD6 hr7 hu7
     go_wp2_with fail
     refine bodyPost_ret (v:=.agg #[.int .i64 p,.int .i64 y,.int .i64 r,.int .i64 t]) ?_ rfl ⟨_,_,_,_,rfl,HN.out.2.2.2.2.2.1,HN.out.2.2.2.2.2.2.1,HN.out.2.2.2.2.2.2.2.1,HN.out.2.2.2.2.2.2.2.2,(HN.out.fin _ _ _ _).1.mono (by omega),(HN.out.fin _ _ _ _).2⟩
     simp [results,Tryz.results148,go_sem,z1,z2,z3,z4]
   · go_wp2_with fail
     refine (pick_pos R _ 2 _ (hD6.2.2.1.alloc _) (by omega) (by omega) (by omega)).mono ?_;rintro e w7 ⟨x7,rfl,hq0,hq1,hr7,hu7⟩
     have hRb:=hD6.2.2.1.lt
     have hcell:∃ y,w7.cell? ⟨w6.heap.size,x7.toNat,none⟩=some (.int .i64 y)∧-1≤y∧y≤1000001:=by
      rcases (by omega:x7=0∨x7=1) with rfl | rfl <;> exact ⟨_,hu7.cell (by simp [go_sem];rfl) (by omega),by omega,by omega⟩
     obtain ⟨y,hy,hy2,hy3⟩:=hcell
     have hD7:=hD6.turn hr7 (((Upd.refl R w6).alloc _).trans hu7)
     have HN:=Lib.hid (hD7.put 3 y (hD7.2.1.set3 y) ⟨by have:=hD7.2.2.2.2.2.1;omega,by have:=hD7.2.2.2.2.2.2.1;omega,by have:=hD7.2.2.2.2.2.2.2.1;omega,by have:=hD7.2.2.2.2.2.2.2.2;omega⟩)
     have HD:=Lib.hid hD7
     obtain ⟨⟨⟨z1,z2,z3,z4⟩,z5,z6,z7,z8⟩,⟨⟨c1,c2,c3,c4⟩,c5,c6,c7,c8⟩,-,-,⟨a1,a2,a3⟩,-⟩:=hD7
     clear hD6 hr7 hu7
     go_wp2_with fail
     refine bodyPost_ret (v:=.agg #[.int .i64 p,.int .i64 q,.int .i64 r,.int .i64 y]) ?_ rfl ⟨_,_,_,_,rfl,HN.out.2.2.2.2.2.1,HN.out.2.2.2.2.2.2.1,HN.out.2.2.2.2.2.2.2.1,HN.out.2.2.2.2.2.2.2.2,(HN.out.fin _ _ _ _).1.mono (by omega),(HN.out.fin _ _ _ _).2⟩
     simp [results,Tryz.results148,go_sem,z1,z2,z3,z4]
   · have H0:=hD6.put 0 1 (hD6.2.1.set0 1) ⟨by omega,by have:=hD6.2.2.2.2.2.2.1;omega,by have:=hD6.2.2.2.2.2.2.2.1;omega,by have:=hD6.2.2.2.2.2.2.2.2;omega⟩
     have H1:=H0.put 1 0 (H0.2.1.set1 0) ⟨by omega,by omega,by have:=hD6.2.2.2.2.2.2.2.1;omega,by have:=hD6.2.2.2.2.2.2.2.2;omega⟩
     have H2:=H1.put 2 1 (H1.2.1.set2 1) ⟨by omega,by omega,by omega,by have:=hD6.2.2.2.2.2.2.2.2;omega⟩
     have HN:=Lib.hid (H2.put 3 0 (H2.2.1.set3 0) ⟨by omega,by omega,by omega,by omega⟩)
     obtain ⟨⟨⟨z1,z2,z3,z4⟩,z5,z6,z7,z8⟩,⟨⟨c1,c2,c3,c4⟩,c5,c6,c7,c8⟩,-,-,⟨a1,a2,a3⟩,-⟩:=hD6
     clear H0 H1 H2
     go_wp2_with fail
     refine bodyPost_ret (v:=.agg #[.int .i64 1,.int .i64 0,.int .i64 1,.int .i64 0]) ?_ rfl ⟨_,_,_,_,rfl,HN.out.2.2.2.2.2.1,HN.out.2.2.2.2.2.2.1,HN.out.2.2.2.2.2.2.2.1,HN.out.2.2.2.2.2.2.2.2,(HN.out.fin _ _ _ _).1.mono (by omega),(HN.out.fin _ _ _ _).2⟩
     simp [results,Tryz.results148,go_sem,z1,z2,z3,z4]
def AsAt (w wr:World) (R P:Nat) (v:Value) (l:List Acn):Prop:=Own wr w.heap.size 113 4 v l.length (flatA l)∧WfAs l∧Rd wr R P∧Upd R w wr
theorem AsAt.next {w wr w':World} {R P P':Nat} {v:Value} {l:List Acn} (h:AsAt w wr R P v l) (hr:Rd w' R P') (hu:Upd R wr w') (hR:R < w.heap.size):AsAt w w' R P' v l :=
 ⟨h.1.upd hu hR,h.2.1,hr,h.2.2.2.trans hu⟩
theorem AsAt.app {w wr w':World} {R P:Nat} {v v':Value} {l:List Acn} (h:AsAt w wr R P v l) (x:Acn) (o:Obj) (hx:WfA x) (ho:Own w' w.heap.size 113 4 v' (l.length+1) (flatA l++celA x)) (hg:(wr.alloc o).grownBy w' v.ownBlock) (hR:R < w.heap.size):AsAt w w' R P v' (l++[x]):=by
 obtain ⟨h1,h2,h3,h4⟩:=h
 refine ⟨?_,h2.snoc hx,(h3.alloc _).grown hg (fun k hk=>by have:=(h1.1.lt k hk).1;omega),Upd.ofGrown (h4.alloc _) hg h1⟩
 rw [List.length_append,flatA_append]
 have e:flatA [x]=celA x:=by simp [flatA]
 rw [e];exact ho
end Go.Proofs.YtpnjgmgmakmgeaaGreat
