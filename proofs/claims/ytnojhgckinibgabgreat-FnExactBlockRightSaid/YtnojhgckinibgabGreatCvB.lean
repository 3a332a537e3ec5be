/- Texts of ours that stand together: ConvBk, ConvTr, ConvTr3 -/
import Derived.Test.YtnojhgckinibgabGreatTrM
import Derived.Test.YtnojhgckinibgabGreatHeldA
import Derived.Test.YtnojhgckinibgabGreatConv
import Derived.StillTailTactics
import Derived.Deep.Cut
import Derived.Test.YtnojhgckinibgabGreatConvAX
import Derived.Lib.AppendZeros
/- The contracts of the laws' own helpers over blocks: szBlock,toBlock,eqBlock,markBlock,heldBlock. -/
namespace Go.Proofs.YtnojhgckinibgabGreat
open Go.RowKit
set_option linter.unusedVariables false
theorem szBlock_any (p q r t u:Int) (a:Option Addr) (n c:Nat) (left:Int) (w:World) (h0:0≤left) (h1:left≤1048576) (hn:n≤maxLen) :
  Calls Tryz.prog 16 #[.agg #[.int .i64 p,.int .i64 q,.int .i64 r,.slice a n c,.int .i64 t,.int .i64 u],.int .i64 left] w fun e w'=>e = .returned (.int .i64 (if (n:Int)≤left then left - n else -1))∧Below w.heap.size w w':=by
 have hb0:=(Below.refl w.heap.size w).alloc (Nat.le_refl _) (.cells #[.int .i64 p,.int .i64 q,.int .i64 r,.slice a n c,.int .i64 t,.int .i64 u] 29)
 have HB:=Lib.hid hb0
 clear hb0
 go_enter Tryz.func16,Tryz.ntmps16
 go_wp2_with fail
 refine (szActionS_any a n c left _ h0 h1 hn).mono ?_;rintro e w' ⟨rfl,rfl⟩
 by_cases h:(n:Int)≤left
 · rw [if_pos h]
   have hlt:decide (left - (n:Int) < 0)=false:=by simp;omega
   go_wp2
   go_ret
   exact ⟨rfl,HB.out⟩
 · rw [if_neg h]
   go_wp2
   go_ret
   exact ⟨rfl,HB.out⟩
theorem eqBlock_same (p q r t u:Int) (a:Option Addr) (n c:Nat) (a':Option Addr) (c':Nat) (L:List Acn) (w:World) (h:RowA w a n L) (h':RowA w a' n L) :
  Calls Tryz.prog 22 #[.agg #[.int .i64 p,.int .i64 q,.int .i64 r,.slice a n c,.int .i64 t,.int .i64 u],.agg #[.int .i64 p,.int .i64 q,.int .i64 r,.slice a' n c',.int .i64 t,.int .i64 u]] w fun e w'=>e = .returned (.bool true)∧Below w.heap.size w w':=by
 have hb0:=((Below.refl w.heap.size w).alloc (Nat.le_refl _) (.cells #[.int .i64 p,.int .i64 q,.int .i64 r,.slice a n c,.int .i64 t,.int .i64 u] 41)).alloc (by simp) (.cells #[.int .i64 p,.int .i64 q,.int .i64 r,.slice a' n c',.int .i64 t,.int .i64 u] 41)
 have hA:=(bkAt_new w 41 (.int .i64 p) (.int .i64 q) (.int .i64 r) (.slice a n c) (.int .i64 t) (.int .i64 u)).below ((Below.refl _ _).alloc (Nat.le_refl _) (.cells #[.int .i64 p,.int .i64 q,.int .i64 r,.slice a' n c',.int .i64 t,.int .i64 u] 41))
 have hA':=bkAt_new (w.alloc (.cells #[.int .i64 p,.int .i64 q,.int .i64 r,.slice a n c,.int .i64 t,.int .i64 u] 41)) 41 (.int .i64 p) (.int .i64 q) (.int .i64 r) (.slice a' n c') (.int .i64 t) (.int .i64 u)
 rw [World.size_alloc] at hA'
 have H:=Lib.hid (h.below hb0)
 have H':=Lib.hid (h'.below hb0)
 have HB:=Lib.hid hb0
 have HA:=Lib.hid hA
 have HA':=Lib.hid hA'
 clear h h' hb0 hA hA'
 go_enter Tryz.func22,Tryz.ntmps22
 go_wp2_with fail
 refine (eqActionS_same a a' n c c' L _ H.out H'.out).mono ?_;rintro e w1 ⟨rfl,hb1⟩
 obtain ⟨-,-,-,-,c4,c5,-⟩:=HA.out.below hb1
 obtain ⟨-,-,-,-,d4,d5,-⟩:=HA'.out.below hb1
 have HB1:=Lib.hid (HB.out.trans (hb1.mono HB.out.size))
 clear hb1
 go_wp2
 go_ret
 exact ⟨rfl,HB1.out⟩
set_option maxHeartbeats 1000000 in
theorem toBlock_any (p q r t u:Int) (a:Option Addr) (n c:Nat) (L:List Acn) (w:World) (h:RowA w a n L) (hn:n≤1048576) (hw:WfB ⟨p,q,r,L,t,u⟩) :
  Calls Tryz.prog 19 #[.agg #[.int .i64 p,.int .i64 q,.int .i64 r,.slice a n c,.int .i64 t,.int .i64 u]] w (NewBk w 141 ⟨p,q,r,L,t,u⟩):=by
 have hb0:=(((Below.refl w.heap.size w).alloc (Nat.le_refl _) (.cells #[.int .i64 p,.int .i64 q,.int .i64 r,.slice a n c,.int .i64 t,.int .i64 u] 29)).alloc (by simp) (.cells #[.int .i64 0,.int .i64 0,.int .i64 0,.slice none 0 0,.int .i64 0,.int .i64 0] 41)).alloc (by simp;omega) (.cells #[.int .i64 p,.int .i64 q,.int .i64 r,.slice none 0 0,.int .i64 0,.int .i64 0] 41)
 have hA:=((bkAt_new w 29 (.int .i64 p) (.int .i64 q) (.int .i64 r) (.slice a n c) (.int .i64 t) (.int .i64 u)).below ((Below.refl _ _).alloc (Nat.le_refl _) (.cells #[.int .i64 0,.int .i64 0,.int .i64 0,.slice none 0 0,.int .i64 0,.int .i64 0] 41))).below ((Below.refl _ _).alloc (Nat.le_refl _) (.cells #[.int .i64 p,.int .i64 q,.int .i64 r,.slice none 0 0,.int .i64 0,.int .i64 0] 41))
 have hZ:=(bkAt_new (w.alloc (.cells #[.int .i64 p,.int .i64 q,.int .i64 r,.slice a n c,.int .i64 t,.int .i64 u] 29)) 41 (.int .i64 0) (.int .i64 0) (.int .i64 0) (.slice none 0 0) (.int .i64 0) (.int .i64 0)).below ((Below.refl _ _).alloc (Nat.le_refl _) (.cells #[.int .i64 p,.int .i64 q,.int .i64 r,.slice none 0 0,.int .i64 0,.int .i64 0] 41))
 have hE:=bkAt_new ((w.alloc (.cells #[.int .i64 p,.int .i64 q,.int .i64 r,.slice a n c,.int .i64 t,.int .i64 u] 29)).alloc (.cells #[.int .i64 0,.int .i64 0,.int .i64 0,.slice none 0 0,.int .i64 0,.int .i64 0] 41)) 41 (.int .i64 p) (.int .i64 q) (.int .i64 r) (.slice none 0 0) (.int .i64 0) (.int .i64 0)
 rw [World.size_alloc] at hZ
 rw [World.size_alloc,World.size_alloc] at hE
 obtain ⟨W1,hW1⟩:∃ W1,W1=((w.alloc (.cells #[.int .i64 p,.int .i64 q,.int .i64 r,.slice a n c,.int .i64 t,.int .i64 u] 29)).alloc (.cells #[.int .i64 0,.int .i64 0,.int .i64 0,.slice none 0 0,.int .i64 0,.int .i64 0] 41)).alloc (.cells #[.int .i64 p,.int .i64 q,.int .i64 r,.slice none 0 0,.int .i64 0,.int .i64 0] 41):=⟨_,rfl⟩
 have HW1:=Lib.hid hW1
 rw [← hW1] at hb0 hA hZ hE
 clear hW1
 have HA:=Lib.hid (fun (W:World) (hb:Below W1.heap.size W1 W)=>(⟨hA.below hb,hZ.below hb,hE.below hb,hb0.trans (hb.mono hb0.size)⟩:BkAt W w.heap.size (.int .i64 p) (.int .i64 q) (.int .i64 r) (.slice a n c) (.int .i64 t) (.int .i64 u)∧BkAt W (w.heap.size+1) (.int .i64 0) (.int .i64 0) (.int .i64 0) (.slice none 0 0) (.int .i64 0) (.int .i64 0)∧BkAt W (w.heap.size+1+1) (.int .i64 p) (.int .i64 q) (.int .i64 r) (.slice none 0 0) (.int .i64 0) (.int .i64 0)∧Below w.heap.size w W))
 have HR:=Lib.hid (h.below hb0)
 have HN:Hid (w.heap.size+1+1 < W1.heap.size):=Lib.hid hE.lt
 have HWB:=Lib.hid hw
 clear h hb0 hA hZ hE hw
 go_enter Tryz.func19,Tryz.ntmps19
 go_wp2_with fail
 rw [← HW1.out]
 clear HW1
 refine (toActionS_any a n c L _ HR.out hn).mono ?_;rintro e w2 ⟨v2,rfl,ho,hwf,hb2⟩
 have HWF:=Lib.hid hwf
 obtain ⟨hA2,hZ2,hE2,hB2⟩:=HA.out w2 hb2
 obtain ⟨g,k,rfl,hg,-⟩:=ho.slice
 have hgn:=HN.out
 have n1:Value.ownBlock (.slice (some ⟨g,0,none⟩) L.length k)≠some (w.heap.size+1+1):=by simp [Value.ownBlock];omega
 have n2:Value.ownBlock (.slice (some ⟨g,0,none⟩) L.length k)≠some (w.heap.size+1):=by simp [Value.ownBlock];omega
 have hE3:=hE2.set345 (.slice (some ⟨g,0,none⟩) L.length k) (.int .i64 t) (.int .i64 u)
 have hZ3:=((hZ2.grown (set_grown w2 (w.heap.size+1+1) 3 (.slice (some ⟨g,0,none⟩) L.length k)) (by simp)).grown (set_grown _ (w.heap.size+1+1) 4 (.int .i64 t)) (by simp)).grown (set_grown _ (w.heap.size+1+1) 5 (.int .i64 u)) (by simp)
 have hb3:=below_set3 hB2 (Z:=w.heap.size+1+1) (by omega) 3 4 5 (.slice (some ⟨g,0,none⟩) L.length k) (.int .i64 t) (.int .i64 u)
 have ho3:=owns_set (owns_set (owns_set ho.1 n1 3 (.slice (some ⟨g,0,none⟩) L.length k)) n1 4 (.int .i64 t)) n1 5 (.int .i64 u)
 have HF:=Lib.hid (hZ3.set6 (.int .i64 p) (.int .i64 q) (.int .i64 r) (.slice (some ⟨g,0,none⟩) L.length k) (.int .i64 t) (.int .i64 u))
 have HBF:=Lib.hid (below_set6 hb3 (Z:=w.heap.size+1) (by omega) (.int .i64 p) (.int .i64 q) (.int .i64 r) (.slice (some ⟨g,0,none⟩) L.length k) (.int .i64 t) (.int .i64 u))
 have HO:=Lib.hid (owns_mono (owns_set6 ho3 n2 (.int .i64 p) (.int .i64 q) (.int .i64 r) (.slice (some ⟨g,0,none⟩) L.length k) (.int .i64 t) (.int .i64 u)) (show w.heap.size≤W1.heap.size by omega))
 obtain ⟨a0,a1,a2,a3,a4,a5,-⟩:=hA2
 obtain ⟨zc0,zc1,zc2,zc3,zc4,zc5,z0,z1,z2,z3,z4,z5⟩:=hZ2
 obtain ⟨e0,e1,e2,e3,e4,e5,ef0,ef1,ef2,ef3,ef4,ef5⟩:=hE2
 clear hE3 hZ3 hb3 ho3 ho hB2 hb2 hwf
 go_wp2_with fail
 refine bodyPost_ret (results_blk Tryz.results19 _ (by rfl) HF.out) rfl ?_
 exact ⟨_,rfl,HO.out,HWF.out,HWB.out,HBF.out⟩
end Go.Proofs.YtnojhgckinibgabGreat
/- The contracts of the laws' own helpers over blocks and trees: weights and comparisons. -/
namespace Go.Proofs.YtnojhgckinibgabGreat
open Go.RowKit
set_option linter.unusedVariables false
end Go.Proofs.YtnojhgckinibgabGreat
/- The contracts of the laws' own helpers toBlockS and toBlockTree. -/
namespace Go.Proofs.YtnojhgckinibgabGreat
open Go.RowKit
set_option linter.unusedVariables false
structure Tt (w W:World) (v1 v2 v3 u1 u2 u3:Value) (R:List Rw):Prop where
 inn:TrAt W w.heap.size v1 v2 v3
 ans:TrAt W (w.heap.size+1) (.slice none 0 0) (.slice none 0 0) (.slice none 0 0)
 cpy:TrAt W (w.heap.size+1+1) u1 u2 u3
 own:OwnR W (w.heap.size+3) W.heap.size R
 below:Below w.heap.size w W
 size:w.heap.size+3≤W.heap.size
theorem Tt.add {w W W':World} {v1 v2 v3 u1 u2 u3:Value} {R R2:List Rw} (h:Tt w W v1 v2 v3 u1 u2 u3 R) (hb:Below W.heap.size W W') (h2:OwnR W' W.heap.size W'.heap.size R2):Tt w W' v1 v2 v3 u1 u2 u3 (R++R2) :=
 ⟨h.inn.below hb,h.ans.below hb,h.cpy.below hb,(h.own.below hb).append h2 (Nat.le_refl _) h.size hb.size,h.below.trans (hb.mono h.below.size),Nat.le_trans h.size hb.size⟩
theorem Tt.put {w W:World} {v1 v2 v3 u1 u2 u3 x1 x2 x3:Value} {R:List Rw} (h:Tt w W v1 v2 v3 u1 u2 u3 R) (i:Nat) (x:Value) (hc:TrAt (W.setCell ⟨w.heap.size+1+1,i,none⟩ x) (w.heap.size+1+1) x1 x2 x3):Tt w (W.setCell ⟨w.heap.size+1+1,i,none⟩ x) v1 v2 v3 x1 x2 x3 R:=by
 have hk:∀ b,b≠w.heap.size+1+1→(W.setCell ⟨w.heap.size+1+1,i,none⟩ x).heap[b]? = W.heap[b]?:=fun b hb=>Below.heap_setCell _ _ _ _ (by simpa using hb)
 refine ⟨h.inn.keep (hk _ (by omega)),h.ans.keep (hk _ (by omega)),hc,?_,h.below.setCell (by simp;omega) x,by simpa [World.setCell] using h.size⟩
 have:=h.own.keep (w':=W.setCell ⟨w.heap.size+1+1,i,none⟩ x) fun r hr b hb=>hk b (by have:=(h.own.ge hr hb).1;omega)
 exact this.mono (Nat.le_refl _) (by simp [World.setCell])
end Go.Proofs.YtnojhgckinibgabGreat
