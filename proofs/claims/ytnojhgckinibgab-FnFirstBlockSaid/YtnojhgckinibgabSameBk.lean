/- The contract of the laws' own sameBlock,at two blocks that read the same. -/
import Derived.Test.YtnojhgckinibgabTrM
import Derived.Deep.QuietTactic
import Derived.BigQuiet
import Derived.Deep.Cut
namespace Go.Proofs.Ytnojhgckinibgab
open Go.RowKit
set_option linter.unusedVariables false
set_option linter.unusedSimpArgs false
set_option maxRecDepth 100000 in
set_option maxHeartbeats 4000000 in
theorem sameBlock_same (p q r t u:Int) (a:Option Addr) (n c:Nat) (a':Option Addr) (c':Nat) (L:List Acn) (w:World) (h:RowA w a n L) (h':RowA w a' n L) :
  Calls Try.prog 6 #[.agg #[.int .i64 p,.int .i64 q,.int .i64 r,.slice a n c,.int .i64 t,.int .i64 u],.agg #[.int .i64 p,.int .i64 q,.int .i64 r,.slice a' n c',.int .i64 t,.int .i64 u]] w fun e w'=>e = .returned (.bool true)∧Below w.heap.size w w':=by
 have hm:=h.2.1
 unfold maxLen at hm
 have hb0:=((Below.refl w.heap.size w).alloc (Nat.le_refl _) (.cells #[.int .i64 p,.int .i64 q,.int .i64 r,.slice a n c,.int .i64 t,.int .i64 u] 27)).alloc (by simp) (.cells #[.int .i64 p,.int .i64 q,.int .i64 r,.slice a' n c',.int .i64 t,.int .i64 u] 27)
 have hA:=(bkAt_new w 27 (.int .i64 p) (.int .i64 q) (.int .i64 r) (.slice a n c) (.int .i64 t) (.int .i64 u)).below ((Below.refl _ _).alloc (Nat.le_refl _) (.cells #[.int .i64 p,.int .i64 q,.int .i64 r,.slice a' n c',.int .i64 t,.int .i64 u] 27))
 have hA':=bkAt_new (w.alloc (.cells #[.int .i64 p,.int .i64 q,.int .i64 r,.slice a n c,.int .i64 t,.int .i64 u] 27)) 27 (.int .i64 p) (.int .i64 q) (.int .i64 r) (.slice a' n c') (.int .i64 t) (.int .i64 u)
 rw [World.size_alloc] at hA'
 obtain ⟨W1,hW1⟩:∃ W1,W1=(w.alloc (.cells #[.int .i64 p,.int .i64 q,.int .i64 r,.slice a n c,.int .i64 t,.int .i64 u] 27)).alloc (.cells #[.int .i64 p,.int .i64 q,.int .i64 r,.slice a' n c',.int .i64 t,.int .i64 u] 27):=⟨_,rfl⟩
 have HW1:=Lib.hid hW1
 rw [← hW1] at hb0 hA hA'
 clear hW1
 have HA:=Lib.hid (fun (W:World) (hb:Below W1.heap.size W1 W)=>(⟨hA.below hb,hA'.below hb,hb0.trans (hb.mono hb0.size)⟩:BkAt W w.heap.size (.int .i64 p) (.int .i64 q) (.int .i64 r) (.slice a n c) (.int .i64 t) (.int .i64 u)∧BkAt W (w.heap.size+1) (.int .i64 p) (.int .i64 q) (.int .i64 r) (.slice a' n c') (.int .i64 t) (.int .i64 u)∧Below w.heap.size w W))
 have HR2:=Lib.hid (fun (W:World) (hb:Below W1.heap.size W1 W)=>(⟨(h.below hb0).below hb,(h'.below hb0).below hb⟩:RowA W a n L∧RowA W a' n L))
 clear h h' hb0 hA hA'
 go_enter Try.func6,Try.ntmps6
 go_upto_region 1 with (fail)
 rw [← HW1.out]
 clear HW1
 obtain ⟨⟨x0,x1,x2,x3,x4,x5,-⟩,⟨y0,y1,y2,y3,y4,y5,-⟩,-⟩:=HA.out W1 (Below.refl _ _)
 have e2:((n:Int) != (n:Int))=false:=by simp
 have e3:(p != p)=false:=by simp
 have e4:(q != q)=false:=by simp
 have e5:(r != r)=false:=by simp
 have e6:(t != t)=false:=by simp
 have e7:(u != u)=false:=by simp
 go_wp2_with fail
 clear x0 x1 x2 x3 x4 x5 y0 y1 y2 y3 y4 y5
 go_loopw [5] (fun i wr=>∃ k:Nat,k≤n∧i = .int .i64 k∧Below W1.heap.size W1 wr) (fun i _=>n - (intOf i).toNat)
 case atStart=>exact ⟨0,Nat.zero_le _,rfl,Below.refl _ _⟩
 case round =>
  obtain ⟨k,hk,rfl,hb⟩:=hrel
  have HB:=Lib.hid hb
  obtain ⟨⟨x0,x1,x2,x3,x4,x5,-⟩,⟨y0,y1,y2,y3,y4,y5,-⟩,-⟩:=HA.out wr HB.out
  by_cases hlt:k < n
  · obtain ⟨b,off,rfl,hcc⟩:=(HR2.out wr HB.out).1.2.2.1 (by omega)
    obtain ⟨b',off',rfl,hcc'⟩:=(HR2.out wr HB.out).2.2.2.1 (by omega)
    obtain ⟨c1',c2',c3',c4'⟩:=hcc k hlt
    obtain ⟨d1',d2',d3',d4'⟩:=hcc' k hlt
    clear hcc hcc'
    obtain ⟨x,hx⟩:∃ x,x=L.getD k noA:=⟨_,rfl⟩
    rw [← hx] at c1' c2' c3' c4' d1' d2' d3' d4'
    clear hx
    obtain ⟨p',q',r',t'⟩:=x
    simp only at c1' c2' c3' c4' d1' d2' d3' d4'
    have i1:(0:Int)≤(k:Int):=by omega
    have i2:(k:Int) < (n:Int):=by omega
    go_upto_region 6 with (fail)
    go_quiet (fail)
    go_wp2_with fail
    go_roundw
    case rel=>exact ⟨k+1,by omega,by go_num,by first | exact HB.out | exact HB.out.drew | exact below_drewN' HB.out _⟩
    case measure=>simp [intOf];omega
  · obtain rfl:k=n:=by omega
    have HBF:=Lib.hid (HA.out wr HB.out).2.2
    clear hlt
    go_wp2_with fail
    go_ret
    exact ⟨rfl,HBF.out⟩
end Go.Proofs.Ytnojhgckinibgab
