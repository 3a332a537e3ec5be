/- Texts of ours that stand together: SpecBlk, SpecBlk2, SpecTr -/
import Derived.Test.YtnojhgckinibgabTrM
import Derived.Test.YtnojhgckinibgabSpecAct
import Derived.Test.YtnojhgckinibgabSpecEff4
import Derived.Test.YtnojhgckinibgabSr2
import Derived.Test.YtnojhgckinibgabTreeS
import Derived.Deep.RegionHeld3
import Derived.Deep.QuietTactic
import Derived.BigQuiet
import Derived.Deep.Cut
/- The contract of the model's BlockValid. -/
namespace Go.Proofs.Ytnojhgckinibgab
open Go.RowKit
set_option linter.unusedVariables false
end Go.Proofs.Ytnojhgckinibgab
/- The contracts of the model's BlockSum and FirstBlock. -/
namespace Go.Proofs.Ytnojhgckinibgab
open Go.RowKit
set_option linter.unusedVariables false
set_option linter.unusedSimpArgs false
set_option maxRecDepth 100000 in
set_option maxHeartbeats 4000000 in
theorem firstBlock_spec (a:Option Addr) (n c:Nat) (S:List Ent) (w:World) (h:RowE w a n S) :
  Calls Try.prog 7 #[.slice a n c] w (NewBk w 39 (firstM S)):=by
 have hb0:=(Below.refl w.heap.size w).alloc (Nat.le_refl _) (.cells #[.int .i64 0,.int .i64 0,.int .i64 0,.slice none 0 0,.int .i64 0,.int .i64 0] 27)
 have hA:=bkAt_new w 27 (.int .i64 0) (.int .i64 0) (.int .i64 0) (.slice none 0 0) (.int .i64 0) (.int .i64 0)
 obtain ⟨W1,hW1⟩:∃ W1,W1=w.alloc (.cells #[.int .i64 0,.int .i64 0,.int .i64 0,.slice none 0 0,.int .i64 0,.int .i64 0] 27):=⟨_,rfl⟩
 have HW1:=Lib.hid hW1
 rw [← hW1] at hb0 hA
 clear hW1
 have HA:=Lib.hid (fun (W:World) (hb:Below W1.heap.size W1 W)=>(⟨hA.below hb,hb0.trans (hb.mono hb0.size)⟩:BkAt W w.heap.size (.int .i64 0) (.int .i64 0) (.int .i64 0) (.slice none 0 0) (.int .i64 0) (.int .i64 0)∧Below w.heap.size w W))
 have HS:=Lib.hid (h.below hb0)
 clear h hb0 hA
 go_enter Try.func7,Try.ntmps7
 go_upto_region 1 with (fail)
 rw [← HW1.out]
 clear HW1
 go_wp2_with fail
 refine (storeValid_spec a n c S _ HS.out).mono ?_;rintro e w2 ⟨rfl,hd2⟩
 have hb2:=hd2.below W1.heap.size
 have HB2:=Lib.hid hb2
 clear hd2
 cases hs:storeB S with
 | false =>
  have HE:=Lib.hid (firstM_no hs)
  obtain ⟨hA2,hB2⟩:=HA.out w2 hb2
  have HF:=Lib.hid (hA2.set6 (.int .i64 0) (.int .i64 0) (.int .i64 0) (.slice none 0 0) (.int .i64 0) (.int .i64 0))
  have HBF:=Lib.hid (below_set6 hB2 (Nat.le_refl w.heap.size) (.int .i64 0) (.int .i64 0) (.int .i64 0) (.slice none 0 0) (.int .i64 0) (.int .i64 0))
  obtain ⟨c0,c1,c2,c3,c4,c5,f0,f1,f2,f3,f4,f5⟩:=hA2
  clear hs hb2 hB2
  go_wp2_with fail
  refine bodyPost_ret (results_blk Try.results7 _ (by rfl) HF.out) rfl ?_
  exact ⟨.slice none 0 0,by rw [HE.out];rfl,by rw [HE.out];exact newBk_zero _ _ _,by rw [HE.out];exact fun x hx=>(by cases hx),by rw [HE.out];exact wfB_no,HBF.out⟩
 | true =>
  have HE:=Lib.hid (firstM_yes hs)
  have HWB:Hid (WfB ⟨0,0,0,[],rootM S,effsSumM []⟩):=Lib.hid (by have:=wfB_run (b:=noBlk) S wfB_no;have hf:=firstM_yes hs;unfold firstM at hf;rw [if_pos hs] at hf;rw [hf] at this;exact this)
  have HS2:=Lib.hid (HS.out.below hb2)
  clear hs hb2
  go_wp2_with fail
  refine (rootOf_spec a n c S _ HS2.out).mono ?_;rintro e w3 ⟨rfl,hb3⟩
  have HB3:=Lib.hid (HB2.out.trans (hb3.mono HB2.out.size))
  obtain ⟨rt,hrt⟩:∃ x,x=rootM S:=⟨_,rfl⟩
  rw [← hrt] at HE HWB ⊢
  clear hrt hb3
  go_wp2_with fail
  refine (effectsSum_spec _ 0 0 [] _ (⟨rfl,by simp,fun h=>absurd h (by omega)⟩:RowFs _ _ 0 []) (fun x hx=>by cases hx) (by omega)).mono ?_;rintro e w4 ⟨rfl,hb4⟩
  obtain ⟨ef,hef⟩:∃ x,x=effsSumM []:=⟨_,rfl⟩
  rw [← hef] at HE HWB ⊢
  obtain ⟨hA4,hB4⟩:=HA.out w4 (HB3.out.trans ((((Below.refl w3.heap.size w3).alloc (Nat.le_refl _) _).trans (hb4.mono (by simp))).mono HB3.out.size))
  have HF:=Lib.hid (hA4.set6 (.int .i64 0) (.int .i64 0) (.int .i64 0) (.slice none 0 0) (.int .i64 rt) (.int .i64 ef))
  have HBF:=Lib.hid (below_set6 hB4 (Nat.le_refl w.heap.size) (.int .i64 0) (.int .i64 0) (.int .i64 0) (.slice none 0 0) (.int .i64 rt) (.int .i64 ef))
  obtain ⟨c0,c1,c2,c3,c4,c5,f0,f1,f2,f3,f4,f5⟩:=hA4
  clear hef hb4 hB4
  go_wp2_with fail
  refine bodyPost_ret (results_blk Try.results7 _ (by rfl) HF.out) rfl ?_
  exact ⟨.slice none 0 0,by rw [HE.out],by rw [HE.out];exact World.ownsRow_nil _ _ _ _,by rw [HE.out];exact fun x hx=>(by cases hx),by rw [HE.out];exact HWB.out,HBF.out⟩
end Go.Proofs.Ytnojhgckinibgab
/- The contracts of the model's l13Find and l13SameBlock (gen16/spectr.py). -/
namespace Go.Proofs.Ytnojhgckinibgab
open Go.RowKit
set_option linter.unusedVariables false
set_option linter.unusedSimpArgs false
end Go.Proofs.Ytnojhgckinibgab
