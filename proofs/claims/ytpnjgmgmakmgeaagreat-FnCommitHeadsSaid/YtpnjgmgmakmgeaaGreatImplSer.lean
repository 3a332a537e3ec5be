/- The contracts of the program's serial runs: slices.Clone at entries,RunSerial. -/
import Derived.Test.YtpnjgmgmakmgeaaGreatSpecXb
import Derived.Test.YtpnjgmgmakmgeaaGreatSix

import Derived.Test.YtpnjgmgmakmgeaaGreatFive
import Derived.Lib.BufferMore
namespace Go.Proofs.YtpnjgmgmakmgeaaGreat
open Go.RowKit
set_option linter.unusedVariables false
theorem serL_get (L:List Acn):∀ (S:List Ent) (k:Nat),k < L.length→(serL S L).2.getD k noEff=runM (serL S (L.take k)).1 (L.getD k noA):=by
 induction L with
 | nil=>intro S k h;simp at h
 | cons a r ih =>
  intro S k h
  cases k with
  | zero=>rfl
  | succ k =>
   have:=ih (applyM S (runM S a).wrs) k (by simpa using h)
   simpa [serL] using this
def FillSF (w:World) (B g m:Nat) (eX eE:TypeId) (v:Value) (T:List Ent) (E:List Eff) (k:Nat):Prop :=
 w.ownsRow B eE 2 v T.length (flatE T)∧WfE T∧∃ xs,Own2 w B w.heap.size eX 3 (.slice (some ⟨g,0,none⟩) m m) m ((fillO E k).flatMap (oeC eE)) xs∧∀ x∈(.slice (some ⟨g,0,none⟩) m m :: xs),∀ p,v.ownBlock=some p→blk x≠some p
theorem FillSF.round {w w':World} {B g m k:Nat} {eX eE:TypeId} {v:Value} {T:List Ent} {E:List Eff} (h:FillF w B g m eX eE E k) (ho:w'.ownsRow w.heap.size eE 2 v T.length (flatE T)) (hw:WfE T) (hb:Below w.heap.size w w') (hB:B≤w.heap.size):FillSF w' B g m eX eE v T E k:=by
 obtain ⟨xs,h1⟩:=h
 refine ⟨owns_mono ho hB,hw,xs,(h1.below hb).mono (Nat.le_refl _) hb.size,fun x hx p hp hq=>?_⟩
 have h2:=(h1.blk_lt x hx p hq).2.1
 have h3:=(ho.lt p hp).1
 omega
theorem FillSF.all {w:World} {B g m:Nat} {eX eE:TypeId} {v:Value} {T:List Ent} {E:List Eff} (h:FillSF w B g m eX eE v T E m) (hm:E.length=m) (hl:m≤4000000):OwnSF w B w.heap.size eX eE v (.slice (some ⟨g,0,none⟩) m m) T E:=by
 subst hm
 obtain ⟨h1,h2,xs,h3,h4⟩:=h
 rw [fillO_all,oeC_all] at h3
 exact ⟨h1,h2,fun p hp=>(h1.lt p hp).2,hl,xs,h3,h4⟩
theorem FillSF.row {w:World} {B g m k:Nat} {eX eE:TypeId} {v:Value} {T:List Ent} {E:List Eff} (h:FillSF w B g m eX eE v T E k) (hl:T.length≤4000000):∃ a c,v = .slice a T.length c∧RowE w a T.length T∧(∀ b o,a=some ⟨b,o,none⟩→b≠g):=by
 obtain ⟨h1,h2,xs,h3,h4⟩:=h
 obtain ⟨a,c,e,r,z⟩:=rowE_of_owns h1 hl h2
 subst e
 refine ⟨a,c,rfl,r,fun b o he hg=>?_⟩
 subst he
 exact h4 _ List.mem_cons_self b rfl (by rw [← hg];rfl)
def Copy (w:World) (l:List Ent) (e:Ending) (w':World):Prop:=∃ v,e = .returned v∧w'.ownsRow w.heap.size 142 2 v l.length (flatE l)∧Below w.heap.size w w'
set_option maxRecDepth 100000 in
set_option maxHeartbeats 1000000 in
theorem clone_any (a:Option Addr) (n cap:Nat) (S:List Ent) (w:World) (h:RowE w a n S) (hz:a=none→cap=0) (hn:n≤3000000) :
  Calls Tryz.prog 164 #[.slice a n cap] w (Copy w S):=by
 have hl:=h.1
 cases a with
 | none =>
  have h0:n=0:=by
   rcases Nat.eq_zero_or_pos n with e | e
   · exact e
   · obtain ⟨b,o,he,-⟩:=h.2.2.1 e;cases he
  obtain rfl:cap=0:=hz rfl
  subst h0
  obtain rfl:S=[]:=List.eq_nil_of_length_eq_zero hl
  clear h hz hl
  have hnil:∀ W,(binOp .eql 23 (.slice none 0 0) (.slice none 0 0)).run Tryz.prog W = .ok (.bool true) W:=fun W=>Lib.run_eql_slice_nil_nil W 0 0 Tryz.underlying23
  go_enter Tryz.func164,Tryz.ntmps164
  go_wp2
  go_ret
  exact ⟨_,rfl,World.ownsRow_nil _ _ _ _,Below.refl _ _⟩
 | some p =>
  have ho:=own_lit (w:=w) (B:=w.heap.size) 142 2 #[] 0 (Nat.le_refl _) (by unfold maxLen;omega) rfl
  have hb3:=(Below.refl w.heap.size w).alloc (Nat.le_refl _) (.cells #[] 142)
  have HR3:=Lib.hid (h.below hb3)
  have HNL:Hid ((some p:Option Addr)=none→n=0∧cap=0):=Lib.hid (fun e=>by cases e)
  have HLN:=Lib.hid (show (flatE S).length=n*2 by rw [flatE_len,hl])
  have HL:=Lib.hid hl
  clear h hz hl
  have hnil:∀ W,(binOp .eql 23 (.slice (some p) n cap) (.slice none 0 0)).run Tryz.prog W = .ok (.bool false) W:=fun W=>Lib.run_eql_slice_some_nil W p n cap Tryz.underlying23
  go_enter Tryz.func164,Tryz.ntmps164
  go_wp2_with (first | (at_builtin;refine wpList_append_rows rfl _ _ 23 rfl w.heap.size 142 (.agg #[.int .i64 0,.int .i64 0]) 2 16 Tryz.underlying23 infoEntF rfl (by decide) _ 0 [] (flatE S) (by rfl) ho (some p) n cap (by rfl) HNL.out HLN.out HR3.out.news (flatE_oneCell S) (by omega) (by decide) (by simp) ?_;intro v5 w5 ho5 hg5;have hb5:=hb3.grown hg5 (by simp) (fun q hq=>(ho.1.lt q hq).1)))
  rw [Nat.zero_add,List.nil_append] at ho5
  have HO:=Lib.hid ho5.1
  have HB:=Lib.hid hb5
  clear ho ho5 hg5 hb5 hb3
  go_ret
  exact ⟨_,rfl,by rw [HL.out];exact HO.out,HB.out⟩
end Go.Proofs.YtpnjgmgmakmgeaaGreat
