/- Texts of ours that stand together: TreeLeaf, TreeProof, TreeProofS, TreeLevels, TreeRoot -/
import Derived.Test.YtolhdacbahgfgabCore
import Derived.Test.YtolhdacbahgfgabTwo
import Derived.Test.YtolhdacbahgfgabOne
import Derived.Deep.RegionWith
import Derived.Test.YtolhdacbahgfgabConv
import Derived.RegionTactic
/- The contracts of LeafSum and of the sum of two,the program's and the model's. -/
namespace Go.Proofs.Ytolhdacbahgfgab
open Go.RowKit
theorem rowI_lit2 (w:World) (T:TypeId) (a b:Int) (ha : -9223372036854775808≤a∧a≤9223372036854775807) (hb : -9223372036854775808≤b∧b≤9223372036854775807) :
  RowI (w.alloc (.cells #[.int .i64 a,.int .i64 b] T)) (some ⟨w.heap.size,0,none⟩) 2 [a,b]:=by
 refine ⟨rfl,by unfold maxLen;omega,fun _=>⟨w.heap.size,0,rfl,fun i hi=>?_⟩,?_⟩
 · rcases (by omega:i=0∨i=1) with rfl | rfl <;> simp [go_sem]
 · intro n hn
   simp only [List.mem_cons,List.not_mem_nil,or_false] at hn
   rcases hn with rfl | rfl
   · exact WalkArith.wf_i64 ha
   · exact WalkArith.wf_i64 hb
theorem all_two {a b:Int} (h0:0≤a) (h1:a≤2000000) (h2:0≤b) (h3:b≤2000000) : [a,b].all okSummed=true:=by
 simp only [List.all_cons,List.all_nil,okSummed,Bool.and_true,Bool.and_eq_true,decide_eq_true_eq];omega
theorem leafSum_spec (k v:Int) (w:World) :
  Calls Try.prog 66 #[.int .i64 k,.int .i64 v] w (IntB (leafM k v) w):=by
 cases e1:inB k 0 31 with
 | false =>
  have HF:=Lib.hid (leafM_no (k:=k) (v:=v) (by have:=inB_false e1;omega))
  go_enter Try.func66,Try.ntmps66
  go_wp2_with (first | (go_at_call 18;refine (l1In_spec _ _ _ _).mono ?_;rintro e w' ⟨rfl,rfl⟩))
  go_ret
  exact ⟨ret_int HF.out.symm,Below.refl _ _⟩
 | true =>
  cases e2:inB v 0 1000000 with
  | false =>
   have HF:=Lib.hid (leafM_no (k:=k) (v:=v) (by have:=inB_false e2;omega))
   go_enter Try.func66,Try.ntmps66
   go_wp2_with (first | (go_at_call 18;refine (l1In_spec _ _ _ _).mono ?_;rintro e w' ⟨rfl,rfl⟩))
   go_ret
   exact ⟨ret_int HF.out.symm,Below.refl _ _⟩
  | true =>
   have h1:=inB_true e1
   have h2:=inB_true e2
   have HF:=Lib.hid (leafM_in h1.1 h1.2 h2.1 h2.2)
   have HA:=Lib.hid (all_two h1.1 (by omega) h2.1 (by omega))
   go_enter Try.func66,Try.ntmps66
   go_wp2_with (first | (go_at_call 18;refine (l1In_spec _ _ _ _).mono ?_;rintro e w' ⟨rfl,rfl⟩) | (go_at_call 23;refine (l1Sum_any 1 _ 2 2 [k,v] _ (rowI_lit2 _ _ _ _ (by omega) (by omega)) (by omega) (by omega) HA.out).mono ?_;rintro e w' ⟨rfl,rfl⟩))
   go_ret
   exact ⟨ret_int (by rw [HF.out]),(Below.refl _ _).alloc (Nat.le_refl _) _⟩
theorem l3Node_spec (a b:Int) (w:World) (h0:0≤a) (h1:a≤1000002) (h2:0≤b) (h3:b≤1000002) :
  Calls Try.prog 67 #[.int .i64 a,.int .i64 b] w (IntB (pairM a b) w):=by
 have HA:=Lib.hid (all_two h0 (by omega) h2 (by omega))
 go_enter Try.func67,Try.ntmps67
 go_wp2_with (first | (go_at_call 23;refine (l1Sum_any 2 _ 2 2 [a,b] _ (rowI_lit2 _ _ _ _ (by omega) (by omega)) (by omega) (by omega) HA.out).mono ?_;rintro e w' ⟨rfl,rfl⟩))
 go_ret
 exact ⟨ret_int (by rfl),(Below.refl _ _).alloc (Nat.le_refl _) _⟩
end Go.Proofs.Ytolhdacbahgfgab
/- The contracts of the program's isProof,ProofRoot and ProofRight. -/
namespace Go.Proofs.Ytolhdacbahgfgab
open Go.RowKit
theorem isSum_impl (n:Int) (w:World) :
  Calls Try.prog 15 #[.int .i64 n] w fun e w'=>e = .returned (.bool (inB n 0 1000002))∧w=w':=by
 by_cases h1:0≤n
 · by_cases h2:n≤1000002
   · rw [inB_yes h1 h2]
     have h3:decide (n < 1000003)=true:=by simp;omega
     go_enter Try.func15,Try.ntmps15
     go_wp2
     go_ret
     exact ⟨rfl,rfl⟩
   · rw [inB_no (by omega)]
     have h3:decide (n < 1000003)=false:=by simp;omega
     go_enter Try.func15,Try.ntmps15
     go_wp2
     go_ret
     exact ⟨rfl,rfl⟩
 · rw [inB_no (by omega)]
   go_enter Try.func15,Try.ntmps15
   go_wp2
   go_ret
   exact ⟨rfl,rfl⟩
def SumTo (l:List Int) (k:Nat):Prop:=∀ j,j < k→inB (l.getD j 0) 0 1000002=true
theorem SumTo.next {l:List Int} {k:Nat} (h:SumTo l k) (hk:inB (l.getD k 0) 0 1000002=true):SumTo l (k+1):=by
 intro j hj
 by_cases e:j=k
 · rw [e];exact hk
 · exact h j (by omega)
end Go.Proofs.Ytolhdacbahgfgab
/- The contracts of the model's ProofRoot and ProofRight. -/
namespace Go.Proofs.Ytolhdacbahgfgab
open Go.RowKit
end Go.Proofs.Ytolhdacbahgfgab
/- The contract of the program's levelsOf. -/
namespace Go.Proofs.Ytolhdacbahgfgab
open Go.RowKit
def LvTo (l:List Ent) (A:List Int) (k:Nat):Prop:=∀ q,q < k→∀ j,j < 32 / 2 ^ q→A.getD (q*32+j) 0=nodeM l q j
def LvAt (l:List Ent) (A:List Int) (k m:Nat):Prop:=LvTo l A k∧∀ j,j < m→A.getD (k*32+j) 0=nodeM l k j
theorem LvAt.next {l:List Ent} {A:List Int} {k m:Nat} (h:LvAt l A k m) (hm:m < 32) (hl:A.length=192) (hk:k < 6):LvAt l (A.set (k*32+m) (nodeM l k m)) k (m+1):=by
 refine ⟨fun q hq j hj=>?_,fun j hj=>?_⟩
 · have hj':j < 32:=Nat.lt_of_lt_of_le hj (Nat.div_le_self _ _)
   rw [getD_set A _ _ _ (by omega),if_neg (by omega)]
   exact h.1 q hq j hj
 · rw [getD_set A _ _ _ (by omega)]
   by_cases e:j=m
   · rw [e,if_pos rfl]
   · rw [if_neg (by omega)];exact h.2 j (by omega)
theorem LvAt.level {l:List Ent} {A:List Int} {k:Nat} (h:LvAt l A k (32 / 2 ^ k)):LvAt l A (k+1) 0:=by
 refine ⟨fun q hq j hj=>?_,fun j hj=>absurd hj (Nat.not_lt_zero j)⟩
 by_cases e:q=k
 · subst e;exact h.2 j hj
 · exact h.1 q (by omega) j hj
theorem halves (k:Nat) (hk:k < 5):32 / 2 ^ k=2*(32 / 2 ^ (k+1))∧32 / 2 ^ (k+1)≤16:=by
 rcases (by omega:k=0∨k=1∨k=2∨k=3∨k=4) with rfl | rfl | rfl | rfl | rfl <;> decide
theorem nodeM_next (l:List Ent) (k j:Nat):nodeM l (k+1) j=pairM (nodeM l k (2*j)) (nodeM l k (2*j+1)):=rfl
end Go.Proofs.Ytolhdacbahgfgab
/- The contracts of the program's RootOf and ProofOf. -/
namespace Go.Proofs.Ytolhdacbahgfgab
open Go.RowKit
end Go.Proofs.Ytolhdacbahgfgab
