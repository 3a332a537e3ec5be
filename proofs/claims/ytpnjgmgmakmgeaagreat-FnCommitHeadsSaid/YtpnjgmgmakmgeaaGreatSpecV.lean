/- Texts of ours that stand together: SpecVer, SpecVer2, RegionTurn, SpecVer4, SpecVer5 -/
import Derived.Test.YtpnjgmgmakmgeaaGreatVerA
import Derived.Test.YtpnjgmgmakmgeaaGreatSpecS
import Derived.Test.YtpnjgmgmakmgeaaGreatConvVx
import Derived.Test.YtpnjgmgmakmgeaaGreatSpecAct
import Derived.Deep.Cut
import Derived.BigQuiet
import Derived.Test.YtpnjgmgmakmgeaaGreatRegJ
import Derived.Test.YtpnjgmgmakmgeaaGreatCore
import Derived.Test.YtpnjgmgmakmgeaaGreatSpecF
import Derived.Test.YtpnjgmgmakmgeaaGreatEffA
import Derived.Test.YtpnjgmgmakmgeaaGreatLay
import Derived.RegionTactic
import Derived.Deep.RegionLaw
/- The contracts of the model's versions: VersionsValid,l9Read,ReadVersion,l9Drop,DropVersions (its drawn region: gen9/specver.py). -/
namespace Go.Proofs.YtpnjgmgmakmgeaaGreat
open Go.RowKit
set_option linter.unusedVariables false
set_option linter.unusedSimpArgs false
def Facts2 (w0:World) (R:List (Nat × Nat × Sta)) (m d:Nat) (anc:List Nat) (S:Sta) (l:Nat→Bool) (f:Nat→Value) (w:World):Prop :=
 Below w0.heap.size w0 w∧(l m=false→Facts w0 R l f w)∧(l m=true→S.own w (f d)∧∀ j∈anc,l j=true)
theorem Facts2.nothing (w0:World) (R:List (Nat × Nat × Sta)) (m d:Nat) (anc:List Nat) (S:Sta) (f:Nat→Value):Facts2 w0 R m d anc S (fun _=>false) f w0.drew :=
 ⟨(Below.refl _ _).drew,fun _=>Facts.nothing _ _ _,fun h=>by cases h⟩
theorem Facts2.now {w0 w:World} {R:List (Nat × Nat × Sta)} {m d:Nat} {anc:List Nat} {S:Sta} {l:Nat→Bool} {f:Nat→Value} (h:Facts2 w0 R m d anc S l f w) {i:Nat} (hi:i∈anc) (hli:l i=false):Facts w0 R l f w:=by
 refine h.2.1 ?_
 cases hm:l m with
 | false=>rfl
 | true=>rw [(h.2.2 hm).2 i hi] at hli;cases hli
theorem Facts2.step {w0 w w':World} {R:List (Nat × Nat × Sta)} {m d:Nat} {anc:List Nat} {S:Sta} {l:Nat→Bool} {f:Nat→Value} (h:Facts2 w0 R m d anc S l f w) (i e:Nat) (v:Value) (hb:Below w.heap.size w w')
  (hR:(i≠m∧e≠d)∧∀ t∈R,(t.1=i→t.2.1=e∧t.2.2.own w' v)∧(t.1≠i→t.2.1≠e)):Facts2 w0 R m d anc S (fun j=>j == i || l j) (fun s=>if some e=some s then v else f s) w':=by
 obtain ⟨⟨h1,h2⟩,h3⟩:=hR
 refine ⟨h.1.trans (hb.mono h.1.size),fun hm=>?_,fun hm=>?_⟩
 · have:l m=false:=by
    cases hl:l m with
    | false=>rfl
    | true=>simp [hl] at hm
   exact (h.2.1 this).step i e v hb h3
 · have hl:l m=true:=by
    have e1:(m == i)=false:=by simp;exact fun e2=>h1 e2.symm
    simpa [e1] using hm
   obtain ⟨g1,g2⟩:=h.2.2 hl
   have hne:¬ (some e=some d):=by simp;exact h2
   simp only [if_neg hne]
   exact ⟨S.keep g1 hb,fun j hj=>by simp [g2 j hj]⟩
theorem Facts2.turn {w0 w':World} {R:List (Nat × Nat × Sta)} {m d:Nat} {anc:List Nat} {S:Sta} {l:Nat→Bool} {f:Nat→Value} (v:Value) (ha:∀ j∈anc,l j=true) (hb:Below w0.heap.size w0 w') (hs:S.own w' v) :
  Facts2 w0 R m d anc S (fun j=>j == m || l j) (fun s=>if some d=some s then v else f s) w' :=
 ⟨hb,fun hm=>by simp at hm,fun _=>⟨by simpa using hs,fun j hj=>by simp [ha j hj]⟩⟩
def Sta.owned (B:Nat) (e:TypeId) (size n:Nat) (xs:List Value):Sta :=
 ⟨fun w x=>Own w B e size x n xs,fun h hb=>h.below hb⟩
def Sta.one (news:List Value):Sta :=
 ⟨fun w x=>∃ g,x = .slice (some ⟨g,0,none⟩) 1 1∧∀ j u,news[j]? = some u→w.cell? ⟨g,j,none⟩=some u,fun ⟨g,e,h⟩ hb=>⟨g,e,fun j u hu=>by
  have h1:=h j u hu
  exact (hb.cell (p:=⟨g,j,none⟩) (World.block_lt_of_cell? _ ⟨g,j,none⟩ h1)).trans h1⟩⟩
theorem Own.take {w:World} {B:Nat} {e:TypeId} {size n g cap:Nat} {xs:List Value} (h:Own w B e size (.slice (some ⟨g,0,none⟩) n cap) n xs) {m:Nat} (hm:m≤n):Own w B e size (.slice (some ⟨g,0,none⟩) m cap) m (xs.take (m*size)):=by
 obtain ⟨⟨h1,h2⟩,h3⟩:=h
 have hmn:m*size≤n*size:=Nat.mul_le_mul_right _ hm
 refine ⟨⟨by rw [List.length_take,h1];exact Nat.min_eq_left hmn,.inr ?_⟩,by simp⟩
 rcases h2 with ⟨h2,-⟩ | ⟨g',cap',cur,h2,hB,hg,hc,hcm,hs,ht⟩
 · simp at h2
 · simp only [Value.slice.injEq,Option.some.injEq,Addr.mk.injEq,and_true] at h2
   obtain ⟨rfl,-,rfl⟩:=h2
   refine ⟨g,cap,cur,rfl,hB,hg,by omega,hcm,hs,?_⟩
   rw [← ht,List.take_take,Nat.min_eq_left hmn]
def InsTo (X:List Ver) (v:Ver) (j:Nat):Prop:=∀ i,i < j→vLt (X.getD i noV) v
theorem InsTo.zero (X:List Ver) (v:Ver):InsTo X v 0:=fun i hi=>absurd hi (Nat.not_lt_zero i)
theorem InsTo.next {X:List Ver} {v:Ver} {j:Nat} (h:InsTo X v j) (hj:vLt (X.getD j noV) v):InsTo X v (j+1):=by
 intro i hi
 by_cases e:i=j
 · rw [e];exact hj
 · exact h i (by omega)
theorem InsTo.done {X:List Ver} {v:Ver} {j:Nat} (h:InsTo X v j) (hj:j≤X.length) (hn:j < X.length→¬ vLt (X.getD j noV) v):insV v X=X.take j++v :: X.drop j:=insV_at v X j hj h hn
end Go.Proofs.YtpnjgmgmakmgeaaGreat
