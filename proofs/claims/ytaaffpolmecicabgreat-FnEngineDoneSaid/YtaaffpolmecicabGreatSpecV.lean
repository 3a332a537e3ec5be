/- Texts of ours that stand together: SpecVer, SpecVer2, RegionTurn, SpecVer4, SpecVer5 -/
import Derived.Test.YtaaffpolmecicabGreatVerA
import Derived.Test.YtaaffpolmecicabGreatSpecS
import Derived.Test.YtaaffpolmecicabGreatConvVx
import Derived.Test.YtaaffpolmecicabGreatSpecAct
import Derived.Deep.Cut
import Derived.BigQuiet
import Derived.Test.YtaaffpolmecicabGreatRegJ
import Derived.Test.YtaaffpolmecicabGreatCore
import Derived.Test.YtaaffpolmecicabGreatSpecF
import Derived.Test.YtaaffpolmecicabGreatEffA
import Derived.Test.YtaaffpolmecicabGreatLay
import Derived.RegionTactic
import Derived.Deep.RegionLaw
/- The contracts of the model's versions: VersionsValid,l9Read,ReadVersion,l9Drop,DropVersions (its drawn region: gen9/specver.py). -/
namespace Go.Proofs.YtaaffpolmecicabGreat
open Go.RowKit
set_option linter.unusedVariables false
set_option linter.unusedSimpArgs false
end Go.Proofs.YtaaffpolmecicabGreat
/- The contracts of the model's l9Read,ReadVersion,l9Drop,DropVersions. -/
namespace Go.Proofs.YtaaffpolmecicabGreat
open Go.RowKit
set_option linter.unusedVariables false
set_option linter.unusedSimpArgs false
def IntsB2 (p:Int × Int) (w:World) (e:Ending) (w':World):Prop:=e = .returned (.tuple #[.int .i64 p.1,.int .i64 p.2])∧Below w.heap.size w w'
def IntsS2 (p:Int × Int) (w:World) (e:Ending) (w':World):Prop:=e = .returned (.tuple #[.int .i64 p.1,.int .i64 p.2])∧w=w'
set_option maxHeartbeats 1000000 in
theorem l9Read_spec (a:Option Addr) (n cap:Nat) (S:List Ent) (a2:Option Addr) (m cap2:Nat) (L:List Ver) (key by_:Int) (w:World) (h:RowE w a n S) (h2:RowV w a2 m L) :
  Calls Tryz.prog 149 #[.slice a n cap,.slice a2 m cap2,.int .i64 key,.int .i64 by_] w (IntsS2 (readL S L key by_) w):=by
 obtain ⟨hl,hm,hc,-⟩:=h2
 unfold maxLen at hm
 have HL:=Lib.hid hl;clear hl
 obtain ⟨A0,hA0⟩:∃ A0,A0=atM S key:=⟨_,rfl⟩
 have HR:Hid (readL S L key by_=rdN L key by_ (A0,-1) m):=Lib.hid (by rw [hA0,← HL.out];rfl)
 have HA:=Lib.hid hA0.symm
 clear hA0
 go_enter Tryz.func149,Tryz.ntmps149
 go_wp2_with fail
 refine (l2At_spec a n cap S key _ h).mono ?_;rintro e w1 ⟨rfl,rfl⟩
 rw [HA.out]
 clear h
 go_wp2_with fail
 go_loopw [10,11,12] (fun x y i wr=>∃ k:Nat,k≤m∧i = .int .i64 k∧x = .int .i64 (rdN L key by_ (A0,-1) k).1∧y = .int .i64 (rdN L key by_ (A0,-1) k).2∧wr=w) (fun _ _ i _=>m - (intOf i).toNat)
 case atStart=>exact ⟨0,Nat.zero_le _,rfl,rfl,rfl,rfl⟩
 case round =>
  obtain ⟨k,hk,rfl,rfl,rfl,rfl⟩:=hrel
  by_cases hlt:k < m
  · obtain ⟨b,o,rfl,hcc⟩:=hc (by omega)
    obtain ⟨c0,c1,c2⟩:=hcc k hlt
    have HN:Hid (rdN L key by_ (A0,-1) (k+1)=if canR key by_ (L.getD k noV) then ((L.getD k noV).val,(L.getD k noV).by_) else rdN L key by_ (A0,-1) k):=Lib.hid rfl
    clear hc hcc
    obtain ⟨x,hx⟩:∃ x,x=L.getD k noV:=⟨_,rfl⟩
    rw [← hx] at c0 c1 c2 HN
    clear hx
    obtain ⟨p,q,r⟩:=x
    simp only at c0 c1 c2 HN
    obtain ⟨z,hz⟩:∃ z,z=rdN L key by_ (A0,-1) k:=⟨_,rfl⟩
    rw [← hz] at HN ⊢
    clear hz
    obtain ⟨z1,z2⟩:=z
    cases e1:(p == key) with
    | false =>
     have HF:Hid (rdN L key by_ (A0,-1) (k+1)=(z1,z2)):=Lib.hid (by rw [HN.out,if_neg];rw [canR_iff];simp at e1;exact fun h=>e1 h.1)
     clear HN
     go_wp2
     go_roundw
     case rel=>exact ⟨k+1,by omega,by go_num,by rw [HF.out],by rw [HF.out],by first | rfl | trivial⟩
     case measure=>simp [intOf];omega
    | true =>
     cases e2:decide (q < by_) with
     | false =>
      have HF:Hid (rdN L key by_ (A0,-1) (k+1)=(z1,z2)):=Lib.hid (by rw [HN.out,if_neg];rw [canR_iff];simp at e2;exact fun h=>by have h2:=h.2;simp only at h2;omega)
      clear HN
      go_wp2
      go_roundw
      case rel=>exact ⟨k+1,by omega,by go_num,by rw [HF.out],by rw [HF.out],by first | rfl | trivial⟩
      case measure=>simp [intOf];omega
     | true =>
      have HF:Hid (rdN L key by_ (A0,-1) (k+1)=(r,q)):=Lib.hid (by rw [HN.out,if_pos];rw [canR_iff];simp at e1 e2;exact ⟨e1,e2⟩)
      clear HN
      go_wp2
      go_roundw
      case rel=>exact ⟨k+1,by omega,by go_num,by rw [HF.out],by rw [HF.out],by first | rfl | trivial⟩
      case measure=>simp [intOf];omega
  · obtain rfl:k=m:=by omega
    clear hc
    go_wp2
    go_ret2
    exact ⟨by rw [HR.out];rfl,rfl⟩
set_option maxHeartbeats 2000000 in
theorem l9Drop_spec (a:Option Addr) (n cap:Nat) (L:List Ver) (by_:Int) (w:World) (h:RowV w a n L) (hn:n≤2000000) :
  Calls Tryz.prog 166 #[.slice a n cap,.int .i64 by_] w (NewV w 73 (dropL L by_)):=by
 have HWF:=Lib.hid h.2.2.2
 have hb0:Below w.heap.size w (w.alloc (.cells #[] 73)):=(Below.refl _ w).alloc (Nat.le_refl _) _
 have HO0:Hid (Own (w.alloc (.cells #[] 73)) w.heap.size 73 3 (.slice (some ⟨w.heap.size,0,none⟩) 0 0) (dropL (L.take 0) by_).length (flatV (dropL (L.take 0) by_))):=Lib.hid (own_lit 73 3 #[] 0 (Nat.le_refl _) (by simp) rfl)
 obtain ⟨hl,hm,hc,-⟩:=h
 have HL:=Lib.hid hl;clear hl
 have HWD:Hid (WfVs (dropL L by_)):=Lib.hid (fun x hx=>HWF.out x (mem_dropL.1 hx).1)
 go_enter Tryz.func166,Tryz.ntmps166
 go_wp2
 go_loopw [5,6] (fun v i wr=>∃ k:Nat,k≤n∧i = .int .i64 k∧Own wr w.heap.size 73 3 v (dropL (L.take k) by_).length (flatV (dropL (L.take k) by_))∧Below w.heap.size w wr) (fun _ i _=>n - (intOf i).toNat)
 case atStart=>exact ⟨0,Nat.zero_le _,rfl,HO0.out,hb0⟩
 case round =>
  obtain ⟨k,hk,rfl,ho,hb⟩:=hrel
  clear HO0 hb0
  by_cases hlt:k < n
  · obtain ⟨b,o,rfl,hcc⟩:=hc (by omega)
    have hbB:b < w.heap.size:=World.block_lt_of_cell? w ⟨b,o+k*3,none⟩ (hcc k hlt).1
    obtain ⟨c0,c1,c2⟩:=hcc k hlt
    have d0:=(hb.cell (p:=⟨b,o+k*3,none⟩) hbB).trans c0
    have d1:=(hb.cell (p:=⟨b,o+k*3+1,none⟩) hbB).trans c1
    have d2:=(hb.cell (p:=⟨b,o+k*3+2,none⟩) hbB).trans c2
    have HN:=Lib.hid (dropL_next L by_ k (by rw [HL.out];exact hlt))
    have hdl:(dropL (L.take k) by_).length≤2000000:=by
     refine Nat.le_trans (List.length_filter_le _ _) ?_
     rw [List.length_take];omega
    clear hc hcc c0 c1 c2
    obtain ⟨D,hD⟩:∃ D,D=dropL (L.take k) by_:=⟨_,rfl⟩
    obtain ⟨x,hx⟩:∃ x,x=L.getD k noV:=⟨_,rfl⟩
    rw [← hD] at ho hdl
    rw [← hx] at d0 d1 d2
    rw [← hx,← hD] at HN
    clear hx hD
    obtain ⟨p,q,r⟩:=x
    simp only at d0 d1 d2 HN
    cases e1:(q == by_) with
    | true =>
     have e2:(q != by_)=false:=by simp [bne,e1]
     have HF:Hid (dropL (L.take (k+1)) by_=D):=Lib.hid (by rw [HN.out,if_neg];simpa using e1)
     have HO:=Lib.hid ho
     clear HN ho
     go_wp2
     go_roundw
     case rel=>exact ⟨k+1,by omega,by go_num,by rw [HF.out];exact HO.out,hb⟩
     case measure=>simp [intOf];omega
    | false =>
     have e2:(q != by_)=true:=by simp [bne,e1]
     have HF:Hid (dropL (L.take (k+1)) by_=D++[⟨p,q,r⟩]):=Lib.hid (by rw [HN.out,if_pos];simpa using e1)
     clear HN
     go_wp2_with (at_builtin;refine wpList_append_one rfl _ _ 35 rfl w.heap.size 73 _ (.agg #[.int .i64 0,.int .i64 0,.int .i64 0]) 3 24 Tryz.underlying35 infoVer rfl (by decide) _ _ _ [.int .i64 p,.int .i64 q,.int .i64 r] (by rfl) ho (by rfl) rfl ?c1 ?c2 (by decide) ?c3 ?_)
     case c1=>exact celV_one ⟨p,q,r⟩
     case c2=>omega
     case c3=>exact hb.size
     intro v3 w3 ho3 hg3
     have hb3:Below w.heap.size w w3:=(hb.alloc hb.size _).grown hg3 (by have:=hb.size;simp;omega) (fun k hk=>(ho.1.lt k hk).1)
     have HO:Hid (Own w3 w.heap.size 73 3 v3 (D++[(⟨p,q,r⟩:Ver)]).length (flatV (D++[⟨p,q,r⟩]))):=Lib.hid (by rw [List.length_append,flatV_append];exact ho3)
     clear ho ho3 hg3 hb d0 d1 d2
     go_wp2
     go_roundw
     case rel=>exact ⟨k+1,by omega,by go_num,by rw [HF.out];exact HO.out,hb3⟩
     case measure=>simp [intOf];omega
  · obtain rfl:k=n:=by omega
    have e:L.take k=L:=List.take_of_length_le (by rw [HL.out];omega)
    rw [e] at ho
    have HO:=Lib.hid ho
    clear hc ho e
    go_wp2
    go_ret
    exact ⟨_,rfl,HO.out,HWD.out,hb⟩
end Go.Proofs.YtaaffpolmecicabGreat
/- A region that draws its order,with ONE operation that writes in place what the region itself made ('append(append([]T{},xs...),x)' beside loads and calls): a word for wp_region_light (gen9/lightt.py). No function of the program is named here. -/
namespace Go.Proofs.YtaaffpolmecicabGreat
open Go.RowKit
set_option linter.unusedVariables false
def Facts2 (w0:World) (R:List (Nat × Nat × Sta)) (m d:Nat) (anc:List Nat) (S:Sta) (l:Nat→Bool) (f:Nat→Value) (w:World):Prop :=
 Below w0.heap.size w0 w∧(l m=false→Facts w0 R l f w)∧(l m=true→S.own w (f d)∧∀ j∈anc,l j=true)
theorem Facts2.nothing (w0:World) (R:List (Nat × Nat × Sta)) (m d:Nat) (anc:List Nat) (S:Sta) (f:Nat→Value):Facts2 w0 R m d anc S (fun _=>false) f w0.drew :=
 ⟨(Below.refl _ _).drew,fun _=>Facts.nothing _ _ _,fun h=>by cases h⟩
theorem Facts2.now {w0 w:World} {R:List (Nat × Nat × Sta)} {m d:Nat} {anc:List Nat} {S:Sta} {l:Nat→Bool} {f:Nat→Value} (h:Facts2 w0 R m d anc S l f w) {i:Nat} (hi:i∈anc) (hli:l i=false):Facts w0 R l f w:=by
 refine h.2.1 ?_
 cases hm:l m with
 | false=>rfl
 | true=>rw [(h.2.2 hm).2 i hi] at hli;cases hli
theorem Facts2.step {w0 w w':World} {R:List (Nat × Nat × Sta)} {m d:Nat} {anc:List Nat} {S:Sta} {l:Nat→Bool} {f:Nat→Value} (h:Facts2 w0 R m d anc S l f w) (i e:Nat) (v:Value) (hb:Below w.heap.size w w')
  (hR:(i≠m∧e≠d)∧∀ t∈R,(t.1=i→t.2.1=e∧t.2.2.own w' v)∧(t.1≠i→t.2.1≠e)):Facts2 w0 R m d anc S (fun j=>j == i || l j) (fun s=>if some e=some s then v else f s) w':=by
 obtain ⟨⟨h1,h2⟩,h3⟩:=hR
 refine ⟨h.1.trans (hb.mono h.1.size),fun hm=>?_,fun hm=>?_⟩
 · have:l m=false:=by
    cases hl:l m with
    | false=>rfl
    | true=>simp [hl] at hm
   exact (h.2.1 this).step i e v hb h3
 · have hl:l m=true:=by
    have e1:(m == i)=false:=by simp;exact fun e2=>h1 e2.symm
    simpa [e1] using hm
   obtain ⟨g1,g2⟩:=h.2.2 hl
   have hne:¬ (some e=some d):=by simp;exact h2
   simp only [if_neg hne]
   exact ⟨S.keep g1 hb,fun j hj=>by simp [g2 j hj]⟩
theorem Facts2.turn {w0 w':World} {R:List (Nat × Nat × Sta)} {m d:Nat} {anc:List Nat} {S:Sta} {l:Nat→Bool} {f:Nat→Value} (v:Value) (ha:∀ j∈anc,l j=true) (hb:Below w0.heap.size w0 w') (hs:S.own w' v) :
  Facts2 w0 R m d anc S (fun j=>j == m || l j) (fun s=>if some d=some s then v else f s) w' :=
 ⟨hb,fun hm=>by simp at hm,fun _=>⟨by simpa using hs,fun j hj=>by simp [ha j hj]⟩⟩
def Sta.owned (B:Nat) (e:TypeId) (size n:Nat) (xs:List Value):Sta :=
 ⟨fun w x=>Own w B e size x n xs,fun h hb=>h.below hb⟩
def Sta.one (news:List Value):Sta :=
 ⟨fun w x=>∃ g,x = .slice (some ⟨g,0,none⟩) 1 1∧∀ j u,news[j]? = some u→w.cell? ⟨g,j,none⟩=some u,fun ⟨g,e,h⟩ hb=>⟨g,e,fun j u hu=>by
  have h1:=h j u hu
  exact (hb.cell (p:=⟨g,j,none⟩) (World.block_lt_of_cell? _ ⟨g,j,none⟩ h1)).trans h1⟩⟩
end Go.Proofs.YtaaffpolmecicabGreat
/- The contracts of the model's l9Put,PutVersions. -/
namespace Go.Proofs.YtaaffpolmecicabGreat
open Go.RowKit
set_option linter.unusedVariables false
set_option linter.unusedSimpArgs false
theorem Own.take {w:World} {B:Nat} {e:TypeId} {size n g cap:Nat} {xs:List Value} (h:Own w B e size (.slice (some ⟨g,0,none⟩) n cap) n xs) {m:Nat} (hm:m≤n):Own w B e size (.slice (some ⟨g,0,none⟩) m cap) m (xs.take (m*size)):=by
 obtain ⟨⟨h1,h2⟩,h3⟩:=h
 have hmn:m*size≤n*size:=Nat.mul_le_mul_right _ hm
 refine ⟨⟨by rw [List.length_take,h1];exact Nat.min_eq_left hmn,.inr ?_⟩,by simp⟩
 rcases h2 with ⟨h2,-⟩ | ⟨g',cap',cur,h2,hB,hg,hc,hcm,hs,ht⟩
 · simp at h2
 · simp only [Value.slice.injEq,Option.some.injEq,Addr.mk.injEq,and_true] at h2
   obtain ⟨rfl,-,rfl⟩:=h2
   refine ⟨g,cap,cur,rfl,hB,hg,by omega,hcm,hs,?_⟩
   rw [← ht,List.take_take,Nat.min_eq_left hmn]
theorem flatV_take (X:List Ver) (m:Nat) (h:m≤X.length):(flatV X).take (m*3)=flatV (X.take m):=by
 have e:flatV X=flatV (X.take m)++flatV (X.drop m):=by rw [← flatV_append,List.take_append_drop]
 have hl:(flatV (X.take m)).length=m*3:=by rw [flatV_len,List.length_take,Nat.min_eq_left h]
 rw [e,← hl];exact List.take_left
def InsTo (X:List Ver) (v:Ver) (j:Nat):Prop:=∀ i,i < j→vLt (X.getD i noV) v
theorem InsTo.zero (X:List Ver) (v:Ver):InsTo X v 0:=fun i hi=>absurd hi (Nat.not_lt_zero i)
theorem InsTo.next {X:List Ver} {v:Ver} {j:Nat} (h:InsTo X v j) (hj:vLt (X.getD j noV) v):InsTo X v (j+1):=by
 intro i hi
 by_cases e:i=j
 · rw [e];exact hj
 · exact h i (by omega)
theorem InsTo.done {X:List Ver} {v:Ver} {j:Nat} (h:InsTo X v j) (hj:j≤X.length) (hn:j < X.length→¬ vLt (X.getD j noV) v):insV v X=X.take j++v :: X.drop j:=insV_at v X j hj h hn
set_option maxHeartbeats 2000000 in
theorem l9Put_spec (a:Option Addr) (n cap:Nat) (L:List Ver) (by_:Int) (a2:Option Addr) (m cap2:Nat) (E:List Ent) (w:World) (h:RowV w a n L) (hn:n≤100000) (h2:RowE w a2 m E) (hm:m≤100000) (hby:(Lit.int .i64 by_).wf=true) :
  Calls Tryz.prog 117 #[.slice a n cap,.int .i64 by_,.slice a2 m cap2] w (NewV w 73 (putL L by_ E)):=by
 have HLn:=Lib.hid h.1
 have HEn:=Lib.hid h2.1
 have HWE:=Lib.hid h2.2.2.2
 go_enter Tryz.func117,Tryz.ntmps117
 go_wp2_with fail
 refine (l9Drop_spec a n cap L by_ _ h (by omega)).mono ?_;rintro e w1 ⟨v1,rfl,ho1,hw1,hb1⟩
 have hre:=h2.below hb1
 obtain ⟨-,-,hc,-⟩:=h2
 clear h hre
 go_wp2_with fail
 go_loopw [7,8] (fun v i wr=>∃ k:Nat,k≤m∧i = .int .i64 k∧Own wr w.heap.size 73 3 v (putN L by_ E k).length (flatV (putN L by_ E k))∧WfVs (putN L by_ E k)∧Below w.heap.size w wr) (fun _ i _=>m - (intOf i).toNat)
 case atStart=>exact ⟨0,Nat.zero_le _,rfl,ho1,hw1,hb1⟩
 case round =>
  clear ho1 hw1 hb1
  obtain ⟨k,hk,rfl,ho,hw,hb⟩:=hrel
  by_cases hlt:k < m
  · obtain ⟨b,o,rfl,hcc⟩:=hc (by omega)
    have hbB:b < w.heap.size:=World.block_lt_of_cell? w ⟨b,o+k*2,none⟩ (hcc k hlt).1
    obtain ⟨c0,c1⟩:=hcc k hlt
    have d0:=(hb.cell (p:=⟨b,o+k*2,none⟩) hbB).trans c0
    have d1:=(hb.cell (p:=⟨b,o+k*2+1,none⟩) hbB).trans c1
    have hpl:=putN_len L by_ E k
    rw [HLn.out] at hpl
    have HN:Hid (putN L by_ E (k+1)=insV ⟨(E.getD k (0,0)).1,by_,(E.getD k (0,0)).2⟩ (putN L by_ E k)):=Lib.hid rfl
    have hwk:=HWE.out (E.getD k (0,0)) (by rw [List.getD_eq_getElem?_getD,List.getElem?_eq_getElem (by rw [HEn.out];exact hlt)];exact List.getElem_mem _)
    clear hc hcc c0 c1
    obtain ⟨X,hX⟩:∃ X,X=putN L by_ E k:=⟨_,rfl⟩
    obtain ⟨x,hx⟩:∃ x,x=E.getD k (0,0):=⟨_,rfl⟩
    rw [← hX] at ho hpl hw HN
    rw [← hx] at d0 d1 HN hwk
    clear hX hx
    obtain ⟨p,q⟩:=x
    simp only at d0 d1 HN hwk
    obtain ⟨g,cp,rfl,hgB,hgs⟩:=ho.slice
    have HO:=Lib.hid ho
    have HB:=Lib.hid hb
    have q1:(0:Int)≤(k:Int):=by omega
    have q2:(k:Int) < (m:Int):=by omega
    have hbw:b < wr.heap.size:=Nat.lt_of_lt_of_le hbB hb.size
    have e0:∀ o',(wr.alloc o').cell? ⟨b,o+k*2,none⟩=some (.int .i64 p):=fun o'=>((Below.refl wr.heap.size wr).alloc (Nat.le_refl _) o').cell (p:=⟨b,o+k*2,none⟩) hbw |>.trans d0
    have e1:∀ o',(wr.alloc o').cell? ⟨b,o+k*2+1,none⟩=some (.int .i64 q):=fun o'=>((Below.refl wr.heap.size wr).alloc (Nat.le_refl _) o').cell (p:=⟨b,o+k*2+1,none⟩) hbw |>.trans d1
    clear ho hb
    go_wp2_with fail
    go_region
    obtain ⟨w5,hw5⟩:∃ w5,w5=(wr.alloc (.cells #[.int .i64 p,.int .i64 by_,.int .i64 q] 73)).drew:=⟨_,rfl⟩
    obtain ⟨G,hG⟩:∃ G,G=wr.heap.size:=⟨_,rfl⟩
    rw [← hw5,← hG]
    have g0:w5.cell? ⟨G,0,none⟩=some (.int .i64 p):=by rw [hw5,hG];simp [go_sem]
    have g1:w5.cell? ⟨G,1,none⟩=some (.int .i64 by_):=by rw [hw5,hG];simp [go_sem]
    have g2:w5.cell? ⟨G,2,none⟩=some (.int .i64 q):=by rw [hw5,hG];simp [go_sem]
    have hG5:G < w5.heap.size:=World.block_lt_of_cell? w5 ⟨G,0,none⟩ g0
    have hgG:g < G:=by rw [hG];exact hgs
    have hb5:Below wr.heap.size wr w5:=by rw [hw5];exact ((Below.refl _ _).alloc (Nat.le_refl _) _).drew
    have ho5:=HO.out.below hb5
    have HB5:=Lib.hid (HB.out.trans (hb5.mono HB.out.size))
    obtain ⟨g',cp',hge,-,-,hr5,hcpl⟩:=rowV_of_own ho5 (by omega) hw
    simp only [Value.slice.injEq,Option.some.injEq,Addr.mk.injEq,and_true,true_and] at hge
    obtain ⟨rfl,rfl⟩:=hge
    have HO5:=Lib.hid ho5
    have HR5:=Lib.hid hr5
    have HWX:=Lib.hid hw
    clear hw5 hG e0 e1 d0 d1 HO HB hb5 ho5 hw q1 q2 hr5
    go_wp2_with fail
    go_loopw [10] (fun i wi=>∃ j:Nat,j≤X.length∧i = .int .i64 j∧InsTo X ⟨p,by_,q⟩ j∧Below w5.heap.size w5 wi) (fun i _=>X.length - (intOf i).toNat)
    case atStart=>exact ⟨0,Nat.zero_le _,rfl,InsTo.zero _ _,Below.refl _ _⟩
    case round =>
     obtain ⟨j,hj,rfl,hto,hb6⟩:=hrel
     have f0:=(hb6.cell (p:=⟨G,0,none⟩) hG5).trans g0
     have f1:=(hb6.cell (p:=⟨G,1,none⟩) hG5).trans g1
     have f2:=(hb6.cell (p:=⟨G,2,none⟩) hG5).trans g2
     have HG:=Lib.hid (And.intro g0 (And.intro g1 g2))
     clear g0 g1 g2
     by_cases hlt6:j < X.length
     · have hd6:decide ((j:Int) < (X.length:Int))=true:=by simp;omega
       obtain ⟨y0,y1,y2⟩:=(HR5.out.below hb6).cells hlt6
       have HNX:=Lib.hid (fun h=>hto.next (j:=j) h)
       have HDN:=Lib.hid (fun h=>hto.done hj h)
       obtain ⟨y,hy⟩:∃ y,y=X.getD j noV:=⟨_,rfl⟩
       rw [← hy] at y0 y1 y2 HNX HDN
       clear hy hto
       obtain ⟨p',q',r'⟩:=y
       simp only [Nat.zero_add] at y0 y1 y2
       have q1:(0:Int)≤(j:Int):=by omega
       have q2:(j:Int) < (X.length:Int):=by omega
       cases ua:decide (p' < p) with
       | true =>
        have HT:=Lib.hid (HNX.out (by unfold vLt;simp at ua ⊢;omega))
        clear HNX HDN
        go_wp2
        go_quiet (fail)
        go_wp2
        go_roundw
        case rel=>exact ⟨j+1,by omega,by go_num,HT.out,below_drewN' hb6 _⟩
        case measure=>simp [intOf];omega
       | false =>
        cases ub:(p' == p) with
        | false =>
         have HI:=Lib.hid (HDN.out (by intro _;unfold vLt;simp at ua ub ⊢;omega))
         clear HNX HDN
         go_wp2
         go_quiet (fail)
         generalize hw7:World.drewN _ _=w7
         have hb7:Below w5.heap.size w5 w7:=by rw [← hw7];exact below_drewN' hb6 _
         have HB7:=Lib.hid (HB5.out.trans (hb7.mono HB5.out.size))
         have k0:=(hb7.cell (p:=⟨G,0,none⟩) hG5).trans HG.out.1
         have k1:=(hb7.cell (p:=⟨G,1,none⟩) hG5).trans HG.out.2.1
         have k2:=(hb7.cell (p:=⟨G,2,none⟩) hG5).trans HG.out.2.2
         have hG7:G < w7.heap.size:=World.block_lt_of_cell? w7 ⟨G,0,none⟩ k0
         have ho7:=HO5.out.below hb7
         have htl:∀ W,Below w7.heap.size w7 W→RowV W (some ⟨g,j*3,none⟩) (X.length - j) (X.drop j):=fun W hb=>by
          have:=((HR5.out.below hb7).below hb).drop j hj
          simpa only [Nat.zero_add,Nat.sub_self] using this
         have HTL:=Lib.hid htl
         have HO7:=Lib.hid ho7
         have r1:(0:Int)≤(j:Int):=by omega
         have r2:(j:Int)≤(X.length:Int):=by omega
         have r3:(X.length:Int)≤(cp:Int):=by omega
         have r4:(j:Int)≤(cp:Int):=by omega
         clear hw7 hb7 hb6 ho7 htl f0 f1 f2 hd6 hlt6
         go_wp2_with (first | (at_builtin;refine wpList_append_rows rfl _ _ 35 rfl w7.heap.size 73 (.agg #[.int .i64 0,.int .i64 0,.int .i64 0]) 3 24 Tryz.underlying35 infoVer rfl (by decide) _ 0 [] (flatV (X.drop j)) (by rfl) (own_lit 73 3 #[] 0 (Nat.le_refl _) (by simp) rfl) (some ⟨g,j*3,none⟩) (X.length - j) (cp - j) (by rfl) (fun h=>by cases h) (by rw [flatV_len,List.length_drop]) ((HTL.out _ ((Below.refl _ w7).alloc (Nat.le_refl _) _)).news) (flatV_one _) (by omega) (by decide) (by simp) ?_;intro v8 w8 ho8 hg8;have HO8:Hid (Own w8 w7.heap.size 73 3 v8 (X.length - j) (flatV (X.drop j))):=Lib.hid (by rw [Nat.zero_add,List.nil_append] at ho8;exact ho8);have HB8:Hid (Below w7.heap.size w7 w8):=Lib.hid (((Below.refl _ w7).alloc (Nat.le_refl _) _).grown hg8 (by simp) (fun k hk=>by simp [Value.ownBlock] at hk;omega));clear ho8 hg8) | (at_builtin;refine wpList_append_rows rfl _ _ 35 rfl w7.heap.size 73 (.agg #[.int .i64 0,.int .i64 0,.int .i64 0]) 3 24 Tryz.underlying35 infoVer rfl (by decide) _ 0 [] [] (by rfl) (own_lit 73 3 #[] 0 (Nat.le_refl _) (by simp) rfl) (some ⟨g,0,none⟩) (X.length - j) 0 (by rfl) (fun h=>by cases h) (by simp;omega) (fun _ _ _ u hu=>by simp at hu) (fun u hu=>by cases hu) (by omega) (by decide) (by simp) ?_;intro v8 w8 ho8 hg8;have HO8:Hid (Own w8 w7.heap.size 73 3 v8 (X.length - j) (flatV (X.drop j))):=Lib.hid (by rw [Nat.zero_add,List.nil_append] at ho8;rw [List.drop_eq_nil_of_le (by omega)];exact ho8);have HB8:Hid (Below w7.heap.size w7 w8):=Lib.hid (((Below.refl _ w7).alloc (Nat.le_refl _) _).grown hg8 (by simp) (fun k hk=>by simp [Value.ownBlock] at hk;omega));clear ho8 hg8))
         all_goals
          obtain ⟨gT,cT,rfl,hgTB,hgTs⟩:=HO8.out.slice
          have hs78:=HB8.out.size
          have HB9:Hid (Below w.heap.size w w8):=Lib.hid (HB7.out.trans (HB8.out.mono HB7.out.size))
          have m0:=(HB8.out.cell (p:=⟨G,0,none⟩) hG7).trans k0
          have m1:=(HB8.out.cell (p:=⟨G,1,none⟩) hG7).trans k1
          have m2:=(HB8.out.cell (p:=⟨G,2,none⟩) hG7).trans k2
          have hXd:WfVs (X.drop j):=fun x hx=>HWX.out x (List.mem_of_mem_drop hx)
          have HT8:Hid (RowV w8 (some ⟨gT,0,none⟩) (X.length - j) (X.drop j)):=Lib.hid (rowV_owned HO8.out.1 (by rw [List.length_drop]) (by omega) hXd)
          have HP8:=Lib.hid ((HO7.out.below HB8.out).take hj)
          rw [flatV_take X j hj] at HP8
          have hge7:gT≠g:=by omega
          clear hXd k0 k1 k2 hG7
          go_region_law (first | (refine step_app1 rfl (.tmp 75) (.tmp 77) 35 rfl w.heap.size 73 _ (.agg #[.int .i64 0,.int .i64 0,.int .i64 0]) 3 24 Tryz.underlying35 infoVer rfl (by decide) (.slice (some ⟨g,0,none⟩) j cp) j _ [.int .i64 p,.int .i64 by_,.int .i64 q] (by rfl) HP8.out.1 (by rfl) rfl (celV_one ⟨p,by_,q⟩) (by omega) (by decide) HB9.out.size ?_;intro v10 w10 ho10 hne10 hg10 hp10;have hb10:Below w.heap.size w w10:=((HB9.out.alloc HB9.out.size _).grown hg10 (by have:=HB9.out.size;simp;omega) (fun k hk=>by simp [Value.ownBlock] at hk;omega));have HN10:=Lib.hid ((((HT8.out.below ((Below.refl _ w8).alloc (Nat.le_refl _) _)).grown hg10 (by simp [Value.ownBlock];omega))).news);have hO10:Own w10 w.heap.size 73 3 v10 (j+1) (flatV (X.take j)++[.int .i64 p,.int .i64 by_,.int .i64 q]):=⟨ho10,hne10⟩;have hs10:=hb10.size;clear ho10 hg10 hp10 hne10) | (refine step_app1d rfl (.tmp 75) (.tmp 77) 35 rfl w.heap.size 73 _ (.agg #[.int .i64 0,.int .i64 0,.int .i64 0]) 3 24 Tryz.underlying35 infoVer rfl (by decide) (.slice (some ⟨g,0,none⟩) j cp) j _ [.int .i64 p,.int .i64 by_,.int .i64 q] (by rfl) HP8.out.1 (by rfl) rfl (celV_one ⟨p,by_,q⟩) (by omega) (by decide) HB9.out.size ?_;intro v10 w10 ho10 hne10 hg10 hp10;have hb10:Below w.heap.size w w10:=((HB9.out.alloc HB9.out.size _).grown hg10 (by have:=HB9.out.size;simp;omega) (fun k hk=>by simp [Value.ownBlock] at hk;omega));have HN10:=Lib.hid ((((HT8.out.below ((Below.refl _ w8).alloc (Nat.le_refl _) _)).grown hg10 (by simp [Value.ownBlock];omega))).news);have hO10:Own w10 w.heap.size 73 3 v10 (j+1) (flatV (X.take j)++[.int .i64 p,.int .i64 by_,.int .i64 q]):=⟨ho10,hne10⟩;have hs10:=hb10.size;clear ho10 hg10 hp10 hne10) | (refine step_append_rows rfl (.tmp 78) (.tmp 79) 35 rfl w.heap.size 73 (.agg #[.int .i64 0,.int .i64 0,.int .i64 0]) 3 24 Tryz.underlying35 infoVer rfl (by decide) _ (j+1) _ (flatV (X.drop j)) (by rfl) hO10 (some ⟨gT,0,none⟩) (X.length - j) cT (by rfl) (fun h=>by cases h) (by rw [flatV_len,List.length_drop]) HN10.out (flatV_one _) (by omega) (by decide) hs10 ?_;intro v11 w11 ho11 hg11;have hb11:Below w.heap.size w w11:=hb10.grown hg11 hs10 (fun k hk=>(hO10.1.lt k hk).1)))
          all_goals
           clear hb10 hO10 HN10 hs10
           have HL11:Hid (Own w11 w.heap.size 73 3 v11 (putN L by_ E (k+1)).length (flatV (putN L by_ E (k+1)))):=Lib.hid (by
            rw [HN.out,HI.out,List.append_cons,flatV_append,flatV_append]
            have e:(X.take j++[(⟨p,by_,q⟩:Ver)]++X.drop j).length=j+1+(X.length - j):=by simp [Nat.min_eq_left hj];omega
            rw [e];exact ho11)
           have HWN:Hid (WfVs (putN L by_ E (k+1))):=Lib.hid (by
            rw [HN.out]
            intro x hx
            rcases mem_insV.1 hx with rfl | hx
            · exact ⟨hwk.1,hby,hwk.2⟩
            · exact HWX.out x hx)
           clear ho11 hg11
           go_wp2
           go_roundw
           case rel=>exact ⟨k+1,by omega,by go_num,HL11.out,HWN.out,hb11⟩
           case measure=>simp [intOf];omega
        | true =>
         cases uc:decide (q' < by_) with
         | true =>
          have HT:=Lib.hid (HNX.out (by unfold vLt;simp at ub uc ⊢;omega))
          clear HNX HDN
          go_wp2
          go_quiet (fail)
          go_wp2
          go_roundw
          case rel=>exact ⟨j+1,by omega,by go_num,HT.out,below_drewN' hb6 _⟩
          case measure=>simp [intOf];omega
         | false =>
          have HI:=Lib.hid (HDN.out (by intro _;unfold vLt;simp at ua ub uc ⊢;omega))
          clear HNX HDN
          go_wp2
          go_quiet (fail)
          generalize hw7:World.drewN _ _=w7
          have hb7:Below w5.heap.size w5 w7:=by rw [← hw7];exact below_drewN' hb6 _
          have HB7:=Lib.hid (HB5.out.trans (hb7.mono HB5.out.size))
          have k0:=(hb7.cell (p:=⟨G,0,none⟩) hG5).trans HG.out.1
          have k1:=(hb7.cell (p:=⟨G,1,none⟩) hG5).trans HG.out.2.1
          have k2:=(hb7.cell (p:=⟨G,2,none⟩) hG5).trans HG.out.2.2
          have hG7:G < w7.heap.size:=World.block_lt_of_cell? w7 ⟨G,0,none⟩ k0
          have ho7:=HO5.out.below hb7
          have htl:∀ W,Below w7.heap.size w7 W→RowV W (some ⟨g,j*3,none⟩) (X.length - j) (X.drop j):=fun W hb=>by
           have:=((HR5.out.below hb7).below hb).drop j hj
           simpa only [Nat.zero_add,Nat.sub_self] using this
          have HTL:=Lib.hid htl
          have HO7:=Lib.hid ho7
          have r1:(0:Int)≤(j:Int):=by omega
          have r2:(j:Int)≤(X.length:Int):=by omega
          have r3:(X.length:Int)≤(cp:Int):=by omega
          have r4:(j:Int)≤(cp:Int):=by omega
          clear hw7 hb7 hb6 ho7 htl f0 f1 f2 hd6 hlt6
          go_wp2_with (first | (at_builtin;refine wpList_append_rows rfl _ _ 35 rfl w7.heap.size 73 (.agg #[.int .i64 0,.int .i64 0,.int .i64 0]) 3 24 Tryz.underlying35 infoVer rfl (by decide) _ 0 [] (flatV (X.drop j)) (by rfl) (own_lit 73 3 #[] 0 (Nat.le_refl _) (by simp) rfl) (some ⟨g,j*3,none⟩) (X.length - j) (cp - j) (by rfl) (fun h=>by cases h) (by rw [flatV_len,List.length_drop]) ((HTL.out _ ((Below.refl _ w7).alloc (Nat.le_refl _) _)).news) (flatV_one _) (by omega) (by decide) (by simp) ?_;intro v8 w8 ho8 hg8;have HO8:Hid (Own w8 w7.heap.size 73 3 v8 (X.length - j) (flatV (X.drop j))):=Lib.hid (by rw [Nat.zero_add,List.nil_append] at ho8;exact ho8);have HB8:Hid (Below w7.heap.size w7 w8):=Lib.hid (((Below.refl _ w7).alloc (Nat.le_refl _) _).grown hg8 (by simp) (fun k hk=>by simp [Value.ownBlock] at hk;omega));clear ho8 hg8) | (at_builtin;refine wpList_append_rows rfl _ _ 35 rfl w7.heap.size 73 (.agg #[.int .i64 0,.int .i64 0,.int .i64 0]) 3 24 Tryz.underlying35 infoVer rfl (by decide) _ 0 [] [] (by rfl) (own_lit 73 3 #[] 0 (Nat.le_refl _) (by simp) rfl) (some ⟨g,0,none⟩) (X.length - j) 0 (by rfl) (fun h=>by cases h) (by simp;omega) (fun _ _ _ u hu=>by simp at hu) (fun u hu=>by cases hu) (by omega) (by decide) (by simp) ?_;intro v8 w8 ho8 hg8;have HO8:Hid (Own w8 w7.heap.size 73 3 v8 (X.length - j) (flatV (X.drop j))):=Lib.hid (by rw [Nat.zero_add,List.nil_append] at ho8;rw [List.drop_eq_nil_of_le (by omega)];exact ho8);have HB8:Hid (Below w7.heap.size w7 w8):=Lib.hid (((Below.refl _ w7).alloc (Nat.le_refl _) _).grown hg8 (by simp) (fun k hk=>by simp [Value.ownBlock] at hk;omega));clear ho8 hg8))
          all_goals
           obtain ⟨gT,cT,rfl,hgTB,hgTs⟩:=HO8.out.slice
           have hs78:=HB8.out.size
           have HB9:Hid (Below w.heap.size w w8):=Lib.hid (HB7.out.trans (HB8.out.mono HB7.out.size))
           have m0:=(HB8.out.cell (p:=⟨G,0,none⟩) hG7).trans k0
           have m1:=(HB8.out.cell (p:=⟨G,1,none⟩) hG7).trans k1
           have m2:=(HB8.out.cell (p:=⟨G,2,none⟩) hG7).trans k2
           have hXd:WfVs (X.drop j):=fun x hx=>HWX.out x (List.mem_of_mem_drop hx)
           have HT8:Hid (RowV w8 (some ⟨gT,0,none⟩) (X.length - j) (X.drop j)):=Lib.hid (rowV_owned HO8.out.1 (by rw [List.length_drop]) (by omega) hXd)
           have HP8:=Lib.hid ((HO7.out.below HB8.out).take hj)
           rw [flatV_take X j hj] at HP8
           have hge7:gT≠g:=by omega
           clear hXd k0 k1 k2 hG7
           go_region_law (first | (refine step_app1 rfl (.tmp 75) (.tmp 77) 35 rfl w.heap.size 73 _ (.agg #[.int .i64 0,.int .i64 0,.int .i64 0]) 3 24 Tryz.underlying35 infoVer rfl (by decide) (.slice (some ⟨g,0,none⟩) j cp) j _ [.int .i64 p,.int .i64 by_,.int .i64 q] (by rfl) HP8.out.1 (by rfl) rfl (celV_one ⟨p,by_,q⟩) (by omega) (by decide) HB9.out.size ?_;intro v10 w10 ho10 hne10 hg10 hp10;have hb10:Below w.heap.size w w10:=((HB9.out.alloc HB9.out.size _).grown hg10 (by have:=HB9.out.size;simp;omega) (fun k hk=>by simp [Value.ownBlock] at hk;omega));have HN10:=Lib.hid ((((HT8.out.below ((Below.refl _ w8).alloc (Nat.le_refl _) _)).grown hg10 (by simp [Value.ownBlock];omega))).news);have hO10:Own w10 w.heap.size 73 3 v10 (j+1) (flatV (X.take j)++[.int .i64 p,.int .i64 by_,.int .i64 q]):=⟨ho10,hne10⟩;have hs10:=hb10.size;clear ho10 hg10 hp10 hne10) | (refine step_app1d rfl (.tmp 75) (.tmp 77) 35 rfl w.heap.size 73 _ (.agg #[.int .i64 0,.int .i64 0,.int .i64 0]) 3 24 Tryz.underlying35 infoVer rfl (by decide) (.slice (some ⟨g,0,none⟩) j cp) j _ [.int .i64 p,.int .i64 by_,.int .i64 q] (by rfl) HP8.out.1 (by rfl) rfl (celV_one ⟨p,by_,q⟩) (by omega) (by decide) HB9.out.size ?_;intro v10 w10 ho10 hne10 hg10 hp10;have hb10:Below w.heap.size w w10:=((HB9.out.alloc HB9.out.size _).grown hg10 (by have:=HB9.out.size;simp;omega) (fun k hk=>by simp [Value.ownBlock] at hk;omega));have HN10:=Lib.hid ((((HT8.out.below ((Below.refl _ w8).alloc (Nat.le_refl _) _)).grown hg10 (by simp [Value.ownBlock];omega))).news);have hO10:Own w10 w.heap.size 73 3 v10 (j+1) (flatV (X.take j)++[.int .i64 p,.int .i64 by_,.int .i64 q]):=⟨ho10,hne10⟩;have hs10:=hb10.size;clear ho10 hg10 hp10 hne10) | (refine step_append_rows rfl (.tmp 78) (.tmp 79) 35 rfl w.heap.size 73 (.agg #[.int .i64 0,.int .i64 0,.int .i64 0]) 3 24 Tryz.underlying35 infoVer rfl (by decide) _ (j+1) _ (flatV (X.drop j)) (by rfl) hO10 (some ⟨gT,0,none⟩) (X.length - j) cT (by rfl) (fun h=>by cases h) (by rw [flatV_len,List.length_drop]) HN10.out (flatV_one _) (by omega) (by decide) hs10 ?_;intro v11 w11 ho11 hg11;have hb11:Below w.heap.size w w11:=hb10.grown hg11 hs10 (fun k hk=>(hO10.1.lt k hk).1)))
           all_goals
            clear hb10 hO10 HN10 hs10
            have HL11:Hid (Own w11 w.heap.size 73 3 v11 (putN L by_ E (k+1)).length (flatV (putN L by_ E (k+1)))):=Lib.hid (by
             rw [HN.out,HI.out,List.append_cons,flatV_append,flatV_append]
             have e:(X.take j++[(⟨p,by_,q⟩:Ver)]++X.drop j).length=j+1+(X.length - j):=by simp [Nat.min_eq_left hj];omega
             rw [e];exact ho11)
            have HWN:Hid (WfVs (putN L by_ E (k+1))):=Lib.hid (by
             rw [HN.out]
             intro x hx
             rcases mem_insV.1 hx with rfl | hx
             · exact ⟨hwk.1,hby,hwk.2⟩
             · exact HWX.out x hx)
            clear ho11 hg11
            go_wp2
            go_roundw
            case rel=>exact ⟨k+1,by omega,by go_num,HL11.out,HWN.out,hb11⟩
            case measure=>simp [intOf];omega
     · have hd6:decide ((j:Int) < (X.length:Int))=false:=by simp;omega
       have HI:=Lib.hid (hto.done hj (fun h=>absurd h hlt6))
       clear hto
       obtain rfl:j=X.length:=by omega
       go_wp2
       go_quiet (fail)
       generalize hw7:World.drewN _ _=w7
       by_cases hcq:cp=X.length
       · subst hcq
         have hb7:Below w5.heap.size w5 w7:=by rw [← hw7];exact below_drewN' hb6 _
         have HB7:=Lib.hid (HB5.out.trans (hb7.mono HB5.out.size))
         have k0:=(hb7.cell (p:=⟨G,0,none⟩) hG5).trans HG.out.1
         have k1:=(hb7.cell (p:=⟨G,1,none⟩) hG5).trans HG.out.2.1
         have k2:=(hb7.cell (p:=⟨G,2,none⟩) hG5).trans HG.out.2.2
         have hG7:G < w7.heap.size:=World.block_lt_of_cell? w7 ⟨G,0,none⟩ k0
         have ho7:=HO5.out.below hb7
         have htl:∀ W,Below w7.heap.size w7 W→RowV W (some ⟨g,X.length*3,none⟩) 0 (X.drop X.length):=fun W hb=>by
          have:=((HR5.out.below hb7).below hb).drop X.length hj
          simpa only [Nat.zero_add,Nat.sub_self] using this
         have HTL:=Lib.hid htl
         have HO7:=Lib.hid ho7
         have r1:(0:Int)≤(X.length:Int):=by omega
         have r2:(X.length:Int)≤(X.length:Int):=by omega
         have r3:(X.length:Int)≤(X.length:Int):=by omega
         have r4:(X.length:Int)≤(X.length:Int):=by omega
         clear hw7 hb7 hb6 ho7 htl f0 f1 f2 hd6 hlt6
         go_wp2_with (first | (at_builtin;refine wpList_append_rows rfl _ _ 35 rfl w7.heap.size 73 (.agg #[.int .i64 0,.int .i64 0,.int .i64 0]) 3 24 Tryz.underlying35 infoVer rfl (by decide) _ 0 [] (flatV (X.drop X.length)) (by rfl) (own_lit 73 3 #[] 0 (Nat.le_refl _) (by simp) rfl) (some ⟨g,X.length*3,none⟩) 0 (X.length - X.length) (by rfl) (fun h=>by cases h) (by simp [flatV_len]) ((HTL.out _ ((Below.refl _ w7).alloc (Nat.le_refl _) _)).news) (flatV_one _) (by omega) (by decide) (by simp) ?_;intro v8 w8 ho8 hg8;have HO8:Hid (Own w8 w7.heap.size 73 3 v8 0 (flatV (X.drop X.length))):=Lib.hid (by rw [Nat.zero_add,List.nil_append] at ho8;exact ho8);have HB8:Hid (Below w7.heap.size w7 w8):=Lib.hid (((Below.refl _ w7).alloc (Nat.le_refl _) _).grown hg8 (by simp) (fun k hk=>by simp [Value.ownBlock] at hk;omega));clear ho8 hg8) | (at_builtin;refine wpList_append_rows rfl _ _ 35 rfl w7.heap.size 73 (.agg #[.int .i64 0,.int .i64 0,.int .i64 0]) 3 24 Tryz.underlying35 infoVer rfl (by decide) _ 0 [] [] (by rfl) (own_lit 73 3 #[] 0 (Nat.le_refl _) (by simp) rfl) (some ⟨g,0,none⟩) 0 0 (by rfl) (fun h=>by cases h) rfl (fun _ _ _ u hu=>by simp at hu) (fun u hu=>by cases hu) (by omega) (by decide) (by simp) ?_;intro v8 w8 ho8 hg8;have HO8:Hid (Own w8 w7.heap.size 73 3 v8 0 (flatV (X.drop X.length))):=Lib.hid (by rw [Nat.zero_add,List.nil_append] at ho8;rw [List.drop_eq_nil_of_le (by omega)];exact ho8);have HB8:Hid (Below w7.heap.size w7 w8):=Lib.hid (((Below.refl _ w7).alloc (Nat.le_refl _) _).grown hg8 (by simp) (fun k hk=>by simp [Value.ownBlock] at hk;omega));clear ho8 hg8))
         all_goals
          obtain ⟨gT,cT,rfl,hgTB,hgTs⟩:=HO8.out.slice
          have hs78:=HB8.out.size
          have HB9:Hid (Below w.heap.size w w8):=Lib.hid (HB7.out.trans (HB8.out.mono HB7.out.size))
          have m0:=(HB8.out.cell (p:=⟨G,0,none⟩) hG7).trans k0
          have m1:=(HB8.out.cell (p:=⟨G,1,none⟩) hG7).trans k1
          have m2:=(HB8.out.cell (p:=⟨G,2,none⟩) hG7).trans k2
          have hXd:WfVs (X.drop X.length):=fun x hx=>HWX.out x (List.mem_of_mem_drop hx)
          have HT8:Hid (RowV w8 (some ⟨gT,0,none⟩) 0 (X.drop X.length)):=Lib.hid (rowV_owned HO8.out.1 (by simp) (by omega) hXd)
          have HP8:=Lib.hid ((HO7.out.below HB8.out).take hj)
          rw [flatV_take X X.length hj] at HP8
          have hge7:gT≠g:=by omega
          clear hXd k0 k1 k2 hG7
          go_region_law (first | (refine step_app1 rfl (.tmp 75) (.tmp 77) 35 rfl w.heap.size 73 _ (.agg #[.int .i64 0,.int .i64 0,.int .i64 0]) 3 24 Tryz.underlying35 infoVer rfl (by decide) (.slice (some ⟨g,0,none⟩) X.length X.length) X.length _ [.int .i64 p,.int .i64 by_,.int .i64 q] (by rfl) HP8.out.1 (by rfl) rfl (celV_one ⟨p,by_,q⟩) (by omega) (by decide) HB9.out.size ?_;intro v10 w10 ho10 hne10 hg10 hp10;have hb10:Below w.heap.size w w10:=((HB9.out.alloc HB9.out.size _).grown hg10 (by have:=HB9.out.size;simp;omega) (fun k hk=>by simp [Value.ownBlock] at hk;omega));have HN10:=Lib.hid ((((HT8.out.below ((Below.refl _ w8).alloc (Nat.le_refl _) _)).grown hg10 (by simp [Value.ownBlock];omega))).news);have hO10:Own w10 w.heap.size 73 3 v10 (X.length+1) (flatV (X.take X.length)++[.int .i64 p,.int .i64 by_,.int .i64 q]):=⟨ho10,hne10⟩;have hs10:=hb10.size;clear ho10 hg10 hp10 hne10) | (refine step_app1d rfl (.tmp 75) (.tmp 77) 35 rfl w.heap.size 73 _ (.agg #[.int .i64 0,.int .i64 0,.int .i64 0]) 3 24 Tryz.underlying35 infoVer rfl (by decide) (.slice (some ⟨g,0,none⟩) X.length X.length) X.length _ [.int .i64 p,.int .i64 by_,.int .i64 q] (by rfl) HP8.out.1 (by rfl) rfl (celV_one ⟨p,by_,q⟩) (by omega) (by decide) HB9.out.size ?_;intro v10 w10 ho10 hne10 hg10 hp10;have hb10:Below w.heap.size w w10:=((HB9.out.alloc HB9.out.size _).grown hg10 (by have:=HB9.out.size;simp;omega) (fun k hk=>by simp [Value.ownBlock] at hk;omega));have HN10:=Lib.hid ((((HT8.out.below ((Below.refl _ w8).alloc (Nat.le_refl _) _)).grown hg10 (by simp [Value.ownBlock];omega))).news);have hO10:Own w10 w.heap.size 73 3 v10 (X.length+1) (flatV (X.take X.length)++[.int .i64 p,.int .i64 by_,.int .i64 q]):=⟨ho10,hne10⟩;have hs10:=hb10.size;clear ho10 hg10 hp10 hne10) | (refine step_append_rows rfl (.tmp 78) (.tmp 79) 35 rfl w.heap.size 73 (.agg #[.int .i64 0,.int .i64 0,.int .i64 0]) 3 24 Tryz.underlying35 infoVer rfl (by decide) _ (X.length+1) _ (flatV (X.drop X.length)) (by rfl) hO10 (some ⟨gT,0,none⟩) 0 cT (by rfl) (fun h=>by cases h) (by simp [flatV_len]) HN10.out (flatV_one _) (by omega) (by decide) hs10 ?_;intro v11 w11 ho11 hg11;have hb11:Below w.heap.size w w11:=hb10.grown hg11 hs10 (fun k hk=>(hO10.1.lt k hk).1)))
          all_goals
           clear hb10 hO10 HN10 hs10
           have HL11:Hid (Own w11 w.heap.size 73 3 v11 (putN L by_ E (k+1)).length (flatV (putN L by_ E (k+1)))):=Lib.hid (by
            rw [HN.out,HI.out,List.append_cons,flatV_append,flatV_append]
            have e:(X.take X.length++[(⟨p,by_,q⟩:Ver)]++X.drop X.length).length=X.length+1+0:=by simp
            rw [e];exact ho11)
           have HWN:Hid (WfVs (putN L by_ E (k+1))):=Lib.hid (by
            rw [HN.out]
            intro x hx
            rcases mem_insV.1 hx with rfl | hx
            · exact ⟨hwk.1,hby,hwk.2⟩
            · exact HWX.out x hx)
           clear ho11 hg11
           go_wp2
           go_roundw
           case rel=>exact ⟨k+1,by omega,by go_num,HL11.out,HWN.out,hb11⟩
           case measure=>simp [intOf];omega
       · clear hlt6
         have hb7:Below w5.heap.size w5 w7:=by rw [← hw7];exact below_drewN' hb6 _
         have HB7:=Lib.hid (HB5.out.trans (hb7.mono HB5.out.size))
         have k0:=(hb7.cell (p:=⟨G,0,none⟩) hG5).trans HG.out.1
         have k1:=(hb7.cell (p:=⟨G,1,none⟩) hG5).trans HG.out.2.1
         have k2:=(hb7.cell (p:=⟨G,2,none⟩) hG5).trans HG.out.2.2
         have hG7:G < w7.heap.size:=World.block_lt_of_cell? w7 ⟨G,0,none⟩ k0
         have ho7:=HO5.out.below hb7
         have htl:∀ W,Below w7.heap.size w7 W→RowV W (some ⟨g,X.length*3,none⟩) 0 (X.drop X.length):=fun W hb=>by
          have:=((HR5.out.below hb7).below hb).drop X.length hj
          simpa only [Nat.zero_add,Nat.sub_self] using this
         have HTL:=Lib.hid htl
         have HO7:=Lib.hid ho7
         have r1:(0:Int)≤(X.length:Int):=by omega
         have r2:(X.length:Int)≤(X.length:Int):=by omega
         have r3:(X.length:Int)≤(cp:Int):=by omega
         have r4:(X.length:Int)≤(cp:Int):=by omega
         clear hw7 hb7 hb6 ho7 htl f0 f1 f2 hd6
         go_wp2_with (first | (at_builtin;refine wpList_append_rows rfl _ _ 35 rfl w7.heap.size 73 (.agg #[.int .i64 0,.int .i64 0,.int .i64 0]) 3 24 Tryz.underlying35 infoVer rfl (by decide) _ 0 [] (flatV (X.drop X.length)) (by rfl) (own_lit 73 3 #[] 0 (Nat.le_refl _) (by simp) rfl) (some ⟨g,X.length*3,none⟩) 0 (cp - X.length) (by rfl) (fun h=>by cases h) (by simp [flatV_len]) ((HTL.out _ ((Below.refl _ w7).alloc (Nat.le_refl _) _)).news) (flatV_one _) (by omega) (by decide) (by simp) ?_;intro v8 w8 ho8 hg8;have HO8:Hid (Own w8 w7.heap.size 73 3 v8 0 (flatV (X.drop X.length))):=Lib.hid (by rw [Nat.zero_add,List.nil_append] at ho8;exact ho8);have HB8:Hid (Below w7.heap.size w7 w8):=Lib.hid (((Below.refl _ w7).alloc (Nat.le_refl _) _).grown hg8 (by simp) (fun k hk=>by simp [Value.ownBlock] at hk;omega));clear ho8 hg8) | (at_builtin;refine wpList_append_rows rfl _ _ 35 rfl w7.heap.size 73 (.agg #[.int .i64 0,.int .i64 0,.int .i64 0]) 3 24 Tryz.underlying35 infoVer rfl (by decide) _ 0 [] [] (by rfl) (own_lit 73 3 #[] 0 (Nat.le_refl _) (by simp) rfl) (some ⟨g,0,none⟩) 0 0 (by rfl) (fun h=>by cases h) rfl (fun _ _ _ u hu=>by simp at hu) (fun u hu=>by cases hu) (by omega) (by decide) (by simp) ?_;intro v8 w8 ho8 hg8;have HO8:Hid (Own w8 w7.heap.size 73 3 v8 0 (flatV (X.drop X.length))):=Lib.hid (by rw [Nat.zero_add,List.nil_append] at ho8;rw [List.drop_eq_nil_of_le (by omega)];exact ho8);have HB8:Hid (Below w7.heap.size w7 w8):=Lib.hid (((Below.refl _ w7).alloc (Nat.le_refl _) _).grown hg8 (by simp) (fun k hk=>by simp [Value.ownBlock] at hk;omega));clear ho8 hg8))
         all_goals
          obtain ⟨gT,cT,rfl,hgTB,hgTs⟩:=HO8.out.slice
          have hs78:=HB8.out.size
          have HB9:Hid (Below w.heap.size w w8):=Lib.hid (HB7.out.trans (HB8.out.mono HB7.out.size))
          have m0:=(HB8.out.cell (p:=⟨G,0,none⟩) hG7).trans k0
          have m1:=(HB8.out.cell (p:=⟨G,1,none⟩) hG7).trans k1
          have m2:=(HB8.out.cell (p:=⟨G,2,none⟩) hG7).trans k2
          have hXd:WfVs (X.drop X.length):=fun x hx=>HWX.out x (List.mem_of_mem_drop hx)
          have HT8:Hid (RowV w8 (some ⟨gT,0,none⟩) 0 (X.drop X.length)):=Lib.hid (rowV_owned HO8.out.1 (by simp) (by omega) hXd)
          have HP8:=Lib.hid ((HO7.out.below HB8.out).take hj)
          rw [flatV_take X X.length hj] at HP8
          have hge7:gT≠g:=by omega
          clear hXd k0 k1 k2 hG7
          go_region_law (first | (refine step_app1 rfl (.tmp 75) (.tmp 77) 35 rfl w.heap.size 73 _ (.agg #[.int .i64 0,.int .i64 0,.int .i64 0]) 3 24 Tryz.underlying35 infoVer rfl (by decide) (.slice (some ⟨g,0,none⟩) X.length cp) X.length _ [.int .i64 p,.int .i64 by_,.int .i64 q] (by rfl) HP8.out.1 (by rfl) rfl (celV_one ⟨p,by_,q⟩) (by omega) (by decide) HB9.out.size ?_;intro v10 w10 ho10 hne10 hg10 hp10;have hb10:Below w.heap.size w w10:=((HB9.out.alloc HB9.out.size _).grown hg10 (by have:=HB9.out.size;simp;omega) (fun k hk=>by simp [Value.ownBlock] at hk;omega));have HN10:=Lib.hid ((((HT8.out.below ((Below.refl _ w8).alloc (Nat.le_refl _) _)).grown hg10 (by simp [Value.ownBlock];omega))).news);have hO10:Own w10 w.heap.size 73 3 v10 (X.length+1) (flatV (X.take X.length)++[.int .i64 p,.int .i64 by_,.int .i64 q]):=⟨ho10,hne10⟩;have hs10:=hb10.size;clear ho10 hg10 hp10 hne10) | (refine step_app1d rfl (.tmp 75) (.tmp 77) 35 rfl w.heap.size 73 _ (.agg #[.int .i64 0,.int .i64 0,.int .i64 0]) 3 24 Tryz.underlying35 infoVer rfl (by decide) (.slice (some ⟨g,0,none⟩) X.length cp) X.length _ [.int .i64 p,.int .i64 by_,.int .i64 q] (by rfl) HP8.out.1 (by rfl) rfl (celV_one ⟨p,by_,q⟩) (by omega) (by decide) HB9.out.size ?_;intro v10 w10 ho10 hne10 hg10 hp10;have hb10:Below w.heap.size w w10:=((HB9.out.alloc HB9.out.size _).grown hg10 (by have:=HB9.out.size;simp;omega) (fun k hk=>by simp [Value.ownBlock] at hk;omega));have HN10:=Lib.hid ((((HT8.out.below ((Below.refl _ w8).alloc (Nat.le_refl _) _)).grown hg10 (by simp [Value.ownBlock];omega))).news);have hO10:Own w10 w.heap.size 73 3 v10 (X.length+1) (flatV (X.take X.length)++[.int .i64 p,.int .i64 by_,.int .i64 q]):=⟨ho10,hne10⟩;have hs10:=hb10.size;clear ho10 hg10 hp10 hne10) | (refine step_append_rows rfl (.tmp 78) (.tmp 79) 35 rfl w.heap.size 73 (.agg #[.int .i64 0,.int .i64 0,.int .i64 0]) 3 24 Tryz.underlying35 infoVer rfl (by decide) _ (X.length+1) _ (flatV (X.drop X.length)) (by rfl) hO10 (some ⟨gT,0,none⟩) 0 cT (by rfl) (fun h=>by cases h) (by simp [flatV_len]) HN10.out (flatV_one _) (by omega) (by decide) hs10 ?_;intro v11 w11 ho11 hg11;have hb11:Below w.heap.size w w11:=hb10.grown hg11 hs10 (fun k hk=>(hO10.1.lt k hk).1)))
          all_goals
           clear hb10 hO10 HN10 hs10
           have HL11:Hid (Own w11 w.heap.size 73 3 v11 (putN L by_ E (k+1)).length (flatV (putN L by_ E (k+1)))):=Lib.hid (by
            rw [HN.out,HI.out,List.append_cons,flatV_append,flatV_append]
            have e:(X.take X.length++[(⟨p,by_,q⟩:Ver)]++X.drop X.length).length=X.length+1+0:=by simp
            rw [e];exact ho11)
           have HWN:Hid (WfVs (putN L by_ E (k+1))):=Lib.hid (by
            rw [HN.out]
            intro x hx
            rcases mem_insV.1 hx with rfl | hx
            · exact ⟨hwk.1,hby,hwk.2⟩
            · exact HWX.out x hx)
           clear ho11 hg11
           go_wp2
           go_roundw
           case rel=>exact ⟨k+1,by omega,by go_num,HL11.out,HWN.out,hb11⟩
           case measure=>simp [intOf];omega
  · obtain rfl:k=m:=by omega
    have HO:=Lib.hid ho
    clear hc ho
    go_wp2
    go_ret
    exact ⟨_,rfl,by unfold putL;rw [HEn.out];exact HO.out,by unfold putL;rw [HEn.out];exact hw,hb⟩
end Go.Proofs.YtaaffpolmecicabGreat
/- The contract of the model's PutVersions. -/
namespace Go.Proofs.YtaaffpolmecicabGreat
open Go.RowKit
set_option linter.unusedVariables false
set_option linter.unusedSimpArgs false
end Go.Proofs.YtaaffpolmecicabGreat
