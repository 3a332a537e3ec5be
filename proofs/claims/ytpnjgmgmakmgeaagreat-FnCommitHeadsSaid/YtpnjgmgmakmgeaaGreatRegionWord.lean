/- A region that draws its order and reads on: what each slot holds is told by a word that stays while only the reader and new memory move. No function of the program is named here. -/
import Derived.Test.YtpnjgmgmakmgeaaGreatRegJ
import Derived.Test.YtpnjgmgmakmgeaaGreatSpecE0
import Derived.Test.YtpnjgmgmakmgeaaGreatCore
namespace Go.Proofs.YtpnjgmgmakmgeaaGreat
open Go.RowKit
set_option linter.unusedVariables false
structure Wd (R:Nat) where
 ok:Value→World→Prop
 st:∀ (v:Value) (w w':World),ok v w→Upd R w w'→ok v w'
def Wd.is (R:Nat) (v0:Value):Wd R:=⟨fun v _=>v=v0,fun _ _ _ h _=>h⟩
def Wd.int (R:Nat) (lo hi:Int):Wd R:=⟨fun v _=>∃ x:Int,v = .int .i64 x∧lo≤x∧x≤hi,fun _ _ _ h _=>h⟩
def Wd.bool (R:Nat):Wd R:=⟨fun v _=>∃ x:Bool,v = .bool x,fun _ _ _ h _=>h⟩
def Wd.lit (R n:Nat) (lo hi:Int):Wd R:=⟨fun v w=>∃ g,v = .slice (some ⟨g,0,none⟩) n n∧R < g∧∀ i,i < n→∃ x:Int,w.cell? ⟨g,i,none⟩=some (.int .i64 x)∧lo≤x∧x≤hi,
 fun v w w' ⟨g,hv,hg,hc⟩ hu=>⟨g,hv,hg,fun i hi=>by obtain ⟨x,hx,hb⟩:=hc i hi;exact ⟨x,hu.cell hx (by omega),hb⟩⟩⟩
def Wd.to (R:Nat) (lo hi:Int):Wd R:=⟨fun v w=>∃ g i,v = .pointer (some ⟨g,i,none⟩)∧R < g∧∃ x:Int,w.cell? ⟨g,i,none⟩=some (.int .i64 x)∧lo≤x∧x≤hi,
 fun v w w' ⟨g,i,hv,hg,x,hx,hb⟩ hu=>⟨g,i,hv,hg,x,hu.cell hx (by omega),hb⟩⟩
def costOf:List (Nat × Nat)→(Nat→Bool)→Nat
 | [],_=>0
 | c :: r,l=>(if l c.1 then c.2 else 0)+costOf r l
theorem costOf_none (C:List (Nat × Nat)):costOf C (fun _=>false)=0:=by
 induction C with
 | nil=>rfl
 | cons c r ih=>simp [costOf,ih]
theorem costOf_step (C:List (Nat × Nat)) (l:Nat→Bool) (i:Nat):costOf C l≤costOf C (fun j=>j == i || l j):=by
 induction C with
 | nil=>exact Nat.le_refl _
 | cons c r ih =>
  simp only [costOf]
  by_cases h:l c.1=true
  · simp only [h,Bool.or_true,if_true];omega
  · rw [if_neg h];omega
theorem costOf_add {C:List (Nat × Nat)} {l:Nat→Bool} {i c:Nat} (hm:(i,c)∈C) (hl:l i=false):costOf C l+c≤costOf C (fun j=>j == i || l j):=by
 induction C with
 | nil=>cases hm
 | cons x r ih =>
  simp only [costOf]
  rcases List.mem_cons.1 hm with e | e
  · subst e
    have:=costOf_step r l i
    simp only [hl,Bool.false_eq_true,if_false,beq_self_eq_true,Bool.true_or,if_true]
    omega
  · have:=ih e
    by_cases h:l x.1=true
    · simp only [h,Bool.or_true,if_true];omega
    · rw [if_neg h];omega
theorem costOf_le (C:List (Nat × Nat)) (l:Nat→Bool):costOf C l≤(C.map (·.2)).sum:=by
 induction C with
 | nil=>exact Nat.le_refl _
 | cons x r ih =>
  simp only [costOf,List.map_cons,List.sum_cons]
  split <;> omega
structure WdJ (R:Nat) (w0:World) (P0:Nat) (C:List (Nat × Nat)) (T:List (Nat × Nat × Wd R)) (l:Nat→Bool) (f:Nat→Value) (w:World):Prop where
 upd:Upd R w0 w
 rd:Rd w R (P0+costOf C l)
 wd:∀ t∈T,l t.1=true→t.2.2.ok (f t.2.1) w
theorem WdJ.nothing {R:Nat} {w0:World} {P0:Nat} (C:List (Nat × Nat)) (T:List (Nat × Nat × Wd R)) (f:Nat→Value) (h:Rd w0 R P0):WdJ R w0 P0 C T (fun _=>false) f w0.drew :=
 ⟨(Upd.refl R w0).drew,by rw [costOf_none];exact h.drew,fun _ _ h=>by cases h⟩
theorem WdJ.at {R:Nat} {w0 w:World} {P0:Nat} {C:List (Nat × Nat)} {T:List (Nat × Nat × Wd R)} {l:Nat→Bool} {f:Nat→Value} (h:WdJ R w0 P0 C T l f w) (k:Nat) {i s:Nat} {d:Wd R} (hk:T[k]? = some (i,s,d)) (hl:l i=true):d.ok (f s) w :=
 h.wd _ (List.mem_of_getElem? hk) hl
def onlyOp {R:Nat} (T:List (Nat × Nat × Wd R)) (i d:Nat):Bool:=T.all fun t=>(t.1 == i) == (t.2.1 == d)
def opsOnce {R:Nat}:List (Nat × Nat × Wd R)→Bool
 | []=>true
 | t :: r=>r.all (fun u=>u.1 != t.1) && opsOnce r
theorem opsOnce_eq {R:Nat} {T:List (Nat × Nat × Wd R)} (h:opsOnce T=true) {t u:Nat × Nat × Wd R} (ht:t∈T) (hu:u∈T) (e:t.1=u.1):t=u:=by
 induction T with
 | nil=>cases ht
 | cons x r ih =>
  simp only [opsOnce,Bool.and_eq_true,List.all_eq_true,bne_iff_ne] at h
  rcases List.mem_cons.1 ht with ht | ht
  · subst ht
    rcases List.mem_cons.1 hu with hu | hu
    · exact hu.symm
    · exact absurd e.symm (h.1 u hu)
  · rcases List.mem_cons.1 hu with hu | hu
    · rw [hu] at e;exact absurd e (h.1 t ht)
    · exact ih h.2 ht hu
theorem WdJ.step {R:Nat} {w0 w w':World} {P0:Nat} {C:List (Nat × Nat)} {T:List (Nat × Nat × Wd R)} {l:Nat→Bool} {f:Nat→Value} (h:WdJ R w0 P0 C T l f w) (k i d:Nat) (v:Value) {wd:Wd R} (hk:T[k]? = some (i,d,wd)) (hT:opsOnce T=true) (ho:onlyOp T i d=true)
  (hu:Upd R w w') (hr:Rd w' R (P0+costOf C (fun j=>j == i || l j))) (hv:wd.ok v w'):WdJ R w0 P0 C T (fun j=>j == i || l j) (fun s=>if some d=some s then v else f s) w':=by
 have hm:=List.mem_of_getElem? hk
 refine ⟨h.upd.trans hu,hr,fun t ht hl=>?_⟩
 have hot:=List.all_eq_true.1 ho t ht
 by_cases e:t.1=i
 · have:t=(i,d,wd):=opsOnce_eq hT ht hm e
   subst this
   simp only [if_true]
   exact hv
 · have hne:t.2.1≠d:=by
    have e1:(t.1 == i)=false:=by simpa using e
    rw [e1] at hot
    intro e2;rw [e2] at hot;simp at hot
   have hl':l t.1=true:=by
    have e1:(t.1 == i)=false:=by simpa using e
    simpa [e1] using hl
   have hn:¬ (some d=some t.2.1):=by simp;exact fun e=>hne e.symm
   simp only [if_neg hn]
   exact t.2.2.st _ _ _ (h.wd t ht hl') hu
theorem WdJ.stay {R:Nat} {w0 w:World} {P0:Nat} {C:List (Nat × Nat)} {T:List (Nat × Nat × Wd R)} {l:Nat→Bool} {f:Nat→Value} (h:WdJ R w0 P0 C T l f w) (k i d:Nat) {v:Value} {wd:Wd R} (hk:T[k]? = some (i,d,wd)) (hT:opsOnce T=true) (ho:onlyOp T i d=true) (hv:wd.ok v w):WdJ R w0 P0 C T (fun j=>j == i || l j) (fun s=>if some d=some s then v else f s) w :=
 h.step k i d v hk hT ho (Upd.refl _ _) (h.rd.mono (by have:=costOf_step C l i;omega)) hv
theorem WdJ.same {R:Nat} {w0 w w':World} {P0:Nat} {C:List (Nat × Nat)} {T:List (Nat × Nat × Wd R)} {l:Nat→Bool} {f:Nat→Value} (h:WdJ R w0 P0 C T l f w) (i:Nat) (hr:Rd w' R (P0+costOf C l)):Rd w' R (P0+costOf C (fun j=>j == i || l j)) :=
 hr.mono (by have:=costOf_step C l i;omega)
theorem WdJ.asked {R:Nat} {w0 w w':World} {P0:Nat} {C:List (Nat × Nat)} {T:List (Nat × Nat × Wd R)} {l:Nat→Bool} {f:Nat→Value} (h:WdJ R w0 P0 C T l f w) (i:Nat) {c:Nat} (hm:(i,c)∈C) (hl:l i=false) (hr:Rd w' R (P0+costOf C l+c)):Rd w' R (P0+costOf C (fun j=>j == i || l j)) :=
 hr.mono (by have:=costOf_add hm hl;omega)
def StoJ (P Q:(Nat→Bool)→(Nat→Value)→World→Prop) (m:Nat) (l:Nat→Bool) (f:Nat→Value) (w:World):Prop:=(l m=false→P l f w)∧(l m=true→Q l f w)
theorem StoJ.nothing {P Q:(Nat→Bool)→(Nat→Value)→World→Prop} {m:Nat} {f:Nat→Value} {w:World} (h:P (fun _=>false) f w):StoJ P Q m (fun _=>false) f w:=⟨fun _=>h,fun h=>by cases h⟩
theorem StoJ.ahead {P Q:(Nat→Bool)→(Nat→Value)→World→Prop} {m:Nat} {l:Nat→Bool} {f:Nat→Value} {w:World} (h:StoJ P Q m l f w) {i:Nat} (hli:l i=false) (hQ:Q l f w→l i=true):l m=false:=by
 cases hm:l m with
 | false=>rfl
 | true=>rw [hQ (h.2 hm)] at hli;cases hli
theorem StoJ.step {P Q:(Nat→Bool)→(Nat→Value)→World→Prop} {m:Nat} {l:Nat→Bool} {g:Nat→Value} {w':World} (i:Nat) (him:m≠i) (hm:l m=false) (hP:P (fun j=>j == i || l j) g w'):StoJ P Q m (fun j=>j == i || l j) g w' :=
 ⟨fun _=>hP,fun h=>by simp [him,hm] at h⟩
theorem StoJ.behind {P Q:(Nat→Bool)→(Nat→Value)→World→Prop} {m:Nat} {l:Nat→Bool} {g:Nat→Value} {w':World} (i:Nat) (hm:l m=true) (hQ:Q (fun j=>j == i || l j) g w'):StoJ P Q m (fun j=>j == i || l j) g w' :=
 ⟨fun h=>by simp [hm] at h,fun _=>hQ⟩
theorem StoJ.at {P Q:(Nat→Bool)→(Nat→Value)→World→Prop} {m:Nat} {l:Nat→Bool} {g:Nat→Value} {w':World} (hQ:Q (fun j=>j == m || l j) g w'):StoJ P Q m (fun j=>j == m || l j) g w' :=
 ⟨fun h=>by simp at h,fun _=>hQ⟩
theorem wd_lit {w:World} {R n:Nat} {T:TypeId} {lo hi:Int} {cs:List Int} (hR:R < w.heap.size) (hl:cs.length=n) (hb:∀ x∈cs,lo≤x∧x≤hi) :
  (Wd.lit R n lo hi).ok (.slice (some ⟨w.heap.size,0,none⟩) n n) (w.alloc (.cells (cs.map (Value.int .i64)).toArray T)):=by
 refine ⟨w.heap.size,rfl,hR,fun i hi=>?_⟩
 have hi':i < cs.length:=by omega
 refine ⟨cs[i],?_,hb _ (List.getElem_mem hi')⟩
 rw [cell_of_row _ w.heap.size i _ T (0,0) (heap_alloc_new w _)]
 simp [hi']
end Go.Proofs.YtpnjgmgmakmgeaaGreat
