/- Texts of ours that stand together: RowOps, KeyDel, KeyIns, KeyPut -/
import Derived.Test.YtaaffpolmecicabGreatKeyA
import Derived.Laws.CopyRow
import Derived.Lib.AppendZeros
import Derived.Deep.RegionLaw
import Derived.Deep.Cut
import Derived.BigQuiet
import Derived.Lib.Overlaps
import Derived.Lib.AppendZerosOnto
import Derived.Shelf.Spec.SlicesInsertGrow
import Derived.Maps.AppendAt
/- clear and copy over rows of elements of several cells;a row cut short;a struct of three ints stored in a row. No function of the program is named here. -/
namespace Go.Proofs.YtaaffpolmecicabGreat
open Go.RowKit
set_option linter.unusedVariables false
def splice (cur:Array Value) (o:Nat) (vs:List Value):Array Value:=(cur.toList.take o++vs++cur.toList.drop (o+vs.length)).toArray
theorem splice_size (cur:Array Value) (o:Nat) (vs:List Value) (h:o+vs.length≤cur.size):(splice cur o vs).size=cur.size:=by
 simp [splice];omega
theorem splice_take (cur:Array Value) (o:Nat) (vs:List Value) (k:Nat) (hk:k≤o) (h:o≤cur.size):(splice cur o vs).toList.take k=cur.toList.take k:=by
 simp only [splice,List.append_assoc]
 rw [List.take_append_of_le_length (by simp;omega),List.take_take,Nat.min_eq_left hk]
theorem run_copy_rowS {P:Program} (w:World) (dT sT ty elem:TypeId) (size:Nat) (g o dLen dCap:Nat) (a:Addr) (sLen sCap:Nat) (cur:Array Value) (t:TypeId) (cs:List Value)
  (hu:P.underlying dT=some (.slice elem)) (hs:(P.info? elem).map (·.size)=some size)
  (hg:w.heap[g]? = some (.cells cur t (0,0))) (m:Nat) (hm:Nat.min sLen dLen=m) (hn:cs.length=m*size)
  (hsrc:∀ j v,cs[j]? = some v→w.cell? (a.add j)=some v) (hfit:o+cs.length≤cur.size) (h1:∀ v∈cs,v.oneCell'=true) :
  (Builtin.copy_ #[dT,sT] ty #[.slice (some ⟨g,o,none⟩) dLen dCap,.slice (some a) sLen sCap]).run P w =
   .ok (goInt m) (w.setRow g (splice cur o cs)):=by
 have hl:=run_firstCells_some (P:=P) w size m a sLen sCap cs hn hsrc
 have hst:=run_storeCells_at P g o t cs 0 cur w hg (by simpa using hfit) h1
 simp only [Nat.add_zero] at hst
 cases hq:P.info? elem with
 | none=>simp [hq] at hs
 | some i =>
  have hi:i.size=size:=by simpa [hq] using hs
  simp [Builtin.copy_,run_underlying hu,Builtin.lenOf,sizeOf,typeInfo,hq,hi,hm,hl,hst,splice]
theorem setRow_grown (w:World) (g:Nat) (cs:Array Value):w.grownBy (w.setRow g cs) (some g):=⟨rfl,rfl,rfl,by simp,fun k _ hne=>setRow_other w g k _ (fun e=>hne (by rw [e]))⟩
theorem owns_cur {w:World} {B:Nat} {e:TypeId} {size g cap n:Nat} {xs:List Value} (h:w.ownsRow B e size (.slice (some ⟨g,0,none⟩) n cap) n xs) :
  ∃ cur,B≤g∧w.heap[g]? = some (.cells cur e (0,0))∧n≤cap∧cap≤maxLen∧cur.size=cap*size∧cur.toList.take (n*size)=xs:=by
 rcases h.2 with ⟨h',_⟩ | ⟨g',cap',cur,h',hb,hg,hnc,hcm,hcs,ht⟩
 · simp at h'
 · simp only [Value.slice.injEq,Option.some.injEq,Addr.mk.injEq,and_true,true_and] at h'
   obtain ⟨rfl,rfl⟩:=h'
   exact ⟨cur,hb,hg,hnc,hcm,hcs,ht⟩
theorem flatV_takeR (l:List Ver):∀ k,(flatV l).take (k*3)=flatV (l.take k):=by
 induction l with
 | nil=>intro k;simp [flatV]
 | cons y r ih =>
  intro k
  cases k with
  | zero=>simp [flatV]
  | succ k =>
   rw [flatV_cons,List.take_succ_cons,flatV_cons,show (k+1)*3=k*3+1+1+1 by omega]
   simp only [List.take_succ_cons,ih k]
theorem flatV_dropR (l:List Ver):∀ k,(flatV l).drop (k*3)=flatV (l.drop k):=by
 induction l with
 | nil=>intro k;simp [flatV]
 | cons y r ih =>
  intro k
  cases k with
  | zero=>simp [flatV]
  | succ k =>
   rw [flatV_cons,List.drop_succ_cons,show (k+1)*3=k*3+1+1+1 by omega]
   simp only [List.drop_succ_cons,ih k]
end Go.Proofs.YtaaffpolmecicabGreat
/- The contracts of slices.IndexFunc and slices.DeleteFunc at versions,and of the program's keyVersions.drop. -/
namespace Go.Proofs.YtaaffpolmecicabGreat
open Go.RowKit
set_option linter.unusedVariables false
theorem infoVerD:(Tryz.prog.info? 73).map (fun i=>(i.zero,i.size,i.bytes))=some (some (.agg #[.int .i64 0,.int .i64 0,.int .i64 0]),3,24):=by kernel_rfl
def KeysW (B g:Nat) (F:Nat→List Ver) (w:World) (e:Ending) (w':World):Prop :=
 e = .returned (.tuple #[])∧KV w' B g 95 73 F∧Below B w w'
def KeysT (B g:Nat) (T:TypeId) (pre post vs:List Value) (F:Nat→List Ver) (w:World) (e:Ending) (w':World):Prop :=
 e = .returned (.tuple #[])∧∃ vs',KVo w' B g T 73 pre post vs' F∧Frm (TouchV g vs) w w'∧∀ j b,j < 32→(vs'.getD j undef).ownBlock=some b→(∃ i,i < 32∧(vs.getD i undef).ownBlock=some b)∨w.heap.size≤b
theorem KeysT.w {B g:Nat} {vs:List Value} {F G:Nat→List Ver} {w w':World} {e:Ending} (h:KeysT B g 95 [] [] vs F w e w') (hk:KVo w B g 95 73 [] [] vs G) (hBg:B≤g):KeysW B g F w e w':=by
 obtain ⟨h1,vs',h2,h3,-⟩:=h
 refine ⟨h1,h2.kv,h3.below (by have:=hk.lt;omega) fun k hq=>?_⟩
 rcases hq with rfl | ⟨i,hi,hb⟩
 · exact hBg
 · exact (hk.kvs.lt hi hb).1
theorem slice_formV {w:World} {B:Nat} {e:TypeId} {size n:Nat} {v:Value} {xs:List Value} (h:w.ownsRow B e size v n xs):∃ a m c,v = .slice a m c:=by
 rcases h.2 with ⟨rfl,_⟩ | ⟨g,cap,cur,rfl,_⟩
 · exact ⟨_,_,_,rfl⟩
 · exact ⟨_,_,_,rfl⟩
end Go.Proofs.YtaaffpolmecicabGreat
/- The contracts of slices.Insert at versions (one element),and of the program's keyVersions.put. -/
namespace Go.Proofs.YtaaffpolmecicabGreat
open Go.RowKit
set_option linter.unusedVariables false
def InsR (B:Nat) (e0:TypeId) (v:Value) (l:List Ver) (w:World) (e:Ending) (w':World):Prop :=
 ∃ v',e = .returned v'∧w'.ownsRow B e0 3 v' l.length (flatV l)∧w.grownBy w' v.ownBlock∧(v'.ownBlock=v.ownBlock∨∀ b,v'.ownBlock=some b→w.heap.size≤b)
theorem run_overlapsV (w:World) (lb cb vb b c kA kB:Nat) (tA tB:TypeId) (hvb:vb≠b) (hsa:w.shape? vb=some (tA,kA)) (hsb:w.shape? b=some (tB,kB)) (hkB:kB≠0) (hfa:w.frozen? ⟨vb,0,none⟩=false) (hfe:w.frozen? ⟨vb,kA,none⟩=false) :
  (callFunc 190 #[.slice (some ⟨vb,0,none⟩) 1 1,.slice (some ⟨b,(c+1)*3,none⟩) lb cb]).run Tryz.prog w = .ok (.value (.bool false)) w:=by
 obtain ⟨i0,hi0,hz0,hzs,hzb⟩:=info_parts infoVerD
 have hz:∀ w,(sizeOf 73).run Tryz.prog w = .ok 3 w:=fun w=>by simp [sizeOf,typeInfo,hi0,hzs]
 rw [run_callFunc_extern Tryz.func190 (by kernel_rfl) (by kernel_rfl) (by kernel_rfl) (e:=Extern.SlicesOverlaps.overlaps #[35,35] #[4]) (by kernel_rfl),
  Lib.run_overlaps_apart w 35 4 73 Tryz.underlying35 3 hz ⟨vb,0,none⟩ ⟨b,(c+1)*3,none⟩ 1 1 lb cb hvb tA tB kA kB hsa hsb hkB hfa hfe]
 rfl
theorem splice_list (cur:Array Value) (o:Nat) (vs:List Value):(splice cur o vs).toList=cur.toList.take o++(vs++cur.toList.drop (o+vs.length)):=by simp [splice]
theorem splice_ins (cur:Array Value) (l:List Ver) (n c:Nat) (x:Ver) (hl:l.length=n) (hc:c < n) (htk:cur.toList.take (n*3)=flatV l) (hfit:(n+1)*3≤cur.size) :
  (splice (splice cur ((c+1)*3) (flatV (l.drop c))) (c*3) (celV x)).toList.take ((n+1)*3)=flatV (l.take c++x :: l.drop c):=by
 have hD:(flatV (l.drop c)).length=(n - c)*3:=by rw [flatV_len,List.length_drop,hl]
 have hT:(flatV (l.take c)).length=c*3:=by rw [flatV_len,List.length_take,hl,Nat.min_eq_left (by omega)]
 have e3:cur.toList.take (c*3)=flatV (l.take c):=by rw [← flatV_takeR,← htk,List.take_take,Nat.min_eq_left (by omega)]
 have e4:(cur.toList.take ((c+1)*3)).length=c*3+3:=by rw [List.length_take,Array.length_toList];omega
 have e5:(splice cur ((c+1)*3) (flatV (l.drop c))).toList.take (c*3)=flatV (l.take c):=by
  rw [splice_take _ _ _ _ (by omega) (by omega)];exact e3
 have e6:(splice cur ((c+1)*3) (flatV (l.drop c))).toList.drop (c*3+3)=flatV (l.drop c)++cur.toList.drop ((c+1)*3+(flatV (l.drop c)).length):=by
  rw [splice_list];exact List.drop_left' e4
 rw [splice_list,e5,show (celV x).length=3 from rfl,e6,flatV_append,show flatV (x :: l.drop c)=celV x++flatV (l.drop c) from rfl]
 have e7:(flatV (l.take c)++(celV x++flatV (l.drop c))).length=(n+1)*3:=by
  rw [List.length_append,List.length_append,hT,hD,show (celV x).length=3 from rfl];omega
 rw [← e7,show flatV (l.take c)++(celV x++(flatV (l.drop c)++cur.toList.drop ((c+1)*3+(flatV (l.drop c)).length)))=(flatV (l.take c)++(celV x++flatV (l.drop c)))++cur.toList.drop ((c+1)*3+(flatV (l.drop c)).length) by simp]
 exact List.take_left
theorem shape_row {w:World} {g:Nat} {cur:Array Value} {T:TypeId} (h:w.heap[g]? = some (.cells cur T (0,0))):w.shape? g=some (T,cur.size):=by simp [World.shape?,h]
set_option maxRecDepth 100000 in
set_option maxHeartbeats 4000000 in
theorem insertV_end (a:Option Addr) (n cap B:Nat) (l:List Ver) (x:Ver) (vb:Nat) (w:World) (ho:w.ownsRow B 73 3 (.slice a n cap) n (flatV l)) (hl:l.length=n) (hn:n≤4000000) (hv:w.heap[vb]? = some (.cells #[.int .i64 x.key,.int .i64 x.by_,.int .i64 x.val] 73 (0,0))) (hB:B≤w.heap.size) :
  Calls Tryz.prog 173 #[.slice a n cap,.int .i64 n,.slice (some ⟨vb,0,none⟩) 1 1] w (InsR B 73 (.slice a n cap) (l++[x]) w):=by
 obtain ⟨i0,hi,hz0,hz1,hz2⟩:=info_parts infoVerD
 have hnews:∀ j u,(celV x)[j]? = some u→w.cell? ((⟨vb,0,none⟩:Addr).add j)=some u:=fun j u hu=>by
  rw [show (⟨vb,0,none⟩:Addr).add j=⟨vb,j,none⟩ by unfold Addr.add;split <;> simp_all]
  rw [cell_of_row w vb j _ _ (0,0) hv,List.getElem?_toArray];exact hu
 obtain ⟨v',w',hr,h2,h3,h4,h5⟩:=run_append_own_at (P:=Tryz.prog) w B 35 35 73 i0 _ 3 24 Tryz.underlying35 hi hz0 hz1 hz2 rfl (by decide) (.slice a n cap) n (flatV l) ho ⟨vb,0,none⟩ 1 1 (celV x) rfl hnews (celV_one x) (by unfold maxLen;omega) (by omega) hB
 have HR:=Lib.hid hr
 have HF:Hid (InsR B 73 (.slice a n cap) (l++[x]) w (.returned v') w'):=Lib.hid ⟨v',rfl,by rw [List.length_append,flatV_append,hl,show flatV [x]=celV x by simp [flatV]];exact h2,h3,h5.imp id fun e b hb=>by rw [e] at hb;cases hb;exact Nat.le_refl _⟩
 have hcap:n≤cap:=by
  rcases ho.2 with ⟨h',h0⟩ | ⟨g,cap',cur,h',_,_,h6,_⟩
  · omega
  · simp only [Value.slice.injEq,true_and] at h';omega
 have hcap2:cap≤maxLen:=by
  rcases ho.2 with ⟨h',h0⟩ | ⟨g,cap',cur,h',_,_,_,h6,_⟩
  · simp only [Value.slice.injEq] at h';unfold maxLen;omega
  · simp only [Value.slice.injEq,true_and] at h';rw [h'.2];exact h6
 unfold maxLen at hcap2
 have hnil:a=none→n=0∧cap=0:=fun e=>by
  rcases ho.2 with ⟨h',h0⟩ | ⟨g,cap',cur,h',_⟩
  · simp only [Value.slice.injEq] at h';exact ⟨h0,h'.2.2⟩
  · simp only [Value.slice.injEq] at h';rw [e] at h';cases h'.1
 clear hr h2 h3 h4 h5 hi hz0 hz1 hz2 hnews
 cases a with
 | none =>
  obtain ⟨rfl,rfl⟩:=hnil rfl
  clear hcap hcap2 hnil
  go_enter Tryz.func173,Tryz.ntmps173
  go_wp2_with (first | (at_builtin;refine Lib.wpList_append_run _ rfl _ _ _ _ rfl _ _ (by rfl) (by rfl) _ _ HR.out ?_))
  go_ret
  exact HF.out
 | some ad =>
  clear hnil
  by_cases hcn:cap=n
  · subst hcn
    go_enter Tryz.func173,Tryz.ntmps173
    go_wp2_with (first | (at_builtin;refine Lib.wpList_append_run _ rfl _ _ _ _ rfl _ _ (by rfl) (by rfl) _ _ HR.out ?_))
    go_ret
    exact HF.out
  · go_enter Tryz.func173,Tryz.ntmps173
    go_wp2_with (first | (at_builtin;refine Lib.wpList_append_run _ rfl _ _ _ _ rfl _ _ (by rfl) (by rfl) _ _ HR.out ?_))
    go_ret
    exact HF.out
set_option maxRecDepth 100000 in
set_option maxHeartbeats 4000000 in
theorem insertV_room (g n cap B c:Nat) (l:List Ver) (x:Ver) (vb:Nat) (w:World) (ho:w.ownsRow B 73 3 (.slice (some ⟨g,0,none⟩) n cap) n (flatV l)) (hl:l.length=n) (hn:n≤4000000) (hv:w.heap[vb]? = some (.cells #[.int .i64 x.key,.int .i64 x.by_,.int .i64 x.val] 73 (0,0))) (hvb:vb≠g) (hc:c < n) (hroom:n+1≤cap) :
  Calls Tryz.prog 173 #[.slice (some ⟨g,0,none⟩) n cap,.int .i64 c,.slice (some ⟨vb,0,none⟩) 1 1] w (InsR B 73 (.slice (some ⟨g,0,none⟩) n cap) (l.take c++x :: l.drop c) w):=by
 obtain ⟨cur,hgB,hgc,hncap,hcap,hcs,htk⟩:=owns_cur ho
 obtain ⟨i0,hi0,hz0,hzs,hzb⟩:=info_parts infoVerD
 have hsz:(Tryz.prog.info? 73).map (·.size)=some 3:=by rw [hi0];simp [hzs]
 unfold maxLen at hcap
 have hcl:(flatV l).length=n*3:=by rw [flatV_len,hl]
 have hget:∀ j,j < n*3→cur[j]? = (flatV l)[j]?:=fun j hj=>by rw [← htk,List.getElem?_take,if_pos hj,Array.getElem?_toList]
 have hdl:(flatV (l.drop c)).length=(n - c)*3:=by rw [flatV_len,List.length_drop,hl]
 have hov:∀ lb cb,(callFunc 190 #[.slice (some ⟨vb,0,none⟩) 1 1,.slice (some ⟨g,(c+1)*3,none⟩) lb cb]).run Tryz.prog w = .ok (.value (.bool false)) w:=fun lb cb =>
  run_overlapsV w lb cb vb g c 3 cur.size _ _ hvb (shape_row hv) (shape_row hgc) (by omega) (frozen_of_row w vb 0 _ _ hv) (frozen_of_row w vb 3 _ _ hv)
 have hcp1:∀ ty dc sc,(Builtin.copy_ #[35,35] ty #[.slice (some ⟨g,(c+1)*3,none⟩) (n - c) dc,.slice (some ⟨g,c*3,none⟩) (n+1 - c) sc]).run Tryz.prog w.drew = .ok (goInt (n - c:Nat)) (w.drew.setRow g (splice cur ((c+1)*3) (flatV (l.drop c)))):=fun ty dc sc =>
  run_copy_rowS w.drew _ _ ty 73 3 g ((c+1)*3) (n - c) dc ⟨g,c*3,none⟩ (n+1 - c) sc cur _ (flatV (l.drop c)) Tryz.underlying35 hsz hgc (n - c) (by simp only [Nat.min_def];split <;> omega) hdl
   (fun j v hj=>by
    have hj2:j < (n - c)*3:=by rw [← hdl];exact (List.getElem?_eq_some_iff.1 hj).1
    rw [show (⟨g,c*3,none⟩:Addr).add j=⟨g,c*3+j,none⟩ by unfold Addr.add;split <;> simp_all]
    rw [show w.drew.cell? ⟨g,c*3+j,none⟩=w.cell? ⟨g,c*3+j,none⟩ from rfl,cell_of_row w g (c*3+j) cur _ (0,0) hgc,hget _ (by omega)]
    rwa [← flatV_dropR,List.getElem?_drop] at hj)
   (by rw [hdl];omega) (flatV_one _)
 obtain ⟨ROW,hROW⟩:∃ ROW,ROW=splice cur ((c+1)*3) (flatV (l.drop c)):=⟨_,rfl⟩
 have hRs:ROW.size=cap*3:=by rw [hROW,splice_size _ _ _ (by rw [hdl];omega),hcs]
 have hg1:(w.drew.setRow g ROW).heap[g]? = some (.cells ROW 73 (0,0)):=setRow_heap w.drew g cur ROW _ _ hgc
 have hcp2:∀ ty dc,(Builtin.copy_ #[35,35] ty #[.slice (some ⟨g,c*3,none⟩) (n+1 - c) dc,.slice (some ⟨vb,0,none⟩) 1 1]).run Tryz.prog (w.drew.setRow g ROW) = .ok (goInt (1:Nat)) ((w.drew.setRow g ROW).setRow g (splice ROW (c*3) (celV x))):=fun ty dc =>
  run_copy_rowS (w.drew.setRow g ROW) _ _ ty 73 3 g (c*3) (n+1 - c) dc ⟨vb,0,none⟩ 1 1 ROW _ (celV x) Tryz.underlying35 hsz hg1 1 (by simp only [Nat.min_def];split <;> omega) rfl
   (fun j v hj=>by
    rw [show (⟨vb,0,none⟩:Addr).add j=⟨vb,j,none⟩ by unfold Addr.add;split <;> simp_all]
    rw [cell_of_row (w.drew.setRow g ROW) vb j _ _ (0,0) ((setRow_other w.drew g vb ROW hvb).trans hv),List.getElem?_toArray];exact hj)
   (by rw [hRs];show c*3+3≤cap*3;omega) (celV_one x)
 have hfin:InsR B 73 (.slice (some ⟨g,0,none⟩) n cap) (l.take c++x :: l.drop c) w (.returned (.slice (some ⟨g,0,none⟩) (n+1) cap)) ((w.drew.setRow g ROW).setRow g (splice ROW (c*3) (celV x))):=by
  have hll:(l.take c++x :: l.drop c).length=n+1:=by simp;omega
  refine ⟨_,rfl,⟨by rw [flatV_len],.inr ⟨g,cap,_,by rw [hll],hgB,setRow_heap _ g ROW _ _ _ hg1,by omega,by unfold maxLen;omega,?_,?_⟩⟩,?_,.inl rfl⟩
  · rw [splice_size _ _ _ (by rw [hRs];show c*3+3≤cap*3;omega),hRs]
  · rw [hll,hROW];exact splice_ins cur l n c x hl hc htk (by omega)
  · exact (show w.grownBy w.drew (some g) from ⟨rfl,rfl,rfl,Nat.le_refl _,fun _ _ _=>rfl⟩).trans ((setRow_grown _ g ROW).trans (setRow_grown _ g _))
 have HFIN:=Lib.hid hfin
 obtain ⟨R2,hR2⟩:∃ R2,R2=splice ROW (c*3) (celV x):=⟨_,rfl⟩
 rw [← hROW] at hcp1
 rw [← hR2] at hcp2 HFIN
 have hw1:IntKind.i64.wrap ((c:Int)+1)=(c:Int)+1:=by rw [IntKind.wrap_i64];omega
 have hw2:IntKind.i64.wrap ((n:Int)+1)=(n:Int)+1:=by rw [IntKind.wrap_i64];omega
 have hz2:((c:Int) == (n:Int))=false:=by rw [beq_eq_false_iff_ne];omega
 have hb1:(0:Int)≤(c:Int)+1:=by omega
 have hin:c≤n:=by omega
 have htn:((c:Int)+1).toNat=c+1:=by omega
 have hb2:¬ (cap=c+1):=by omega
 have hb3:(c:Int)≤(n:Int)+1:=by omega
 have hb4:¬ (cap=c):=by omega
 have hb5:¬ ((cap:Int) < (n:Int)+1):=by omega
 clear hROW hR2 hfin hRs hg1 hdl hget hcl hsz hi0 hz0 hzs hzb htk hcs hgc hv
 go_enter Tryz.func173,Tryz.ntmps173
 have mixed : Tryz.prog.follows .mixedOrders=true:=by kernel_rfl
 go_wp2_with (simp only [hov])
 go_region_law_o (refine step_copy_runI rfl _ _ 35 35 rfl _ _ (by simp [Act.eval,Act.put]) (by simp [Act.eval,Act.put]) (hcp1 _ _ _) ?_)
 go_wp2_with (at_builtin;refine wpList_copy_runI _ rfl _ _ 35 35 rfl _ _ (by rfl) (by rfl) (hcp2 _ _) ?_)
 go_ret
 exact HFIN.out
theorem splice_new (ROW:Array Value) (l:List Ver) (n c:Nat) (x:Ver) (hl:l.length=n) (hc:c < n) (h0:ROW.toList.take (c*3)=flatV (l.take c)) (hfit:(n+1)*3≤ROW.size) :
  (splice (splice ROW (c*3) (celV x)) ((c+1)*3) (flatV (l.drop c))).toList.take ((n+1)*3)=flatV (l.take c++x :: l.drop c):=by
 have hD:(flatV (l.drop c)).length=(n - c)*3:=by rw [flatV_len,List.length_drop,hl]
 have hT:(flatV (l.take c)).length=c*3:=by rw [flatV_len,List.length_take,hl,Nat.min_eq_left (by omega)]
 have e5:(splice ROW (c*3) (celV x)).toList.take ((c+1)*3)=flatV (l.take c)++celV x:=by
  rw [splice_list,h0,← List.append_assoc]
  exact List.take_left' (by rw [List.length_append,hT];show c*3+3=(c+1)*3;omega)
 rw [splice_list,e5,flatV_append,show flatV (x :: l.drop c)=celV x++flatV (l.drop c) from rfl]
 have e7:(flatV (l.take c)++(celV x++flatV (l.drop c))).length=(n+1)*3:=by
  rw [List.length_append,List.length_append,hT,hD,show (celV x).length=3 from rfl];omega
 rw [List.append_assoc]
 rw [show flatV (l.take c)++(celV x++(flatV (l.drop c)++(splice ROW (c*3) (celV x)).toList.drop ((c+1)*3+(flatV (l.drop c)).length)))=(flatV (l.take c)++(celV x++flatV (l.drop c)))++(splice ROW (c*3) (celV x)).toList.drop ((c+1)*3+(flatV (l.drop c)).length) by simp]
 exact List.take_left' e7
set_option maxRecDepth 100000 in
set_option maxHeartbeats 4000000 in
theorem insertV_grow (g n cap B c:Nat) (l:List Ver) (x:Ver) (vb:Nat) (w:World) (ho:w.ownsRow B 73 3 (.slice (some ⟨g,0,none⟩) n cap) n (flatV l)) (hl:l.length=n) (hn:n≤4000000) (hv:w.heap[vb]? = some (.cells #[.int .i64 x.key,.int .i64 x.by_,.int .i64 x.val] 73 (0,0))) (hc:c < n) (hroom:cap < n+1) (hB:B≤w.heap.size) :
  Calls Tryz.prog 173 #[.slice (some ⟨g,0,none⟩) n cap,.int .i64 c,.slice (some ⟨vb,0,none⟩) 1 1] w (InsR B 73 (.slice (some ⟨g,0,none⟩) n cap) (l.take c++x :: l.drop c) w):=by
 obtain ⟨cur,hgB,hgc,hncap,hcap,hcs,htk⟩:=owns_cur ho
 obtain ⟨i0,hi0,hz0,hzs,hzb⟩:=info_parts infoVerD
 have hsz:(Tryz.prog.info? 73).map (·.size)=some 3:=by rw [hi0];simp [hzs]
 unfold maxLen at hcap
 obtain rfl:cap=n:=by omega
 have hcl:(flatV l).length=cap*3:=by rw [flatV_len,hl]
 have hget:∀ j,j < cap*3→cur[j]? = (flatV l)[j]?:=fun j hj=>by rw [← htk,List.getElem?_take,if_pos hj,Array.getElem?_toList]
 have hdl:(flatV (l.drop c)).length=(cap - c)*3:=by rw [flatV_len,List.length_drop,hl]
 have htl:(flatV (l.take c)).length=c*3:=by rw [flatV_len,List.length_take,hl,Nat.min_eq_left (by omega)]
 have hgw:g < w.heap.size:=(Array.getElem?_eq_some_iff.1 hgc).1
 have hvw:vb < w.heap.size:=(Array.getElem?_eq_some_iff.1 hv).1
 have hik:c+(cap+1 - c)=cap+1:=by omega
 have hold:(Builtin.firstCells i0.size c (.slice (some ⟨g,0,none⟩) c cap)).run Tryz.prog w.drew = .ok (flatV (l.take c)).toArray w.drew:=by
  rw [hzs]
  exact run_firstCells_some w.drew 3 c ⟨g,0,none⟩ c cap (flatV (l.take c)) htl (fun j v hj=>by
   have hj2:j < c*3:=by rw [← htl];exact (List.getElem?_eq_some_iff.1 hj).1
   rw [show (⟨g,0,none⟩:Addr).add j=⟨g,j,none⟩ by unfold Addr.add;split <;> simp_all]
   rw [show w.drew.cell? ⟨g,j,none⟩=w.cell? ⟨g,j,none⟩ from rfl,cell_of_row w g j cur _ (0,0) hgc,hget _ (by omega)]
   rw [← flatV_takeR,List.getElem?_take,if_pos hj2] at hj
   exact hj)
 have hrz:∀ ty,(Builtin.append_ #[35,3] ty #[.slice (some ⟨g,0,none⟩) c cap,.int .i64 ((cap:Int)+1 - (c:Int))]).run Tryz.prog w =
   .ok (.slice (some ⟨w.heap.size,0,none⟩) (cap+1) (grownCap w (cap+1) cap 73)) (w.drew.alloc (.cells ((flatV (l.take c)).toArray++Builtin.zeroCells (Value.agg #[.int .i64 0,.int .i64 0,.int .i64 0]).cells (cap+1 - c)++Builtin.zeroCells (Value.agg #[.int .i64 0,.int .i64 0,.int .i64 0]).cells (grownCap w (cap+1) cap 73 - (cap+1))) 73)):=fun ty=>by
  have h:=Lib.run_append_grow_zeros w 35 3 ty 73 i0 _ .i64 .i64 Tryz.underlying35 Tryz.underlying3 hi0 hz0 (some ⟨g,0,none⟩) c cap (flatV (l.take c)) hold (cap+1 - c) (by omega) (by omega) (by omega) (by omega) (by rw [hzb];omega) (by rw [hzb,hik];exact growslice_fits (by omega) (by omega))
  rw [hik] at h
  rw [show (cap:Int)+1 - (c:Int)=((cap+1 - c:Nat):Int) by omega]
  exact h
 obtain ⟨G,hG⟩:∃ G,G=grownCap w (cap+1) cap 73:=⟨_,rfl⟩
 have hGn:cap+1≤G:=by rw [hG];exact grownCap_ge w _ _ _
 have hGm:G≤maxLen:=by rw [hG];exact grownCap_le_maxLen w (cap+1) cap 73 (by unfold maxLen;omega)
 obtain ⟨ROW,hROW⟩:∃ ROW:Array Value,ROW=(flatV (l.take c)).toArray++Builtin.zeroCells (Value.agg #[.int .i64 0,.int .i64 0,.int .i64 0]).cells (cap+1 - c)++Builtin.zeroCells (Value.agg #[.int .i64 0,.int .i64 0,.int .i64 0]).cells (G - (cap+1)):=⟨_,rfl⟩
 rw [← hG] at hrz
 rw [← hROW] at hrz
 have hz3:(Value.agg #[.int .i64 0,.int .i64 0,.int .i64 0]).cells.size=3:=rfl
 have hRs:ROW.size=G*3:=by
  rw [hROW,Array.size_append,Array.size_append,size_zeroCells,size_zeroCells,List.size_toArray,htl,hz3];omega
 have hRt:ROW.toList.take (c*3)=flatV (l.take c):=by
  rw [hROW,Array.toList_append,Array.toList_append,List.append_assoc]
  exact List.take_left' htl
 obtain ⟨N,hN⟩:∃ N,N=w.heap.size:=⟨_,rfl⟩
 have hnew:(w.alloc (.cells ROW 73)).heap[N]? = some (.cells ROW 73 (0,0)):=by rw [hN];exact heap_alloc_new w _
 have holdg:(w.alloc (.cells ROW 73)).heap[g]? = some (.cells cur 73 (0,0)):=(Below.heap_alloc w _ g hgw).trans hgc
 have holdv:(w.alloc (.cells ROW 73)).heap[vb]? = some (.cells #[.int .i64 x.key,.int .i64 x.by_,.int .i64 x.val] 73 (0,0)):=(Below.heap_alloc w _ vb hvw).trans hv
 have hcpA:∀ W:World,W.heap=(w.alloc (.cells ROW 73)).heap→∀ ty dc,(Builtin.copy_ #[35,35] ty #[.slice (some ⟨N,c*3,none⟩) (cap+1 - c) dc,.slice (some ⟨vb,0,none⟩) 1 1]).run Tryz.prog W = .ok (goInt (1:Nat)) (W.setRow N (splice ROW (c*3) (celV x))):=fun W hW ty dc =>
  run_copy_rowS W _ _ ty 73 3 N (c*3) (cap+1 - c) dc ⟨vb,0,none⟩ 1 1 ROW _ (celV x) Tryz.underlying35 hsz (by rw [hW];exact hnew) 1 (by simp only [Nat.min_def];split <;> omega) rfl
   (fun j v hj=>by
    rw [show (⟨vb,0,none⟩:Addr).add j=⟨vb,j,none⟩ by unfold Addr.add;split <;> simp_all]
    rw [cell_of_row W vb j _ _ (0,0) (by rw [hW];exact holdv),List.getElem?_toArray];exact hj)
   (by rw [hRs];show c*3+3≤G*3;omega) (celV_one x)
 obtain ⟨R1,hR1⟩:∃ R1,R1=splice ROW (c*3) (celV x):=⟨_,rfl⟩
 have hR1s:R1.size=G*3:=by rw [hR1,splice_size _ _ _ (by rw [hRs];show c*3+3≤G*3;omega),hRs]
 have hgN:g≠N:=by omega
 have hcpB:∀ W:World,W.heap=((w.alloc (.cells ROW 73)).setRow N R1).heap→∀ ty dc sc,(Builtin.copy_ #[35,35] ty #[.slice (some ⟨N,(c+1)*3,none⟩) (cap - c) dc,.slice (some ⟨g,c*3,none⟩) (cap - c) sc]).run Tryz.prog W = .ok (goInt (cap - c:Nat)) (W.setRow N (splice R1 ((c+1)*3) (flatV (l.drop c)))):=fun W hW ty dc sc =>
  run_copy_rowS W _ _ ty 73 3 N ((c+1)*3) (cap - c) dc ⟨g,c*3,none⟩ (cap - c) sc R1 _ (flatV (l.drop c)) Tryz.underlying35 hsz (by rw [hW];exact setRow_heap _ N ROW R1 _ _ hnew) (cap - c) (by simp only [Nat.min_def];split <;> omega) hdl
   (fun j v hj=>by
    have hj2:j < (cap - c)*3:=by rw [← hdl];exact (List.getElem?_eq_some_iff.1 hj).1
    rw [show (⟨g,c*3,none⟩:Addr).add j=⟨g,c*3+j,none⟩ by unfold Addr.add;split <;> simp_all]
    rw [cell_of_row W g (c*3+j) cur _ (0,0) (by rw [hW];exact (setRow_other _ N g R1 hgN).trans holdg),hget _ (by omega)]
    rwa [← flatV_dropR,List.getElem?_drop] at hj)
   (by rw [hdl,hR1s];omega) (flatV_one _)
 obtain ⟨R2,hR2⟩:∃ R2,R2=splice R1 ((c+1)*3) (flatV (l.drop c)):=⟨_,rfl⟩
 have hR2s:R2.size=G*3:=by rw [hR2,splice_size _ _ _ (by rw [hdl,hR1s];omega),hR1s]
 have hll:(l.take c++x :: l.drop c).length=cap+1:=by simp;omega
 have HFIN:Hid (∀ W:World,W.heap=(((w.alloc (.cells ROW 73)).setRow N R1).setRow N R2).heap→W.os=w.os→W.tape=w.tape→W.output=w.output→InsR B 73 (.slice (some ⟨g,0,none⟩) cap cap) (l.take c++x :: l.drop c) w (.returned (.slice (some ⟨N,0,none⟩) (cap+1) G)) W):=Lib.hid fun W hW h1 h2 h3=>by
  refine ⟨_,rfl,⟨by rw [flatV_len],.inr ⟨N,G,R2,by rw [hll],by omega,by rw [hW];exact setRow_heap _ N R1 R2 _ _ (setRow_heap _ N ROW R1 _ _ hnew),by omega,hGm,hR2s,?_⟩⟩,⟨h1,h2,h3,?_,fun k hk _=>?_⟩,.inr fun b hb=>?_⟩
  · rw [hll,hR2,hR1];exact splice_new ROW l cap c x hl hc hRt (by rw [hRs];omega)
  · rw [hW];simp
  · rw [hW]
    have hkN:k≠N:=by omega
    exact (setRow_other _ N k R2 hkN).trans ((setRow_other _ N k R1 hkN).trans (Below.heap_alloc w _ k hk))
  · simp only [Value.ownBlock,Option.some.injEq] at hb;omega
 rw [← hR1] at hcpA
 rw [← hR2] at hcpB
 have hw1:IntKind.i64.wrap ((c:Int)+1)=(c:Int)+1:=by rw [IntKind.wrap_i64];omega
 have hw2:IntKind.i64.wrap ((cap:Int)+1)=(cap:Int)+1:=by rw [IntKind.wrap_i64];omega
 have hw3:IntKind.i64.wrap ((cap:Int)+1 - (c:Int))=(cap:Int)+1 - (c:Int):=by rw [IntKind.wrap_i64];omega
 have hz2:((c:Int) == (cap:Int))=false:=by rw [beq_eq_false_iff_ne];omega
 have hb1:(0:Int)≤(c:Int)+1:=by omega
 have hin:c≤cap:=by omega
 have htn:((c:Int)+1).toNat=c+1:=by omega
 have hb3:(c:Int)≤(cap:Int):=by omega
 have hGi:¬ (G=c):=by omega
 have hGim:¬ (G=c+1):=by omega
 have hci:¬ (cap=c):=by omega
 have mixed : Tryz.prog.follows .mixedOrders=true:=by kernel_rfl
 rw [← hN] at hrz
 clear hROW hR1 hR2 hRs hR1s hR2s hRt hnew holdg holdv hdl htl hget hcl hsz hi0 hz0 hzs hzb htk hcs hgc hv hold hG hN hik hll hz3 hGm
 go_enter Tryz.func173,Tryz.ntmps173
 have hcpA':=fun ty dc=>hcpA (w.alloc (.cells ROW 73)).drew rfl ty dc
 have hcpB':=fun ty dc sc=>hcpB ((w.alloc (.cells ROW 73)).drew.setRow N R1).drew rfl ty dc sc
 clear hcpA hcpB
 go_wp2_with (first
  | (at_builtin;refine Lib.wpList_append_run _ rfl _ _ _ _ rfl _ _ (by rfl) (by rfl) _ _ (hrz _) ?_))
 go_region_law_o (refine step_copy_runI rfl _ _ 35 35 rfl _ _ (by simp [Act.eval,Act.put]) (by simp [Act.eval,Act.put]) (hcpB' _ _ _) ?_)
 go_wp2
 go_ret
 exact HFIN.out _ rfl rfl rfl rfl
theorem insertV_any (a:Option Addr) (n cap B c:Nat) (l:List Ver) (x:Ver) (vb:Nat) (w:World) (ho:w.ownsRow B 73 3 (.slice a n cap) n (flatV l)) (hl:l.length=n) (hn:n≤4000000) (hv:w.heap[vb]? = some (.cells #[.int .i64 x.key,.int .i64 x.by_,.int .i64 x.val] 73 (0,0))) (hne:(Value.slice a n cap).ownBlock≠some vb) (hc:c≤n) (hB:B≤w.heap.size) :
  Calls Tryz.prog 173 #[.slice a n cap,.int .i64 c,.slice (some ⟨vb,0,none⟩) 1 1] w (InsR B 73 (.slice a n cap) (l.take c++x :: l.drop c) w):=by
 by_cases hcn:c=n
 · subst hcn
   rw [show l.take c++x :: l.drop c=l++[x] by rw [List.take_of_length_le (by omega),List.drop_of_length_le (by omega)]]
   exact insertV_end a c cap B l x vb w ho hl hn hv hB
 · obtain ⟨g,hg⟩:∃ g,a=some ⟨g,0,none⟩:=by
    rcases ho.2 with ⟨h',h0⟩ | ⟨g,cap',cur,h',_⟩
    · omega
    · simp only [Value.slice.injEq] at h';exact ⟨g,h'.1⟩
   subst hg
   by_cases hr:n+1≤cap
   · exact insertV_room g n cap B c l x vb w ho hl hn hv (fun e=>hne (by simp [Value.ownBlock,e])) (by omega) hr
   · exact insertV_grow g n cap B c l x vb w ho hl hn hv (by omega) (by omega) hB
end Go.Proofs.YtaaffpolmecicabGreat
/- The contract of the program's keyVersions.put. -/
namespace Go.Proofs.YtaaffpolmecicabGreat
open Go.RowKit
set_option linter.unusedVariables false
set_option maxRecDepth 100000 in
set_option maxHeartbeats 8000000 in
theorem put_o (g B o k:Nat) (T:TypeId) (pre post vs:List Value) (F:Nat→List Ver) (v:Ver) (w:World) (h:KVo w B g T 73 pre post vs F) (hpo:pre.length=o) (hK:KOk F) (hBw:B≤w.heap.size) (hk:k < 32) (hvk:v.key=(k:Int)) :
  Calls Tryz.prog 144 #[.pointer (some ⟨g,o,none⟩),.agg #[.int .i64 v.key,.int .i64 v.by_,.int .i64 v.val]] w (KeysT B g T pre post vs (insK F k v) w):=by
 have HPO:=Lib.hid hpo;clear hpo
 have HCUT:=Lib.hid (fun c (hc:CutB (F k) v.by_ c)=>insV_cut hK hk hvk hc)
 have hgl:=h.lt
 have hb1:=(Below.refl w.heap.size w).alloc (Nat.le_refl _) (.cells #[.int .i64 v.key,.int .i64 v.by_,.int .i64 v.val] 73)
 have HKO:=Lib.hid h
 obtain ⟨hv1,hv2,hv3⟩:=h
 have hown:=hv2.own k hk
 have hlen:=catK_len hK hk
 obtain ⟨sa,sc,hvs,hrow,hz,-⟩:=hv2.row hK hk
 have HS:=Lib.hid (hK k hk).2
 have hneg:=hv3 k hk
 rw [hvs] at hown hneg
 have HVL:Hid (k < vs.length):=Lib.hid (by rw [hv2.len];exact hk)
 have HFIN:Hid (∀ (c:Nat) (v':Value) (w':World),CutB (F k) v.by_ c→w'.ownsRow B 73 3 v' ((F k).take c++v :: (F k).drop c).length (flatV ((F k).take c++v :: (F k).drop c))→w.grownBy w' (Value.slice sa (F k).length sc).ownBlock→(v'.ownBlock=(Value.slice sa (F k).length sc).ownBlock∨∀ b,v'.ownBlock=some b→w.heap.size≤b) →
   KeysT B g T pre post vs (insK F k v) w (.returned (.tuple #[])) (w'.setCell ⟨g,o+k,none⟩ v')):=Lib.hid fun c v' w' hc ho hg hloc=>by
  have hs:=HKO.out.store HPO.out hk ho (by rw [hvs];exact hg) (by rw [hvs];exact hloc)
  refine ⟨rfl,_,hs.1.congr fun j hj=>?_,hs.2.1,hs.2.2⟩
  by_cases e:j=k
  · subst e;rw [if_pos rfl,insK_at,HCUT.out c hc]
  · rw [if_neg e,insK_ne F v e]
 have hA1:=hv1.after hb1
 have hown1:=owns_below hown hb1
 have hrow1:=hrow.below hb1
 have hcell1:=hA1.cellO HPO.out HVL.out
 rw [hvs] at hcell1
 obtain ⟨x,y,z⟩:=v
 simp only at hvk hb1 HFIN HCUT hA1 hown1 hrow1 hcell1
 subst hvk
 have m1:(w.alloc (.cells #[.int .i64 (k:Int),.int .i64 y,.int .i64 z] 73)).cell? ⟨w.heap.size,0,none⟩=some (.int .i64 (k:Int)):=by simp [go_sem]
 have m2:(w.alloc (.cells #[.int .i64 (k:Int),.int .i64 y,.int .i64 z] 73)).cell? ⟨w.heap.size,1,none⟩=some (.int .i64 y):=by simp [go_sem]
 have m3:(w.alloc (.cells #[.int .i64 (k:Int),.int .i64 y,.int .i64 z] 73)).cell? ⟨w.heap.size,2,none⟩=some (.int .i64 z):=by simp [go_sem]
 have hE1:w.heap.size < (w.alloc (.cells #[.int .i64 (k:Int),.int .i64 y,.int .i64 z] 73)).heap.size:=by simp
 have hsz:(w.alloc (.cells #[.int .i64 (k:Int),.int .i64 y,.int .i64 z] 73)).heap.size=w.heap.size+1:=by simp
 obtain ⟨l,hl⟩:∃ l,l=F k:=⟨_,rfl⟩
 rw [← hl] at hown1 hrow1 hlen HS HFIN hneg hcell1
 have hlt0:∀ b,(Value.slice sa l.length sc).ownBlock=some b→b < w.heap.size:=fun b hb=>(hown.lt b (by rw [← hl];exact hb)).2
 clear hown hrow hz hvs hv1 hv2 hv3 hl HCUT hK HKO
 obtain ⟨n,hn⟩:∃ n,n=l.length:=⟨_,rfl⟩
 rw [← hn] at hown1 hrow1 hlen HFIN hneg hlt0 hcell1
 have HN:=Lib.hid hn.symm
 clear hn
 have q1:(0:Int)≤(k:Int):=by omega
 have q2:(k:Int) < 32:=by omega
 go_enter Tryz.func144,Tryz.ntmps144
 go_upto_region 1 with (fail)
 go_quiet (fail)
 go_upto_region 2 with (fail)
 have hd:=below_drewN' (Below.refl (w.alloc (.cells #[.int .i64 (k:Int),.int .i64 y,.int .i64 z] 73)).heap.size (w.alloc (.cells #[.int .i64 (k:Int),.int .i64 y,.int .i64 z] 73))) nq
 have hb2:=hb1.trans (hd.mono hb1.size)
 have n1:=below_clV hd hE1 m1
 have n2:=below_clV hd hE1 m2
 have n3:=below_clV hd hE1 m3
 have hA2:=hA1.after hd
 have hown2:=owns_below hown1 hd
 have hrow2:=hrow1.below hd
 obtain ⟨w2,hw2⟩:∃ w2,w2=(w.alloc (.cells #[.int .i64 (k:Int),.int .i64 y,.int .i64 z] 73)).drewN nq:=⟨_,rfl⟩
 rw [← hw2] at hb2 n1 n2 n3 hA2 hown2 hrow2 ⊢
 have hE2:w.heap.size < w2.heap.size:=by have:=hd.size;rw [← hw2] at this;omega
 obtain ⟨E,hE⟩:∃ E,E=w.heap.size:=⟨_,rfl⟩
 rw [← hE] at n1 n2 n3 hE2 hlt0 ⊢
 have HB2:=Lib.hid hb2
 have hgE:g < E:=by omega
 have hBE:B≤E:=by omega
 have HE:=Lib.hid hE
 clear hw2 hd hb1 m1 m2 m3 hE1 hsz hA1 hown1 hrow1 hcell1 hE hb2 hgl hBw
 have HST:Hid (∀ W,Below w2.heap.size w2 W→W.cell? ⟨E,0,none⟩=some (.int .i64 (k:Int))∧W.cell? ⟨E,1,none⟩=some (.int .i64 y)∧W.cell? ⟨E,2,none⟩=some (.int .i64 z)∧RowV W sa n l∧W.ownsRow B 73 3 (.slice sa n sc) n (flatV l)∧ArrV W g T (pre++vs++post)) :=
  Lib.hid fun W hb=>⟨below_clV hb hE2 n1,below_clV hb hE2 n2,below_clV hb hE2 n3,hrow2.below hb,owns_below hown2 hb,hA2.after hb⟩
 have hbl:=(Below.refl w2.heap.size w2).alloc (Nat.le_refl _) (.cells #[.int .i64 (k:Int),.int .i64 y,.int .i64 z] 73)
 have hbd:Below w2.heap.size w2 (w2.alloc (.cells #[.int .i64 (k:Int),.int .i64 y,.int .i64 z] 73)).drew:=hbl.drew
 have a1:∀ o,(w2.alloc o).cell? ⟨E,0,none⟩=some (.int .i64 (k:Int)):=fun o=>(HST.out _ ((Below.refl w2.heap.size w2).alloc (Nat.le_refl _) o)).1
 have a2:∀ o,(w2.alloc o).cell? ⟨E,1,none⟩=some (.int .i64 y):=fun o=>(HST.out _ ((Below.refl w2.heap.size w2).alloc (Nat.le_refl _) o)).2.1
 have hrowD:RowV w2.drew sa n l:=hrow2
 have hrowA:RowV (w2.alloc (.cells #[.int .i64 (k:Int),.int .i64 y,.int .i64 z] 73)).drew sa n l:=(HST.out _ hbd).2.2.2.1
 have hBw2:B≤w2.heap.size:=by omega
 have hn4:n≤4000000:=by omega
 have hsz2:(w2.alloc (.cells #[.int .i64 (k:Int),.int .i64 y,.int .i64 z] 73)).heap.size=w2.heap.size+1:=by simp
 have HLIT:Hid (∀ W:World,Below (w2.heap.size+1) (w2.alloc (.cells #[.int .i64 (k:Int),.int .i64 y,.int .i64 z] 73)).drew W→W.heap[w2.heap.size]? = some (.cells #[.int .i64 (k:Int),.int .i64 y,.int .i64 z] 73)):=Lib.hid fun W hb=>(hb.block w2.heap.size (Nat.lt_succ_self _)).trans (heap_alloc_new w2 _)
 go_region_law (first
  | (go_simp;go_at_call 146;(with_reducible refine (countBefore_impl sa n sc l y w2.drew hrowD (by omega) HS.out).mono ?_);rintro e w3 ⟨c,rfl,hc,hb'⟩;have hb3:Below w2.heap.size w2 w3:=(Below.refl _ w2).drew.trans hb';obtain ⟨p1,p2,p3,p4,p5,p6⟩:=HST.out w3 hb3;have hcl:c≤n:=Nat.le_trans hc.1 (Nat.le_of_eq HN.out);have hB3:B≤w3.heap.size:=Nat.le_trans hBw2 hb3.size;have hbA:=(Below.refl w3.heap.size w3).alloc (Nat.le_refl _) (.cells #[.int .i64 (k:Int),.int .i64 y,.int .i64 z] 73);have pa1:∀ o,(w3.alloc o).cell? ⟨E,0,none⟩=some (.int .i64 (k:Int)):=fun o=>below_clV ((Below.refl w3.heap.size w3).alloc (Nat.le_refl _) o) (Nat.lt_of_lt_of_le hE2 hb3.size) p1;have pa2:∀ o,(w3.alloc o).cell? ⟨E,1,none⟩=some (.int .i64 y):=fun o=>below_clV ((Below.refl w3.heap.size w3).alloc (Nat.le_refl _) o) (Nat.lt_of_lt_of_le hE2 hb3.size) p2;have HIC:=Lib.hid (insertV_any sa n sc B c l ⟨k,y,z⟩ w3.heap.size (w3.alloc (.cells #[.int .i64 (k:Int),.int .i64 y,.int .i64 z] 73)) (owns_below p5 hbA) HN.out hn4 (heap_alloc_new w3 _) (fun e=>Nat.lt_irrefl _ (p5.lt _ e).2) hcl (Nat.le_trans hB3 hbA.size));have HGG:Hid (∀ W row,(w3.alloc (.cells #[.int .i64 (k:Int),.int .i64 y,.int .i64 z] 73)).grownBy W row→w3.grownBy W row):=Lib.hid (fun W row h=>(World.grownBy_alloc w3 (.cells #[.int .i64 (k:Int),.int .i64 y,.int .i64 z] 73) row).trans h);have HSZ:Hid (w3.heap.size≤(w3.alloc (.cells #[.int .i64 (k:Int),.int .i64 y,.int .i64 z] 73)).heap.size):=Lib.hid hbA.size)
  | (go_simp;go_at_call 146;(with_reducible refine (countBefore_impl sa n sc l y (w2.alloc (.cells #[.int .i64 (k:Int),.int .i64 y,.int .i64 z] 73)).drew hrowA (by omega) HS.out).mono ?_);rintro e w3 ⟨c,rfl,hc,hb'⟩;have hvB:=HLIT.out w3 (hb'.mono (Nat.le_of_eq hsz2.symm));have hb3:Below w2.heap.size w2 w3:=hbd.trans (hb'.mono hbl.size);obtain ⟨p1,p2,p3,p4,p5,p6⟩:=HST.out w3 hb3;have hcl:c≤n:=Nat.le_trans hc.1 (Nat.le_of_eq HN.out);have hB3:B≤w3.heap.size:=Nat.le_trans hBw2 hb3.size;have hbA:=(Below.refl w3.heap.size w3).alloc (Nat.le_refl _) (.cells #[.int .i64 (k:Int),.int .i64 y,.int .i64 z] 73);have pa1:∀ o,(w3.alloc o).cell? ⟨E,0,none⟩=some (.int .i64 (k:Int)):=fun o=>below_clV ((Below.refl w3.heap.size w3).alloc (Nat.le_refl _) o) (Nat.lt_of_lt_of_le hE2 hb3.size) p1;have pa2:∀ o,(w3.alloc o).cell? ⟨E,1,none⟩=some (.int .i64 y):=fun o=>below_clV ((Below.refl w3.heap.size w3).alloc (Nat.le_refl _) o) (Nat.lt_of_lt_of_le hE2 hb3.size) p2;have HIC:=Lib.hid (insertV_any sa n sc B c l ⟨k,y,z⟩ w2.heap.size w3 p5 HN.out hn4 hvB (fun e=>Nat.lt_irrefl _ (hown2.lt _ e).2) hcl hB3);have HGG:Hid (∀ W row,w3.grownBy W row→w3.grownBy W row):=Lib.hid (fun W row h=>h);have HSZ:Hid (w3.heap.size≤w3.heap.size):=Lib.hid (Nat.le_refl _))
  | (go_simp;go_at_call 173;(with_reducible refine HIC.out.mono ?_);rintro e w5 ⟨v',rfl,ho',hg',hloc'⟩;obtain ⟨pa,pn,pc,rfl⟩:=slice_formV ho';have hgg:w3.grownBy w5 (Value.slice sa n sc).ownBlock:=HGG.out _ _ hg';have hA5:=p6.grown hgg (fun e=>hneg e.symm);have hc5:=hA5.cellO HPO.out HVL.out;have hf5:=hA5.frozen (o+k);have he5:w5.cell? ⟨E,0,none⟩=some (.int .i64 (k:Int)):=hgg.cell p1 (fun e=>Nat.lt_irrefl _ (hlt0 E e.symm));have hl5:∀ b,(Value.slice pa pn pc).ownBlock=some b→(Value.slice pa pn pc).ownBlock=(Value.slice sa n sc).ownBlock∨w3.heap.size≤b:=fun b hb=>hloc'.elim Or.inl (fun h=>Or.inr (Nat.le_trans HSZ.out (h b hb)))))
 all_goals
  have HF:=HFIN.out c (.slice pa pn pc) w5 hc ho' ((Below.grownBy HB2.out _).trans ((Below.grownBy hb3 _).trans hgg)) (by
   by_cases e:(Value.slice pa pn pc).ownBlock=(Value.slice sa n sc).ownBlock
   · exact .inl e
   · refine .inr fun b hb=>?_
     rcases hl5 b hb with h | h
     · exact absurd h e
     · have:=HB2.out.size
       have:=hb3.size
       omega)
  have HFF:=Lib.hid HF
  clear HF hl5 he5 hf5 hc5 hA5 hgg hloc' hg' ho' HFIN
  go_wp2
  refine bodyPost_ret (v:=.tuple #[]) ?_ rfl HFF.out
  simp [results,Tryz.results144]
end Go.Proofs.YtaaffpolmecicabGreat
