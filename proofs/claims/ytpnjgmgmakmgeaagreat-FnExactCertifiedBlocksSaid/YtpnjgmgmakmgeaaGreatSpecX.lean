/- Texts of ours that stand together: SpecEff, SpecEff2 -/
import Derived.Test.YtpnjgmgmakmgeaaGreatEffA
import Derived.Test.YtpnjgmgmakmgeaaGreatSpecAct
import Derived.Test.YtpnjgmgmakmgeaaGreatSpecS
import Derived.Test.YtpnjgmgmakmgeaaGreatLay
import Derived.Deep.RegionLaw
import Derived.Test.YtpnjgmgmakmgeaaGreatDrawAc
import Derived.Test.YtpnjgmgmakmgeaaGreatConv
import Derived.Deep.RegionHeld3






/- The contracts of the model's l6Run,RunAction,ApplyEffect. -/
namespace Go.Proofs.YtpnjgmgmakmgeaaGreat
open Go.RowKit
set_option linter.unusedVariables false
set_option linter.unusedSimpArgs false
theorem infoEntF:(Tryz.prog.info? 142).map (fun i=>(i.zero,i.size,i.bytes))=some (some (.agg #[.int .i64 0,.int .i64 0]),2,16):=by kernel_rfl
def EAt (w:World) (E:Nat) (b:Bool) (v u:Value):Prop :=
 (w.cell? ⟨E,0,none⟩=some (.bool b)∧w.cell? ⟨E,1,none⟩=some v∧w.cell? ⟨E,2,none⟩=some u)∧(w.frozen? ⟨E,0,none⟩=false∧w.frozen? ⟨E,1,none⟩=false∧w.frozen? ⟨E,2,none⟩=false)∧E < w.heap.size
theorem EAt.grown {w w':World} {E:Nat} {b:Bool} {v u:Value} {row:Option Nat} (h:EAt w E b v u) (hg:w.grownBy w' row) (hne:some E≠row):EAt w' E b v u:=by
 obtain ⟨⟨h1,h2,h3⟩,⟨h4,h5,h6⟩,h7⟩:=h
 have hf:∀ o,w'.frozen? ⟨E,o,none⟩=w.frozen? ⟨E,o,none⟩:=fun o=>World.frozen?_of_block (hg.block E h7 hne)
 exact ⟨⟨hg.cell h1 hne,hg.cell h2 hne,hg.cell h3 hne⟩,⟨(hf 0).trans h4,(hf 1).trans h5,(hf 2).trans h6⟩,Nat.lt_of_lt_of_le h7 hg.size⟩
theorem EAt.below {w w':World} {E:Nat} {b:Bool} {v u:Value} (h:EAt w E b v u) (hb:Below w.heap.size w w'):EAt w' E b v u:=h.grown (Below.grownBy hb none) (by simp)
theorem EAt.set0 {w:World} {E:Nat} {b:Bool} {v u:Value} (h:EAt w E b v u) (x:Bool):EAt (w.setCell ⟨E,0,none⟩ (.bool x)) E x v u:=by
 obtain ⟨⟨h1,h2,h3⟩,⟨h4,h5,h6⟩,h7⟩:=h
 refine ⟨⟨?_,?_,?_⟩,⟨?_,?_,?_⟩,by simpa [World.setCell] using h7⟩ <;> simp [go_sem,h1,h2,h3,h4,h5,h6]
theorem EAt.set1 {w:World} {E:Nat} {b:Bool} {v u:Value} (h:EAt w E b v u) (x:Value):EAt (w.setCell ⟨E,1,none⟩ x) E b x u:=by
 obtain ⟨⟨h1,h2,h3⟩,⟨h4,h5,h6⟩,h7⟩:=h
 refine ⟨⟨?_,?_,?_⟩,⟨?_,?_,?_⟩,by simpa [World.setCell] using h7⟩ <;> simp [go_sem,h1,h2,h3,h4,h5,h6]
theorem EAt.set2 {w:World} {E:Nat} {b:Bool} {v u:Value} (h:EAt w E b v u) (x:Value):EAt (w.setCell ⟨E,2,none⟩ x) E b v x:=by
 obtain ⟨⟨h1,h2,h3⟩,⟨h4,h5,h6⟩,h7⟩:=h
 refine ⟨⟨?_,?_,?_⟩,⟨?_,?_,?_⟩,by simpa [World.setCell] using h7⟩ <;> simp [go_sem,h1,h2,h3,h4,h5,h6]
def rdTo (s f t:Int) (K:List Int) (k:Nat):List Ent:=(K.take k).map (fun key=>(key,if key=s then f else t))
theorem rdTo_next (s f t:Int) (K:List Int) (k:Nat) (h:k < K.length):rdTo s f t K (k+1)=rdTo s f t K k++[(K.getD k 0,if K.getD k 0=s then f else t)]:=by
 unfold rdTo
 rw [List.take_succ_eq_append_getElem h,List.map_append,List.getD_eq_getElem?_getD,List.getElem?_eq_getElem h];rfl
def RunR (w wr:World) (A Z E gk:Nat) (p s d m f t:Int) (K:List Int) (k:Nat):Prop :=
 ∃ v,ActAt wr A p s d m∧ZAt wr Z∧EAt wr E true v (.slice none 0 0)∧wr.ownsRow w.heap.size 142 2 v k (flatE (rdTo s f t K k)) ∧
  RowI wr (some ⟨gk,0,none⟩) K.length K∧(v.ownBlock≠some A∧v.ownBlock≠some Z∧v.ownBlock≠some E∧v.ownBlock≠some gk)∧Below w.heap.size w wr∧WfE (rdTo s f t K k)∧(A < wr.heap.size∧gk < wr.heap.size)
theorem RunR.drewN {w wr:World} {A Z E gk:Nat} {p s d m f t:Int} {K:List Int} {k:Nat} (h:RunR w wr A Z E gk p s d m f t K k) (n:Nat):RunR w (wr.drewN n) A Z E gk p s d m f t K k:=by
 obtain ⟨v,h1,h2,h3,h4,h5,h6,h7,h8,h9⟩:=h
 exact ⟨v,h1,h2,h3,h4,h5,h6,below_drewN' h7 n,h8,h9⟩
theorem ActAt.lt {w:World} {G:Nat} {p q r t:Int} (h:ActAt w G p q r t):G < w.heap.size:=World.block_lt_of_cell? w ⟨G,0,none⟩ h.1.1
theorem rowI_kept {w w':World} {b n:Nat} {row:Option Nat} {l:List Int} (h:RowI w (some ⟨b,0,none⟩) n l) (hg:w.grownBy w' row) (hne:some b≠row):RowI w' (some ⟨b,0,none⟩) n l:=by
 obtain ⟨h1,h2,h3,h4⟩:=h
 refine ⟨h1,h2,fun hl=>?_,h4⟩
 obtain ⟨b',off,he,hc⟩:=h3 hl
 simp at he;obtain ⟨rfl,rfl⟩:=he
 exact ⟨b,0,rfl,fun i hi=>hg.cell (hc i hi) hne⟩
theorem RunR.next {w w2 w5:World} {A Z E gk:Nat} {p s d m f t:Int} {K:List Int} {k:Nat} {v v1:Value} {o:Obj} (hA:ActAt w2 A p s d m) (hZ:ZAt w2 Z) (hE:EAt w2 E true v (.slice none 0 0)) (hr:RowI w2 (some ⟨gk,0,none⟩) K.length K)
  (hne:v.ownBlock≠some A∧v.ownBlock≠some Z∧v.ownBlock≠some E∧v.ownBlock≠some gk) (hb:Below w.heap.size w w2) (hown:w2.ownsRow w.heap.size 142 2 v k (flatE (rdTo s f t K k))) (hwf:WfE (rdTo s f t K (k+1)))
  (hk:k < K.length) (x y:Int) (hx:K.getD k 0=x) (hy:(if x=s then f else t)=y) (hlt:A < w2.heap.size∧gk < w2.heap.size) (hap:E≠A∧E≠Z∧E≠gk) (hEw:w.heap.size≤E)
  (hg:(w2.alloc o).grownBy w5 v.ownBlock) (ho:w5.ownsRow w.heap.size 142 2 v1 (k+1) (flatE (rdTo s f t K k)++[.int .i64 x,.int .i64 y])) (hat:v1.ownBlock=v.ownBlock∨v1.ownBlock=some (w2.heap.size+1)) :
  RunR w (w5.setCell ⟨E,1,none⟩ v1) A Z E gk p s d m f t K (k+1):=by
 have hZl:=hZ.2.2
 have hEl:=hE.2.2
 have hga:=World.grownBy_alloc w2 o none
 have hgs:=set_grown w5 E 1 v1
 have hn1:v1.ownBlock≠some A∧v1.ownBlock≠some Z∧v1.ownBlock≠some E∧v1.ownBlock≠some gk:=by
  rcases hat with e | e
  · rw [e];exact hne
  · rw [e];exact ⟨by simp;omega,by simp;omega,by simp;omega,by simp;omega⟩
 have hs:=hg.size
 simp only [World.size_alloc] at hs
 refine ⟨v1,?_,?_,?_,?_,?_,hn1,?_,hwf,?_⟩
 · exact ((hA.grown hga (by simp)).grown hg (fun e=>hne.1 e.symm)).grown hgs (by simp;omega)
 · exact ((hZ.grown hga (by simp)).grown hg (fun e=>hne.2.1 e.symm)).grown hgs (by simp;omega)
 · exact ((hE.grown hga (by simp)).grown hg (fun e=>hne.2.2.1 e.symm)).set1 v1
 · rw [rdTo_next s f t K k hk,flatE_append,hx,hy];exact owns_set ho hn1.2.2.1 1 v1
 · exact rowI_kept (rowI_kept (rowI_kept hr hga (by simp)) hg (fun e=>hne.2.2.2 e.symm)) hgs (by simp;omega)
 · exact ((hb.alloc hb.size o).grown hg (by have:=hb.size;simp;omega) (fun q hq=>(hown.lt q hq).1)).setCell hEw v1
 · have:(w5.setCell ⟨E,1,none⟩ v1).heap.size=w5.heap.size:=by simp [World.setCell]
   omega
theorem owns_al {w:World} {B:Nat} {e:TypeId} {size n:Nat} {v:Value} {xs:List Value} (h:w.ownsRow B e size v n xs) (o:Obj):(w.alloc o).ownsRow B e size v n xs:=h.alloc o
structure St (w wr:World) (A Z E:Nat) (p s d m:Int) (b:Bool) (v u:Value) (R W:List Ent):Prop where
 act:ActAt wr A p s d m
 ans:ZAt wr Z
 eff:EAt wr E b v u
 rd:wr.ownsRow w.heap.size 142 2 v R.length (flatE R)
 wrt:wr.ownsRow w.heap.size 142 2 u W.length (flatE W)
 wf1:WfE R
 wf2:WfE W
 ap:∀ q,v.ownBlock=some q→u.ownBlock≠some q
 n1:v.ownBlock≠some A∧v.ownBlock≠some Z∧v.ownBlock≠some E
 n2:u.ownBlock≠some A∧u.ownBlock≠some Z∧u.ownBlock≠some E
 bel:Below w.heap.size w wr
 lt:A < wr.heap.size∧A≠Z∧A≠E∧Z≠E∧w.heap.size≤A∧w.heap.size≤Z∧w.heap.size≤E
theorem St.set0 {w wr:World} {A Z E:Nat} {p s d m:Int} {b:Bool} {v u:Value} {R W:List Ent} (h:St w wr A Z E p s d m b v u R W) (x:Bool):St w (wr.setCell ⟨E,0,none⟩ (.bool x)) A Z E p s d m x v u R W:=by
 obtain ⟨h1,h2,h3,h4,h5,h6,h7,h8,h9,h10,h11,h12⟩:=h
 have hg:=set_grown wr E 0 (.bool x)
 exact ⟨h1.grown hg (by simp;omega),h2.grown hg (by simp;omega),h3.set0 x,owns_set h4 h9.2.2 _ _,owns_set h5 h10.2.2 _ _,h6,h7,h8,h9,h10,h11.setCell h12.2.2.2.2.2.2 _,by rw [size_setCell];exact h12⟩
theorem St.lit {w wr:World} {A Z E:Nat} {p s d m:Int} {b:Bool} {v u:Value} {R W:List Ent} (h:St w wr A Z E p s d m b v u R W) (W':List Ent) (n:Nat) (hn:W'.length=n) (hn2:n≤1000) (cs:Array Value) (hcs:cs.toList=flatE W') (hw:WfE W') (N:Nat) (hN:wr.heap.size=N) :
  St w ((wr.setCell ⟨E,2,none⟩ (.slice (some ⟨N,0,none⟩) n n)).alloc (.cells cs 142)) A Z E p s d m b v (.slice (some ⟨N,0,none⟩) n n) R W':=by
 subst hN
 subst hn
 obtain ⟨h1,h2,h3,h4,h5,h6,h7,h8,h9,h10,h11,h12⟩:=h
 have hg:=set_grown wr E 2 (.slice (some ⟨wr.heap.size,0,none⟩) W'.length W'.length)
 have ha:=World.grownBy_alloc (wr.setCell ⟨E,2,none⟩ (.slice (some ⟨wr.heap.size,0,none⟩) W'.length W'.length)) (.cells cs 142) none
 have hl:=own_lit (w:=wr.setCell ⟨E,2,none⟩ (.slice (some ⟨wr.heap.size,0,none⟩) W'.length W'.length)) (B:=w.heap.size) 142 2 cs W'.length (by rw [size_setCell];exact h11.size) (by unfold maxLen;omega) (by rw [← flatE_len,← hcs];simp)
 rw [size_setCell,hcs] at hl
 have hvl:=h4.lt
 have hz:=h2.2.2
 have he:=h3.2.2
 exact ⟨(h1.grown hg (by simp;omega)).grown ha (by simp),(h2.grown hg (by simp;omega)).grown ha (by simp),(h3.set2 _).grown ha (by simp),owns_al (owns_set h4 h9.2.2 _ _) _,hl.1,h6,hw,
  fun q hq hu=>by simp [Value.ownBlock] at hu;have:=(hvl q hq).2;omega,h9,⟨by simp [Value.ownBlock];omega,by simp [Value.ownBlock];omega,by simp [Value.ownBlock];omega⟩,
  (h11.setCell h12.2.2.2.2.2.2 _).alloc (by rw [size_setCell];exact h11.size) _,by refine ⟨?_,h12.2⟩;simp [World.setCell];omega⟩
theorem St.row {w wr w6:World} {A Z E:Nat} {p s d m:Int} {b:Bool} {v u u':Value} {R W W':List Ent} (h:St w wr A Z E p s d m b v u R W) (hb:Below wr.heap.size wr w6) (ho:w6.ownsRow wr.heap.size 142 2 u' W'.length (flatE W')) (hw:WfE W') :
  St w (w6.setCell ⟨E,2,none⟩ u') A Z E p s d m b v u' R W':=by
 obtain ⟨h1,h2,h3,h4,h5,h6,h7,h8,h9,h10,h11,h12⟩:=h
 have hg:=set_grown w6 E 2 u'
 have hbg:=Below.grownBy hb none
 have hvl:=h4.lt
 have hul:=ho.lt
 have hz:=h2.2.2
 have he:=h3.2.2
 have hn:∀ q,q < wr.heap.size→u'.ownBlock≠some q:=fun q hq e=>by have:=(hul q e).1;omega
 exact ⟨(h1.grown hbg (by simp)).grown hg (by simp;omega),(h2.grown hbg (by simp)).grown hg (by simp;omega),(h3.grown hbg (by simp)).set2 _,owns_set (owns_below h4 hb) h9.2.2 _ _,owns_set (owns_mono ho h11.size) (hn E he) _ _,h6,hw,
  fun q hq hu=>by have:=(hvl q hq).2;have:=(hul q hu).1;omega,h9,⟨hn A h12.1,hn Z hz,hn E he⟩,(h11.trans (hb.mono h11.size)).setCell h12.2.2.2.2.2.2 _,by refine ⟨?_,h12.2⟩;rw [size_setCell];have:=hb.size;omega⟩
theorem St.alloc {w wr:World} {A Z E:Nat} {p s d m:Int} {b:Bool} {v u:Value} {R W:List Ent} (h:St w wr A Z E p s d m b v u R W) (o:Obj):St w (wr.alloc o) A Z E p s d m b v u R W:=by
 obtain ⟨h1,h2,h3,h4,h5,h6,h7,h8,h9,h10,h11,h12⟩:=h
 have ha:=World.grownBy_alloc wr o none
 exact ⟨h1.grown ha (by simp),h2.grown ha (by simp),h3.grown ha (by simp),owns_al h4 o,owns_al h5 o,h6,h7,h8,h9,h10,h11.alloc h11.size o,by refine ⟨?_,h12.2⟩;simp;omega⟩
end Go.Proofs.YtpnjgmgmakmgeaaGreat
