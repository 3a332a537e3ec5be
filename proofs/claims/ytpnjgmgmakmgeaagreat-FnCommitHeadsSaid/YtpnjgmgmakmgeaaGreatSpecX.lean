/- Texts of ours that stand together: SpecEff, SpecEff2 -/
import Derived.Test.YtpnjgmgmakmgeaaGreatEffA
import Derived.Test.YtpnjgmgmakmgeaaGreatSpecAct
import Derived.Test.YtpnjgmgmakmgeaaGreatSpecF
import Derived.Test.YtpnjgmgmakmgeaaGreatDrawAc
import Derived.Test.YtpnjgmgmakmgeaaGreatConv
import Derived.Deep.RegionLaw
import Derived.Deep.RegionHeld3
/- The contracts of the model's l6Run,RunAction,ApplyEffect. -/
namespace Go.Proofs.YtpnjgmgmakmgeaaGreat
open Go.RowKit
set_option linter.unusedVariables false
set_option linter.unusedSimpArgs false
theorem infoEntF:(Tryz.prog.info? 142).map (fun i=>(i.zero,i.size,i.bytes))=some (some (.agg #[.int .i64 0,.int .i64 0]),2,16):=by kernel_rfl
def EAt (w:World) (E:Nat) (b:Bool) (v u:Value):Prop :=
 (w.cell? ⟨E,0,none⟩=some (.bool b)∧w.cell? ⟨E,1,none⟩=some v∧w.cell? ⟨E,2,none⟩=some u)∧(w.frozen? ⟨E,0,none⟩=false∧w.frozen? ⟨E,1,none⟩=false∧w.frozen? ⟨E,2,none⟩=false)∧E < w.heap.size
theorem EAt.grown {w w':World} {E:Nat} {b:Bool} {v u:Value} {row:Option Nat} (h:EAt w E b v u) (hg:w.grownBy w' row) (hne:some E≠row):EAt w' E b v u:=by
 obtain ⟨⟨h1,h2,h3⟩,⟨h4,h5,h6⟩,h7⟩:=h
 have hf:∀ o,w'.frozen? ⟨E,o,none⟩=w.frozen? ⟨E,o,none⟩:=fun o=>World.frozen?_of_block (hg.block E h7 hne)
 exact ⟨⟨hg.cell h1 hne,hg.cell h2 hne,hg.cell h3 hne⟩,⟨(hf 0).trans h4,(hf 1).trans h5,(hf 2).trans h6⟩,Nat.lt_of_lt_of_le h7 hg.size⟩
theorem EAt.below {w w':World} {E:Nat} {b:Bool} {v u:Value} (h:EAt w E b v u) (hb:Below w.heap.size w w'):EAt w' E b v u:=h.grown (Below.grownBy hb none) (by simp)
theorem EAt.set0 {w:World} {E:Nat} {b:Bool} {v u:Value} (h:EAt w E b v u) (x:Bool):EAt (w.setCell ⟨E,0,none⟩ (.bool x)) E x v u:=by
 obtain ⟨⟨h1,h2,h3⟩,⟨h4,h5,h6⟩,h7⟩:=h
 refine ⟨⟨?_,?_,?_⟩,⟨?_,?_,?_⟩,by simpa [World.setCell] using h7⟩ <;> simp [go_sem,h1,h2,h3,h4,h5,h6]
theorem EAt.set1 {w:World} {E:Nat} {b:Bool} {v u:Value} (h:EAt w E b v u) (x:Value):EAt (w.setCell ⟨E,1,none⟩ x) E b x u:=by
 obtain ⟨⟨h1,h2,h3⟩,⟨h4,h5,h6⟩,h7⟩:=h
 refine ⟨⟨?_,?_,?_⟩,⟨?_,?_,?_⟩,by simpa [World.setCell] using h7⟩ <;> simp [go_sem,h1,h2,h3,h4,h5,h6]
theorem EAt.set2 {w:World} {E:Nat} {b:Bool} {v u:Value} (h:EAt w E b v u) (x:Value):EAt (w.setCell ⟨E,2,none⟩ x) E b v x:=by
 obtain ⟨⟨h1,h2,h3⟩,⟨h4,h5,h6⟩,h7⟩:=h
 refine ⟨⟨?_,?_,?_⟩,⟨?_,?_,?_⟩,by simpa [World.setCell] using h7⟩ <;> simp [go_sem,h1,h2,h3,h4,h5,h6]
theorem eAt_new (w:World) (T:TypeId) (b:Bool) (v u:Value):EAt (w.alloc (.cells #[.bool b,v,u] T)) w.heap.size b v u:=by simp [EAt,go_sem]
def rdTo (s f t:Int) (K:List Int) (k:Nat):List Ent:=(K.take k).map (fun key=>(key,if key=s then f else t))
theorem rdTo_next (s f t:Int) (K:List Int) (k:Nat) (h:k < K.length):rdTo s f t K (k+1)=rdTo s f t K k++[(K.getD k 0,if K.getD k 0=s then f else t)]:=by
 unfold rdTo
 rw [List.take_succ_eq_append_getElem h,List.map_append,List.getD_eq_getElem?_getD,List.getElem?_eq_getElem h];rfl
theorem rdTo_len (s f t:Int) (K:List Int) (k:Nat) (h:k≤K.length):(rdTo s f t K k).length=k:=by simp [rdTo];omega
def RunR (w wr:World) (A Z E gk:Nat) (p s d m f t:Int) (K:List Int) (k:Nat):Prop :=
 ∃ v,ActAt wr A p s d m∧ZAt wr Z∧EAt wr E true v (.slice none 0 0)∧wr.ownsRow w.heap.size 142 2 v k (flatE (rdTo s f t K k)) ∧
  RowI wr (some ⟨gk,0,none⟩) K.length K∧(v.ownBlock≠some A∧v.ownBlock≠some Z∧v.ownBlock≠some E∧v.ownBlock≠some gk)∧Below w.heap.size w wr∧WfE (rdTo s f t K k)∧(A < wr.heap.size∧gk < wr.heap.size)
theorem RunR.drewN {w wr:World} {A Z E gk:Nat} {p s d m f t:Int} {K:List Int} {k:Nat} (h:RunR w wr A Z E gk p s d m f t K k) (n:Nat):RunR w (wr.drewN n) A Z E gk p s d m f t K k:=by
 obtain ⟨v,h1,h2,h3,h4,h5,h6,h7,h8,h9⟩:=h
 exact ⟨v,h1,h2,h3,h4,h5,h6,below_drewN' h7 n,h8,h9⟩
theorem ActAt.lt {w:World} {G:Nat} {p q r t:Int} (h:ActAt w G p q r t):G < w.heap.size:=World.block_lt_of_cell? w ⟨G,0,none⟩ h.1.1
theorem rowI_kept {w w':World} {b n:Nat} {row:Option Nat} {l:List Int} (h:RowI w (some ⟨b,0,none⟩) n l) (hg:w.grownBy w' row) (hne:some b≠row):RowI w' (some ⟨b,0,none⟩) n l:=by
 obtain ⟨h1,h2,h3,h4⟩:=h
 refine ⟨h1,h2,fun hl=>?_,h4⟩
 obtain ⟨b',off,he,hc⟩:=h3 hl
 simp at he;obtain ⟨rfl,rfl⟩:=he
 exact ⟨b,0,rfl,fun i hi=>hg.cell (hc i hi) hne⟩
theorem RunR.next {w w2 w5:World} {A Z E gk:Nat} {p s d m f t:Int} {K:List Int} {k:Nat} {v v1:Value} {o:Obj} (hA:ActAt w2 A p s d m) (hZ:ZAt w2 Z) (hE:EAt w2 E true v (.slice none 0 0)) (hr:RowI w2 (some ⟨gk,0,none⟩) K.length K)
  (hne:v.ownBlock≠some A∧v.ownBlock≠some Z∧v.ownBlock≠some E∧v.ownBlock≠some gk) (hb:Below w.heap.size w w2) (hown:w2.ownsRow w.heap.size 142 2 v k (flatE (rdTo s f t K k))) (hwf:WfE (rdTo s f t K (k+1)))
  (hk:k < K.length) (x y:Int) (hx:K.getD k 0=x) (hy:(if x=s then f else t)=y) (hlt:A < w2.heap.size∧gk < w2.heap.size) (hap:E≠A∧E≠Z∧E≠gk) (hEw:w.heap.size≤E)
  (hg:(w2.alloc o).grownBy w5 v.ownBlock) (ho:w5.ownsRow w.heap.size 142 2 v1 (k+1) (flatE (rdTo s f t K k)++[.int .i64 x,.int .i64 y])) (hat:v1.ownBlock=v.ownBlock∨v1.ownBlock=some (w2.heap.size+1)) :
  RunR w (w5.setCell ⟨E,1,none⟩ v1) A Z E gk p s d m f t K (k+1):=by
 have hZl:=hZ.2.2
 have hEl:=hE.2.2
 have hga:=World.grownBy_alloc w2 o none
 have hgs:=set_grown w5 E 1 v1
 have hn1:v1.ownBlock≠some A∧v1.ownBlock≠some Z∧v1.ownBlock≠some E∧v1.ownBlock≠some gk:=by
  rcases hat with e | e
  · rw [e];exact hne
  · rw [e];exact ⟨by simp;omega,by simp;omega,by simp;omega,by simp;omega⟩
 have hs:=hg.size
 simp only [World.size_alloc] at hs
 refine ⟨v1,?_,?_,?_,?_,?_,hn1,?_,hwf,?_⟩
 · exact ((hA.grown hga (by simp)).grown hg (fun e=>hne.1 e.symm)).grown hgs (by simp;omega)
 · exact ((hZ.grown hga (by simp)).grown hg (fun e=>hne.2.1 e.symm)).grown hgs (by simp;omega)
 · exact ((hE.grown hga (by simp)).grown hg (fun e=>hne.2.2.1 e.symm)).set1 v1
 · rw [rdTo_next s f t K k hk,flatE_append,hx,hy];exact owns_set ho hn1.2.2.1 1 v1
 · exact rowI_kept (rowI_kept (rowI_kept hr hga (by simp)) hg (fun e=>hne.2.2.2 e.symm)) hgs (by simp;omega)
 · exact ((hb.alloc hb.size o).grown hg (by have:=hb.size;simp;omega) (fun q hq=>(hown.lt q hq).1)).setCell hEw v1
 · have:(w5.setCell ⟨E,1,none⟩ v1).heap.size=w5.heap.size:=by simp [World.setCell]
   omega
theorem results_eff {fn:Func} {p:Tmp} (h:fn.results=#[.cell p 178]) (tmps:Array Value) {F:World} {Z:Nat} (hp:tmps.getD p undef = .pointer (some ⟨Z,0,none⟩)) {b:Bool} {v u:Value} (hc:EAt F Z b v u):(results fn tmps).run Tryz.prog F = .ok (.agg #[.bool b,v,u]) F:=by
 have hp':tmps[p]?.getD undef = .pointer (some ⟨Z,0,none⟩):=by simpa using hp
 obtain ⟨⟨c0,c1,c2⟩,-⟩:=hc
 simp [results,h,hp',asAddr,go_sem,c0,c1,c2]
theorem owns_al {w:World} {B:Nat} {e:TypeId} {size n:Nat} {v:Value} {xs:List Value} (h:w.ownsRow B e size v n xs) (o:Obj):(w.alloc o).ownsRow B e size v n xs:=h.alloc o
structure St (w wr:World) (A Z E:Nat) (p s d m:Int) (b:Bool) (v u:Value) (R W:List Ent):Prop where
 act:ActAt wr A p s d m
 ans:ZAt wr Z
 eff:EAt wr E b v u
 rd:wr.ownsRow w.heap.size 142 2 v R.length (flatE R)
 wrt:wr.ownsRow w.heap.size 142 2 u W.length (flatE W)
 wf1:WfE R
 wf2:WfE W
 ap:∀ q,v.ownBlock=some q→u.ownBlock≠some q
 n1:v.ownBlock≠some A∧v.ownBlock≠some Z∧v.ownBlock≠some E
 n2:u.ownBlock≠some A∧u.ownBlock≠some Z∧u.ownBlock≠some E
 bel:Below w.heap.size w wr
 lt:A < wr.heap.size∧A≠Z∧A≠E∧Z≠E∧w.heap.size≤A∧w.heap.size≤Z∧w.heap.size≤E
theorem St.set0 {w wr:World} {A Z E:Nat} {p s d m:Int} {b:Bool} {v u:Value} {R W:List Ent} (h:St w wr A Z E p s d m b v u R W) (x:Bool):St w (wr.setCell ⟨E,0,none⟩ (.bool x)) A Z E p s d m x v u R W:=by
 obtain ⟨h1,h2,h3,h4,h5,h6,h7,h8,h9,h10,h11,h12⟩:=h
 have hg:=set_grown wr E 0 (.bool x)
 exact ⟨h1.grown hg (by simp;omega),h2.grown hg (by simp;omega),h3.set0 x,owns_set h4 h9.2.2 _ _,owns_set h5 h10.2.2 _ _,h6,h7,h8,h9,h10,h11.setCell h12.2.2.2.2.2.2 _,by rw [size_setCell];exact h12⟩
theorem St.lit {w wr:World} {A Z E:Nat} {p s d m:Int} {b:Bool} {v u:Value} {R W:List Ent} (h:St w wr A Z E p s d m b v u R W) (W':List Ent) (n:Nat) (hn:W'.length=n) (hn2:n≤1000) (cs:Array Value) (hcs:cs.toList=flatE W') (hw:WfE W') (N:Nat) (hN:wr.heap.size=N) :
  St w ((wr.setCell ⟨E,2,none⟩ (.slice (some ⟨N,0,none⟩) n n)).alloc (.cells cs 142)) A Z E p s d m b v (.slice (some ⟨N,0,none⟩) n n) R W':=by
 subst hN
 subst hn
 obtain ⟨h1,h2,h3,h4,h5,h6,h7,h8,h9,h10,h11,h12⟩:=h
 have hg:=set_grown wr E 2 (.slice (some ⟨wr.heap.size,0,none⟩) W'.length W'.length)
 have ha:=World.grownBy_alloc (wr.setCell ⟨E,2,none⟩ (.slice (some ⟨wr.heap.size,0,none⟩) W'.length W'.length)) (.cells cs 142) none
 have hl:=own_lit (w:=wr.setCell ⟨E,2,none⟩ (.slice (some ⟨wr.heap.size,0,none⟩) W'.length W'.length)) (B:=w.heap.size) 142 2 cs W'.length (by rw [size_setCell];exact h11.size) (by unfold maxLen;omega) (by rw [← flatE_len,← hcs];simp)
 rw [size_setCell,hcs] at hl
 have hvl:=h4.lt
 have hz:=h2.2.2
 have he:=h3.2.2
 exact ⟨(h1.grown hg (by simp;omega)).grown ha (by simp),(h2.grown hg (by simp;omega)).grown ha (by simp),(h3.set2 _).grown ha (by simp),owns_al (owns_set h4 h9.2.2 _ _) _,hl.1,h6,hw,
  fun q hq hu=>by simp [Value.ownBlock] at hu;have:=(hvl q hq).2;omega,h9,⟨by simp [Value.ownBlock];omega,by simp [Value.ownBlock];omega,by simp [Value.ownBlock];omega⟩,
  (h11.setCell h12.2.2.2.2.2.2 _).alloc (by rw [size_setCell];exact h11.size) _,by refine ⟨?_,h12.2⟩;simp [World.setCell];omega⟩
theorem St.row {w wr w6:World} {A Z E:Nat} {p s d m:Int} {b:Bool} {v u u':Value} {R W W':List Ent} (h:St w wr A Z E p s d m b v u R W) (hb:Below wr.heap.size wr w6) (ho:w6.ownsRow wr.heap.size 142 2 u' W'.length (flatE W')) (hw:WfE W') :
  St w (w6.setCell ⟨E,2,none⟩ u') A Z E p s d m b v u' R W':=by
 obtain ⟨h1,h2,h3,h4,h5,h6,h7,h8,h9,h10,h11,h12⟩:=h
 have hg:=set_grown w6 E 2 u'
 have hbg:=Below.grownBy hb none
 have hvl:=h4.lt
 have hul:=ho.lt
 have hz:=h2.2.2
 have he:=h3.2.2
 have hn:∀ q,q < wr.heap.size→u'.ownBlock≠some q:=fun q hq e=>by have:=(hul q e).1;omega
 exact ⟨(h1.grown hbg (by simp)).grown hg (by simp;omega),(h2.grown hbg (by simp)).grown hg (by simp;omega),(h3.grown hbg (by simp)).set2 _,owns_set (owns_below h4 hb) h9.2.2 _ _,owns_set (owns_mono ho h11.size) (hn E he) _ _,h6,hw,
  fun q hq hu=>by have:=(hvl q hq).2;have:=(hul q hu).1;omega,h9,⟨hn A h12.1,hn Z hz,hn E he⟩,(h11.trans (hb.mono h11.size)).setCell h12.2.2.2.2.2.2 _,by refine ⟨?_,h12.2⟩;rw [size_setCell];have:=hb.size;omega⟩
theorem St.alloc {w wr:World} {A Z E:Nat} {p s d m:Int} {b:Bool} {v u:Value} {R W:List Ent} (h:St w wr A Z E p s d m b v u R W) (o:Obj):St w (wr.alloc o) A Z E p s d m b v u R W:=by
 obtain ⟨h1,h2,h3,h4,h5,h6,h7,h8,h9,h10,h11,h12⟩:=h
 have ha:=World.grownBy_alloc wr o none
 exact ⟨h1.grown ha (by simp),h2.grown ha (by simp),h3.grown ha (by simp),owns_al h4 o,owns_al h5 o,h6,h7,h8,h9,h10,h11.alloc h11.size o,by refine ⟨?_,h12.2⟩;simp;omega⟩
theorem St.fin {w wr:World} {A Z E:Nat} {p s d m:Int} {b:Bool} {v u:Value} {R W:List Ent} (h:St w wr A Z E p s d m b v u R W) :
  EAt (((wr.setCell ⟨Z,0,none⟩ (.bool b)).setCell ⟨Z,1,none⟩ v).setCell ⟨Z,2,none⟩ u) Z b v u∧OwnF (((wr.setCell ⟨Z,0,none⟩ (.bool b)).setCell ⟨Z,1,none⟩ v).setCell ⟨Z,2,none⟩ u) w.heap.size 142 (.agg #[.bool b,v,u]) ⟨b,R,W⟩ ∧
   Below w.heap.size w (((wr.setCell ⟨Z,0,none⟩ (.bool b)).setCell ⟨Z,1,none⟩ v).setCell ⟨Z,2,none⟩ u):=by
 obtain ⟨h1,h2,h3,h4,h5,h6,h7,h8,h9,h10,h11,h12⟩:=h
 have h0:EAt wr Z false (.slice none 0 0) (.slice none 0 0):=h2
 exact ⟨((h0.set0 b).set1 v).set2 u,ownF_mk ⟨b,R,W⟩ (owns_set (owns_set (owns_set h4 h9.2.1 _ _) h9.2.1 _ _) h9.2.1 _ _) (owns_set (owns_set (owns_set h5 h10.2.1 _ _) h10.2.1 _ _) h10.2.1 _ _) h6 h7 h8,
  ((h11.setCell h12.2.2.2.2.2.1 _).setCell h12.2.2.2.2.2.1 _).setCell h12.2.2.2.2.2.1 _⟩
set_option maxRecDepth 100000 in
set_option maxHeartbeats 4000000 in
theorem l6Run_spec (p s d m f t:Int) (w:World) (hv:actB ⟨p,s,d,m⟩=true) (hf:0≤f∧f≤1000000) (ht:0≤t∧t≤1000000) :
  Calls Tryz.prog 182 #[.agg #[.int .i64 p,.int .i64 s,.int .i64 d,.int .i64 m],.int .i64 f,.int .i64 t] w (NewF w 142 (effK p s d m f t)):=by
 have hA:=actAt_new w 113 p s d m
 have hb0:=(((Below.refl w.heap.size w).alloc (Nat.le_refl _) (.cells #[.int .i64 p,.int .i64 s,.int .i64 d,.int .i64 m] 113)).alloc (by simp) (.cells #[.bool false,.slice none 0 0,.slice none 0 0] 178)).alloc (by simp;omega) (.cells #[.bool true,.slice none 0 0,.slice none 0 0] 178)
 have hZ:=zAt_new (w.alloc (.cells #[.int .i64 p,.int .i64 s,.int .i64 d,.int .i64 m] 113)) 178
 have hE:=eAt_new ((w.alloc (.cells #[.int .i64 p,.int .i64 s,.int .i64 d,.int .i64 m] 113)).alloc (.cells #[.bool false,.slice none 0 0,.slice none 0 0] 178)) 178 true (.slice none 0 0) (.slice none 0 0)
 have hsz:(((w.alloc (.cells #[.int .i64 p,.int .i64 s,.int .i64 d,.int .i64 m] 113)).alloc (.cells #[.bool false,.slice none 0 0,.slice none 0 0] 178)).alloc (.cells #[.bool true,.slice none 0 0,.slice none 0 0] 178)).heap.size=w.heap.size+3:=by simp
 have hsz2:((w.alloc (.cells #[.int .i64 p,.int .i64 s,.int .i64 d,.int .i64 m] 113)).alloc (.cells #[.bool false,.slice none 0 0,.slice none 0 0] 178)).heap.size=w.heap.size+2:=by simp
 rw [hsz2] at hE
 rw [World.size_alloc] at hZ
 replace hZ:=hZ.grown (World.grownBy_alloc _ (.cells #[.bool true,.slice none 0 0,.slice none 0 0] 178) none) (by simp)
 replace hA:=(hA.grown (World.grownBy_alloc _ (.cells #[.bool false,.slice none 0 0,.slice none 0 0] 178) none) (by simp)).grown (World.grownBy_alloc _ (.cells #[.bool true,.slice none 0 0,.slice none 0 0] 178) none) (by simp)
 have HV:=Lib.hid hv
 clear hv hsz2
 go_enter Tryz.func182,Tryz.ntmps182
 go_wp2_with fail
 obtain ⟨w0,hw0⟩:∃ w0,w0=((w.alloc (.cells #[.int .i64 p,.int .i64 s,.int .i64 d,.int .i64 m] 113)).alloc (.cells #[.bool false,.slice none 0 0,.slice none 0 0] 178)).alloc (.cells #[.bool true,.slice none 0 0,.slice none 0 0] 178):=⟨_,rfl⟩
 rw [← hw0] at hA hZ hE hb0 hsz ⊢
 clear hw0
 refine (actionReads_spec p s d m _).mono ?_;rintro e w1 ⟨v1,rfl,ho1,hw1,hb1⟩
 obtain ⟨gk,ck,rfl,hgk0,hgk,hk1⟩:=rowI_of_own ho1 (Nat.le_trans (readsM_len _) (by omega)) hw1
 have hrd:(readsM ⟨p,s,d,m⟩)=readsK p s d:=by rw [readsM,if_pos HV.out]
 rw [hrd] at hk1 hw1 ⊢
 have hkl:(readsK p s d).length≤2:=by rw [← hrd];exact readsM_len _
 have hE1:rdTo s f t (readsK p s d) (readsK p s d).length=rdsK p s d f t:=by unfold rdTo rdsK;rw [List.take_length]
 have HE1:=Lib.hid hE1
 obtain ⟨K,hK⟩:∃ K,K=readsK p s d:=⟨_,rfl⟩
 rw [← hK] at hk1 hkl hw1 HE1 ⊢
 have HKW:=Lib.hid hw1
 have hgkw:w.heap.size+3≤gk:=by omega
 have hR0:RunR w w1 w.heap.size (w.heap.size+1) (w.heap.size+2) gk p s d m f t K 0:=by
  refine ⟨_,hA.grown (Below.grownBy hb1 none) (by simp),hZ.grown (Below.grownBy hb1 none) (by simp),hE.below hb1,World.ownsRow_nil _ _ _ _,hk1,⟨by simp [Value.ownBlock],by simp [Value.ownBlock],by simp [Value.ownBlock],by simp [Value.ownBlock]⟩,hb0.trans (hb1.mono hb0.size),fun e he=>(by cases he),⟨by have:=hb1.size;omega,hgk⟩⟩
 obtain ⟨n,hn⟩:∃ n,n=K.length:=⟨_,rfl⟩
 have HN:=Lib.hid hn
 clear hE1 hrd hK ho1 hw1 hk1 hA hZ hE hb0 hb1 hsz hgk0
 go_wp2
 rw [← HN.out]
 obtain ⟨A,hA⟩:∃ A,A=w.heap.size:=⟨_,rfl⟩
 obtain ⟨Z,hZ⟩:∃ Z,Z=w.heap.size+1:=⟨_,rfl⟩
 obtain ⟨E,hE⟩:∃ E,E=w.heap.size+1+1:=⟨_,rfl⟩
 rw [show w.heap.size+2=E from hE.symm,← hZ] at hR0
 rw [← hE,← hZ]
 have hap:(E≠A∧E≠Z∧E≠gk)∧A≠Z∧A≠E∧Z≠E∧w.heap.size≤A∧w.heap.size≤Z∧w.heap.size≤E:=by omega
 have HAP:=Lib.hid hap
 have hRA:RunR w w1 A Z E gk p s d m f t K 0:=by rw [hA];exact hR0
 rw [show (some { block:=w.heap.size,off:=0,spot:=none }:Option Addr)=some ⟨A,0,none⟩ by rw [hA]]
 have HAA:=Lib.hid hA
 clear hA hZ hE hR0 hap hgkw hgk hn
 go_loopw [9,10] (fun i _ wr=>∃ k:Nat,k≤n∧i = .int .i64 k∧RunR w wr A Z E gk p s d m f t K k) (fun i _ _=>n - (intOf i).toNat)
 case atStart=>exact ⟨0,Nat.zero_le _,rfl,hRA⟩
 case round =>
  clear hRA
  obtain ⟨k,hk,rfl,hR⟩:=hrel
  by_cases hlt:k < n
  · have HRR:=Lib.hid hR
    obtain ⟨v,hA,-,-,-,hki,-⟩:=hR
    obtain ⟨b,off,he,hc⟩:=hki.2.2.1 (by rw [← HN.out];omega)
    simp at he;obtain ⟨rfl,rfl⟩:=he
    have hck:=hc k (by rw [← HN.out];exact hlt)
    rw [Nat.zero_add] at hck
    have hcs:=hA.1.2.1
    obtain ⟨x,hx⟩:∃ x,x=K.getD k 0:=⟨_,rfl⟩
    have HX:=Lib.hid hx
    rw [← hx] at hck
    clear hx hc hA hki
    by_cases hxe:x=s
    · have hxs:(x != s)=false:=by simpa using hxe
      have HY:Hid ((if x=s then f else t)=f):=Lib.hid (by rw [if_pos hxe])
      clear hxe
      go_wp2_with fail
      go_quiet (fail)
      go_wp2_with fail
      generalize hw2:World.drewN wr _=w2
      have hR2:RunR w w2 A Z E gk p s d m f t K k:=by rw [← hw2];exact HRR.out.drewN _
      obtain ⟨v2,g1,g2,g3,g4,g5,g6,g7,g8,g9⟩:=hR2
      have hkl2:k≤2:=by have:=HN.out;omega
      have hrl:=rdTo_len s f t K k (by rw [← HN.out];exact hk)
      have hvs:∃ a2 c2,v2 = .slice a2 k c2:=by
       obtain ⟨a2,c2,hv2,-⟩:=rowE_of_owns (l:=rdTo s f t K k) (by rw [hrl];exact g4) (by rw [hrl];omega) g8
       rw [hrl] at hv2;exact ⟨a2,c2,hv2⟩
      obtain ⟨a2,c2,rfl⟩:=hvs
      have hck2:w2.cell? ⟨gk,k,none⟩=some (.int .i64 x):=by rw [← hw2];exact hck
      have he1:=g3.1.2.1
      have hf1:=g3.2.1.2.1
      have he1':=(g3.grown (World.grownBy_alloc w2 (.cells #[.int .i64 x,.int .i64 f] 142) none) (by simp)).1.2.1
      have hsB:=g7.size
      have hwx:(Lit.int .i64 x).wf=true:=by rw [HX.out];exact HKW.out _ (by rw [List.getD_eq_getElem?_getD,List.getElem?_eq_getElem (by rw [← HN.out];exact hlt)];exact List.getElem_mem _)
      have HW8:Hid (WfE (rdTo s f t K (k+1))):=Lib.hid (by
       rw [rdTo_next s f t K k (by rw [← HN.out];exact hlt),← HX.out,HY.out]
       exact g8.snoc hwx (WalkArith.wf_i64 (by omega)))
      clear hw2 hck hcs hrl hwx
      go_region_law (first | (refine step_app1d rfl (.tmp 30) (.tmp 37) 23 rfl w.heap.size 142 _ (.agg #[.int .i64 0,.int .i64 0]) 2 16 Tryz.underlying23 infoEntF rfl (by decide) (.slice a2 k c2) k _ [.int .i64 x,.int .i64 f] (by rfl) g4 (by rfl) rfl (by intro u hu;simp at hu;rcases hu with rfl | rfl <;> rfl) (by omega) (by decide) hsB ?_;intro v5 w5 ho5' hnn hg5 hat;obtain ⟨gg5,cp5,rfl,hg5B,hg5lt⟩:=Own.slice ⟨ho5',hnn⟩;have hE5:=(g3.grown (World.grownBy_alloc w2 _ none) (by simp)).grown hg5 (fun e=>g6.2.2.1 e.symm);have hc5:=hE5.1.2.1;have hf5:=hE5.2.1.2.1))
      all_goals
       have hN2:=RunR.next g1 g2 g3 g5 g6 g7 g4 HW8.out (by rw [← HN.out];exact hlt) x _ HX.out.symm HY.out g9 HAP.out.1 HAP.out.2.2.2.2.2.2 hg5 ho5' hat
       have HN2:=Lib.hid hN2
       clear hN2 hg5 ho5' hat hc5 hf5 hE5 g1 g2 g3 g4 g5 g6 g7 g9 he1 hf1 he1' hck2
       go_wp2
       go_roundw
       case rel=>exact ⟨k+1,by omega,by go_num,HN2.out⟩
       case measure=>simp [intOf];omega
    · have hxs:(x != s)=true:=by simpa using hxe
      have HY:Hid ((if x=s then f else t)=t):=Lib.hid (by rw [if_neg hxe])
      clear hxe
      go_wp2_with fail
      go_quiet (fail)
      go_wp2_with fail
      generalize hw2:World.drewN wr _=w2
      have hR2:RunR w w2 A Z E gk p s d m f t K k:=by rw [← hw2];exact HRR.out.drewN _
      obtain ⟨v2,g1,g2,g3,g4,g5,g6,g7,g8,g9⟩:=hR2
      have hkl2:k≤2:=by have:=HN.out;omega
      have hrl:=rdTo_len s f t K k (by rw [← HN.out];exact hk)
      have hvs:∃ a2 c2,v2 = .slice a2 k c2:=by
       obtain ⟨a2,c2,hv2,-⟩:=rowE_of_owns (l:=rdTo s f t K k) (by rw [hrl];exact g4) (by rw [hrl];omega) g8
       rw [hrl] at hv2;exact ⟨a2,c2,hv2⟩
      obtain ⟨a2,c2,rfl⟩:=hvs
      have hck2:w2.cell? ⟨gk,k,none⟩=some (.int .i64 x):=by rw [← hw2];exact hck
      have he1:=g3.1.2.1
      have hf1:=g3.2.1.2.1
      have he1':=(g3.grown (World.grownBy_alloc w2 (.cells #[.int .i64 x,.int .i64 t] 142) none) (by simp)).1.2.1
      have hsB:=g7.size
      have hwx:(Lit.int .i64 x).wf=true:=by rw [HX.out];exact HKW.out _ (by rw [List.getD_eq_getElem?_getD,List.getElem?_eq_getElem (by rw [← HN.out];exact hlt)];exact List.getElem_mem _)
      have HW8:Hid (WfE (rdTo s f t K (k+1))):=Lib.hid (by
       rw [rdTo_next s f t K k (by rw [← HN.out];exact hlt),← HX.out,HY.out]
       exact g8.snoc hwx (WalkArith.wf_i64 (by omega)))
      clear hw2 hck hcs hrl hwx
      go_region_law (first | (refine step_app1d rfl (.tmp 30) (.tmp 37) 23 rfl w.heap.size 142 _ (.agg #[.int .i64 0,.int .i64 0]) 2 16 Tryz.underlying23 infoEntF rfl (by decide) (.slice a2 k c2) k _ [.int .i64 x,.int .i64 t] (by rfl) g4 (by rfl) rfl (by intro u hu;simp at hu;rcases hu with rfl | rfl <;> rfl) (by omega) (by decide) hsB ?_;intro v5 w5 ho5' hnn hg5 hat;obtain ⟨gg5,cp5,rfl,hg5B,hg5lt⟩:=Own.slice ⟨ho5',hnn⟩;have hE5:=(g3.grown (World.grownBy_alloc w2 _ none) (by simp)).grown hg5 (fun e=>g6.2.2.1 e.symm);have hc5:=hE5.1.2.1;have hf5:=hE5.2.1.2.1))
      all_goals
       have hN2:=RunR.next g1 g2 g3 g5 g6 g7 g4 HW8.out (by rw [← HN.out];exact hlt) x _ HX.out.symm HY.out g9 HAP.out.1 HAP.out.2.2.2.2.2.2 hg5 ho5' hat
       have HN2:=Lib.hid hN2
       clear hN2 hg5 ho5' hat hc5 hf5 hE5 g1 g2 g3 g4 g5 g6 g7 g9 he1 hf1 he1' hck2
       go_wp2
       go_roundw
       case rel=>exact ⟨k+1,by omega,by go_num,HN2.out⟩
       case measure=>simp [intOf];omega
  · obtain rfl:k=n:=by omega
    obtain ⟨v,hA,hZ,hE,hown,-,hne,hb,hwf,hAl,-⟩:=hR
    rw [show rdTo s f t K k=rdsK p s d f t by rw [← HE1.out,HN.out]] at hown hwf
    have hrl:(rdsK p s d f t).length=k:=by rw [← HE1.out,rdTo_len _ _ _ _ _ (Nat.le_refl _),HN.out]
    have HRL:=Lib.hid hrl
    obtain ⟨R,hR⟩:∃ R,R=rdsK p s d f t:=⟨_,rfl⟩
    have HR:=Lib.hid hR
    rw [← hR] at hown hwf HRL
    clear hR hrl HE1 HKW
    have hk2:k≤2:=by have:=HN.out;omega
    have hvs:∃ a2 c2,v = .slice a2 k c2:=by
     obtain ⟨a2,c2,hv2,-⟩:=rowE_of_owns (l:=R) (by rw [HRL.out];exact hown) (by rw [HRL.out];omega) hwf
     rw [HRL.out] at hv2;exact ⟨a2,c2,hv2⟩
    obtain ⟨a2,c2,rfl⟩:=hvs
    have HST:Hid (St w wr A Z E p s d m true (.slice a2 k c2) (.slice none 0 0) R []):=Lib.hid ⟨hA,hZ,hE,by rw [HRL.out];exact hown,World.ownsRow_nil _ _ _ _,hwf,(fun e he=>by cases he),(fun q _=>by simp [Value.ownBlock]),⟨hne.1,hne.2.1,hne.2.2.1⟩,⟨by simp [Value.ownBlock],by simp [Value.ownBlock],by simp [Value.ownBlock]⟩,hb,hAl,HAP.out.2⟩
    obtain ⟨⟨e0,e1,e2⟩,⟨f0,f1,f2⟩,hEl⟩:=hE
    obtain ⟨⟨q0,q1,q2,q3⟩,-⟩:=hA
    have HZA:=Lib.hid hZ
    obtain ⟨⟨z0,z1,z2⟩,⟨y0,y1,y2⟩,hZl⟩:=hZ
    obtain ⟨-,n1,n2,n3,-⟩:=HAP.out
    have n4:Z≠A:=fun e=>n1 e.symm
    have n5:E≠A:=fun e=>n2 e.symm
    have n6:E≠Z:=fun e=>n3 e.symm
    have n7:Z≠wr.heap.size:=by omega
    have n8:E≠wr.heap.size:=by omega
    have n9:E≠wr.heap.size+1:=by omega
    have n10:Z≠wr.heap.size+1:=by omega
    have hbd:=actB_bd HV.out
    have hkd:=kind_of HV.out
    simp only at hbd hkd
    rcases (by omega:p=1∨p=6∨p=3∨p=5∨p=4∨p=2) with rfl | rfl | rfl | rfl | rfl | rfl
    · have HX1:Hid (effK 1 s d m f t=⟨true,R,[(s,m)]⟩):=Lib.hid (by rw [HR.out];rfl)
      go_upto_region 27 with (fail)
      generalize hw5:World.alloc _ _=w5
      have hS5:St w w5 A Z E 1 s d m true (.slice a2 k c2) (.slice (some ⟨wr.heap.size,0,none⟩) 1 1) R [(s,m)]:=by rw [← hw5];exact HST.out.lit [(s,m)] 1 rfl (by omega) _ rfl (fun e he=>by simp at he;subst he;exact ⟨WalkArith.wf_i64 (by omega),WalkArith.wf_i64 (by omega)⟩) _ rfl
      clear hw5
      clear e0 e1 e2 f0 f1 f2 hEl q0 q1 q2 q3 z0 z1 z2 y0 y1 y2 hZl n1 n2 n3 n4 n5 n6 n7 n8 n9 n10
      have HFI:=Lib.hid hS5.fin
      obtain ⟨⟨e0,e1,e2⟩,⟨f0,f1,f2⟩,hEl⟩:=hS5.eff
      obtain ⟨⟨z0,z1,z2⟩,⟨y0,y1,y2⟩,hZl⟩:=hS5.ans
      clear hS5
      go_wp2_with fail
      exact bodyPost_ret (results_eff Tryz.results182 _ (by rfl) HFI.out.1) rfl ⟨_,rfl,by rw [HX1.out];exact HFI.out.2.1,HFI.out.2.2⟩
    · by_cases hmf:m < f
      · have HX1:Hid (effK 6 s d m f t=⟨true,R,[(s,f - m)]⟩):=Lib.hid (by rw [HR.out];show Eff.mk _ _ [(s,max 0 (f - m))] = _;rw [show max 0 (f - m)=f - m by omega];rfl)
        go_upto_region 27 with (fail)
        generalize hw5:World.alloc _ _=w5
        have hS5:St w w5 A Z E 6 s d m true (.slice a2 k c2) (.slice (some ⟨wr.heap.size,0,none⟩) 1 1) R [(s,f - m)]:=by rw [← hw5];exact HST.out.lit [(s,f - m)] 1 rfl (by omega) _ rfl (fun e he=>by simp at he;subst he;exact ⟨WalkArith.wf_i64 (by omega),WalkArith.wf_i64 (by omega)⟩) _ rfl
        clear hw5
        clear e0 e1 e2 f0 f1 f2 hEl q0 q1 q2 q3 z0 z1 z2 y0 y1 y2 hZl n1 n2 n3 n4 n5 n6 n7 n8 n9 n10
        have HFI:=Lib.hid hS5.fin
        obtain ⟨⟨e0,e1,e2⟩,⟨f0,f1,f2⟩,hEl⟩:=hS5.eff
        obtain ⟨⟨z0,z1,z2⟩,⟨y0,y1,y2⟩,hZl⟩:=hS5.ans
        clear hS5
        go_wp2_with fail
        exact bodyPost_ret (results_eff Tryz.results182 _ (by rfl) HFI.out.1) rfl ⟨_,rfl,by rw [HX1.out];exact HFI.out.2.1,HFI.out.2.2⟩
      · have HX1:Hid (effK 6 s d m f t=⟨true,R,[(s,0)]⟩):=Lib.hid (by rw [HR.out];show Eff.mk _ _ [(s,max 0 (f - m))] = _;rw [show max 0 (f - m)=0 by omega];rfl)
        have hq:(m < f)=False:=eq_false hmf
        clear hmf
        go_upto_region 27 with (fail)
        generalize hw5:World.alloc _ _=w5
        have hS5:St w w5 A Z E 6 s d m true (.slice a2 k c2) (.slice (some ⟨wr.heap.size,0,none⟩) 1 1) R [(s,0)]:=by rw [← hw5];exact HST.out.lit [(s,0)] 1 rfl (by omega) _ rfl (fun e he=>by simp at he;subst he;exact ⟨WalkArith.wf_i64 (by omega),WalkArith.wf_i64 (by omega)⟩) _ rfl
        clear hw5
        clear e0 e1 e2 f0 f1 f2 hEl q0 q1 q2 q3 z0 z1 z2 y0 y1 y2 hZl n1 n2 n3 n4 n5 n6 n7 n8 n9 n10
        have HFI:=Lib.hid hS5.fin
        obtain ⟨⟨e0,e1,e2⟩,⟨f0,f1,f2⟩,hEl⟩:=hS5.eff
        obtain ⟨⟨z0,z1,z2⟩,⟨y0,y1,y2⟩,hZl⟩:=hS5.ans
        clear hS5
        go_wp2_with fail
        exact bodyPost_ret (results_eff Tryz.results182 _ (by rfl) HFI.out.1) rfl ⟨_,rfl,by rw [HX1.out];exact HFI.out.2.1,HFI.out.2.2⟩
    · have HX1:Hid (effK 3 s d m f t=⟨true,R,[(d,f)]⟩):=Lib.hid (by rw [HR.out];rfl)
      go_upto_region 27 with (fail)
      generalize hw5:World.alloc _ _=w5
      have hS5:St w w5 A Z E 3 s d m true (.slice a2 k c2) (.slice (some ⟨wr.heap.size,0,none⟩) 1 1) R [(d,f)]:=by rw [← hw5];exact HST.out.lit [(d,f)] 1 rfl (by omega) _ rfl (fun e he=>by simp at he;subst he;exact ⟨WalkArith.wf_i64 (by omega),WalkArith.wf_i64 (by omega)⟩) _ rfl
      clear hw5
      clear e0 e1 e2 f0 f1 f2 hEl q0 q1 q2 q3 z0 z1 z2 y0 y1 y2 hZl n1 n2 n3 n4 n5 n6 n7 n8 n9 n10
      have HFI:=Lib.hid hS5.fin
      obtain ⟨⟨e0,e1,e2⟩,⟨f0,f1,f2⟩,hEl⟩:=hS5.eff
      obtain ⟨⟨z0,z1,z2⟩,⟨y0,y1,y2⟩,hZl⟩:=hS5.ans
      clear hS5
      go_wp2_with fail
      exact bodyPost_ret (results_eff Tryz.results182 _ (by rfl) HFI.out.1) rfl ⟨_,rfl,by rw [HX1.out];exact HFI.out.2.1,HFI.out.2.2⟩
    · by_cases hv1:f+t≤1000000
      · have hb1:decide (f+t≤1000000)=true:=by simpa using hv1
        have HX1 : Hid (effK 5 s d m f t = ⟨true, R, [(d, f + t)]⟩) := Lib.hid (by rw [HR.out]; have hd : doneK 5 s d m f t = true := by simp [doneK, hv1]
                                                                                   unfold effK;rw [hd];rfl)
        go_upto_region 27 with (fail)
        generalize hw5:World.alloc _ _=w5
        have hS5:St w w5 A Z E 5 s d m true (.slice a2 k c2) (.slice (some ⟨wr.heap.size,0,none⟩) 1 1) R [(d,f+t)]:=by rw [← hw5];exact (HST.out.set0 true).lit [(d,f+t)] 1 rfl (by omega) _ rfl (fun e he=>by simp at he;subst he;exact ⟨WalkArith.wf_i64 (by omega),WalkArith.wf_i64 (by omega)⟩) _ (by simp [World.setCell])
        clear hw5
        clear e0 e1 e2 f0 f1 f2 hEl q0 q1 q2 q3 z0 z1 z2 y0 y1 y2 hZl n1 n2 n3 n4 n5 n6 n7 n8 n9 n10
        have HFI:=Lib.hid hS5.fin
        obtain ⟨⟨e0,e1,e2⟩,⟨f0,f1,f2⟩,hEl⟩:=hS5.eff
        obtain ⟨⟨z0,z1,z2⟩,⟨y0,y1,y2⟩,hZl⟩:=hS5.ans
        clear hS5
        go_wp2_with fail
        exact bodyPost_ret (results_eff Tryz.results182 _ (by rfl) HFI.out.1) rfl ⟨_,rfl,by rw [HX1.out];exact HFI.out.2.1,HFI.out.2.2⟩
      · have hb1:decide (f+t≤1000000)=false:=by simpa using hv1
        have HX1 : Hid (effK 5 s d m f t = ⟨false, R, []⟩) := Lib.hid (by rw [HR.out]; have hd : doneK 5 s d m f t = false := by simp [doneK, hv1]
                                                                          unfold effK;rw [hd];rfl)
        clear hv1
        go_upto_region 27 with (fail)
        generalize hw5:World.alloc _ _=w5
        have hS5:St w w5 A Z E 5 s d m false (.slice a2 k c2) (.slice (some ⟨wr.heap.size,0,none⟩) 1 1) R [(d,f+t)]:=by rw [← hw5];exact (HST.out.set0 false).lit [(d,f+t)] 1 rfl (by omega) _ rfl (fun e he=>by simp at he;subst he;exact ⟨WalkArith.wf_i64 (by omega),WalkArith.wf_i64 (by omega)⟩) _ (by simp [World.setCell])
        clear hw5
        clear e0 e1 e2 f0 f1 f2 hEl q0 q1 q2 q3 z0 z1 z2 y0 y1 y2 hZl n1 n2 n3 n4 n5 n6 n7 n8 n9 n10
        have HS5:=Lib.hid hS5
        obtain ⟨⟨e0,e1,e2⟩,⟨f0,f1,f2⟩,hEl⟩:=hS5.eff
        obtain ⟨⟨z0,z1,z2⟩,⟨y0,y1,y2⟩,hZl⟩:=hS5.ans
        clear hS5
        go_upto_region 29 with (fail)
        generalize hw6:World.alloc _ _=w6
        have hS6:St w w6 A Z E 5 s d m false (.slice a2 k c2) (.slice (some ⟨w5.heap.size,0,none⟩) 0 0) R []:=by rw [← hw6];exact HS5.out.lit [] 0 rfl (by omega) #[] rfl (fun e he=>by cases he) _ rfl
        clear hw6 e0 e1 e2 f0 f1 f2 hEl z0 z1 z2 y0 y1 y2 hZl
        have HFI:=Lib.hid hS6.fin
        obtain ⟨⟨e0,e1,e2⟩,⟨f0,f1,f2⟩,hEl⟩:=hS6.eff
        obtain ⟨⟨z0,z1,z2⟩,⟨y0,y1,y2⟩,hZl⟩:=hS6.ans
        clear hS6
        go_wp2_with fail
        exact bodyPost_ret (results_eff Tryz.results182 _ (by rfl) HFI.out.1) rfl ⟨_,rfl,by rw [HX1.out];exact HFI.out.2.1,HFI.out.2.2⟩
    · have HX1:Hid (effK 4 s d m f t=⟨true,R,pm d f [(s,t)]⟩):=Lib.hid (by rw [HR.out];rfl)
      go_wp2_with fail
      have hS4:=HST.out.alloc (.cells #[.int .i64 s,.int .i64 t] 142)
      have hl4:=own_lit (w:=wr) (B:=w.heap.size) 142 2 #[.int .i64 s,.int .i64 t] 1 hb.size (by unfold maxLen;omega) rfl
      have hr4:RowE (wr.alloc (.cells #[.int .i64 s,.int .i64 t] 142)) (some ⟨wr.heap.size,0,none⟩) 1 [(s,t)]:=rowE_owned hl4.1 rfl (by simp) (fun e he=>by simp at he;subst he;exact ⟨WalkArith.wf_i64 (by omega),WalkArith.wf_i64 (by omega)⟩)
      obtain ⟨w4,hw4⟩:∃ w4,w4=wr.alloc (.cells #[.int .i64 s,.int .i64 t] 142):=⟨_,rfl⟩
      rw [← hw4] at hS4 hr4 ⊢
      clear e0 e1 e2 f0 f1 f2 hEl q0 q1 q2 q3 z0 z1 z2 y0 y1 y2 hZl n1 n2 n3 n4 n5 n6 n7 n8 n9 n10
      clear hw4 hl4
      refine (l4Put_spec _ 1 1 [(s,t)] d f _ hr4 (by omega) (WalkArith.wf_i64 (by omega)) (WalkArith.wf_i64 (by omega))).mono ?_;rintro e w6 ⟨v6,rfl,ho6,hw6,hb6⟩
      have hS6:=hS4.row hb6 ho6.1 hw6
      obtain ⟨g6,c6,rfl,-,-⟩:=ho6.slice
      have hE6:=hS4.eff.below hb6
      obtain ⟨⟨e0,e1,e2⟩,⟨f0,f1,f2⟩,hEl⟩:=hE6
      clear ho6 hb6 hS4 hr4
      go_upto_region 27 with (fail)
      generalize hw7:World.setCell _ _ _=w7
      rw [hw7] at hS6
      clear hw7 e0 e1 e2 f0 f1 f2 hEl
      have HFI:=Lib.hid hS6.fin
      obtain ⟨⟨e0,e1,e2⟩,⟨f0,f1,f2⟩,hEl⟩:=hS6.eff
      obtain ⟨⟨z0,z1,z2⟩,⟨y0,y1,y2⟩,hZl⟩:=hS6.ans
      clear hS6
      go_wp2_with fail
      exact bodyPost_ret (results_eff Tryz.results182 _ (by rfl) HFI.out.1) rfl ⟨_,rfl,by rw [HX1.out];exact HFI.out.2.1,HFI.out.2.2⟩
    · by_cases hsd:s=d
      · subst hsd
        by_cases hfm:m≤f
        · have hge2:decide (m≤f)=true:=by simpa using hfm
          have HX1:Hid (effK 2 s s m f t=⟨true,R,[(s,f)]⟩):=Lib.hid (by
           rw [HR.out]
           have hdn:doneK 2 s s m f t=true:=by simp [doneK,hfm]
           unfold effK;rw [hdn]
           show Eff.mk true _ (if true=true then outsK 2 s s m f t else []) = _;rw [if_pos rfl,outsK,if_neg (by omega),if_neg (by omega),if_neg (by omega),if_neg (by omega),if_neg (by omega),if_pos rfl])
          go_wp2_with fail
          have hS4:=(HST.out.set0 true).alloc (.cells #[.int .i64 s,.int .i64 (f - m)] 142)
          have hl4:=own_lit (w:=wr.setCell ⟨E,0,none⟩ (.bool true)) (B:=w.heap.size) 142 2 #[.int .i64 s,.int .i64 (f - m)] 1 (by rw [size_setCell];exact hb.size) (by unfold maxLen;omega) rfl
          rw [size_setCell] at hl4
          have hr4:RowE ((wr.setCell ⟨E,0,none⟩ (.bool true)).alloc (.cells #[.int .i64 s,.int .i64 (f - m)] 142)) (some ⟨wr.heap.size,0,none⟩) 1 [(s,f - m)]:=rowE_owned hl4.1 rfl (by simp) (fun e he=>by simp at he;subst he;exact ⟨WalkArith.wf_i64 (by omega),WalkArith.wf_i64 (by omega)⟩)
          obtain ⟨w4,hw4⟩:∃ w4,w4=(wr.setCell ⟨E,0,none⟩ (.bool true)).alloc (.cells #[.int .i64 s,.int .i64 (f - m)] 142):=⟨_,rfl⟩
          rw [← hw4] at hS4 hr4 ⊢
          clear e0 e1 e2 f0 f1 f2 hEl q0 q1 q2 q3 z0 z1 z2 y0 y1 y2 hZl n1 n2 n3 n4 n5 n6 n7 n8 n9 n10
          clear hw4 hl4
          refine (l4Put_spec _ 1 1 [(s,f - m)] s (t+m) _ hr4 (by omega) (WalkArith.wf_i64 (by omega)) (WalkArith.wf_i64 (by omega))).mono ?_;rintro e w6 ⟨v6,rfl,ho6,hw6,hb6⟩
          have hS6:=hS4.row hb6 ho6.1 hw6
          obtain ⟨g6,c6,rfl,-,-⟩:=ho6.slice
          have hE6:=hS4.eff.below hb6
          obtain ⟨⟨e0,e1,e2⟩,⟨f0,f1,f2⟩,hEl⟩:=hE6
          clear ho6 hb6 hS4 hr4
          go_upto_region 25 with (fail)
          generalize hw7:World.setCell _ _ _=w7
          rw [hw7] at hS6
          clear hw7 e0 e1 e2 f0 f1 f2 hEl
          obtain ⟨⟨q0,q1,q2,q3⟩,-⟩:=hS6.act
          have HS6:=Lib.hid hS6
          obtain ⟨⟨e0,e1,e2⟩,⟨f0,f1,f2⟩,hEl⟩:=hS6.eff
          clear hS6
          go_upto_region 27 with (fail)
          generalize hw8:World.alloc _ _=w8
          have hS8:St w w8 A Z E 2 s s m true (.slice a2 k c2) (.slice (some ⟨w7.heap.size,0,none⟩) 1 1) R [(s,f)]:=by rw [← hw8];exact HS6.out.lit [(s,f)] 1 rfl (by omega) _ rfl (fun e he=>by simp at he;subst he;exact ⟨WalkArith.wf_i64 (by omega),WalkArith.wf_i64 (by omega)⟩) _ rfl
          clear hw8 e0 e1 e2 f0 f1 f2 hEl q0 q1 q2 q3
          have HFI:=Lib.hid hS8.fin
          obtain ⟨⟨e0,e1,e2⟩,⟨f0,f1,f2⟩,hEl⟩:=hS8.eff
          obtain ⟨⟨z0,z1,z2⟩,⟨y0,y1,y2⟩,hZl⟩:=hS8.ans
          clear hS8
          go_wp2_with fail
          exact bodyPost_ret (results_eff Tryz.results182 _ (by rfl) HFI.out.1) rfl ⟨_,rfl,by rw [HX1.out];exact HFI.out.2.1,HFI.out.2.2⟩
        · have hge2:decide (m≤f)=false:=by simpa using hfm
          have HX1:Hid (effK 2 s s m f t=⟨false,R,[]⟩):=Lib.hid (by
           rw [HR.out]
           have hdn:doneK 2 s s m f t=false:=by simp [doneK,hfm]
           unfold effK;rw [hdn]
           rfl)
          clear hfm
          go_wp2_with fail
          have hS4:=(HST.out.set0 false).alloc (.cells #[.int .i64 s,.int .i64 (f - m)] 142)
          have hl4:=own_lit (w:=wr.setCell ⟨E,0,none⟩ (.bool false)) (B:=w.heap.size) 142 2 #[.int .i64 s,.int .i64 (f - m)] 1 (by rw [size_setCell];exact hb.size) (by unfold maxLen;omega) rfl
          rw [size_setCell] at hl4
          have hr4:RowE ((wr.setCell ⟨E,0,none⟩ (.bool false)).alloc (.cells #[.int .i64 s,.int .i64 (f - m)] 142)) (some ⟨wr.heap.size,0,none⟩) 1 [(s,f - m)]:=rowE_owned hl4.1 rfl (by simp) (fun e he=>by simp at he;subst he;exact ⟨WalkArith.wf_i64 (by omega),WalkArith.wf_i64 (by omega)⟩)
          obtain ⟨w4,hw4⟩:∃ w4,w4=(wr.setCell ⟨E,0,none⟩ (.bool false)).alloc (.cells #[.int .i64 s,.int .i64 (f - m)] 142):=⟨_,rfl⟩
          rw [← hw4] at hS4 hr4 ⊢
          clear e0 e1 e2 f0 f1 f2 hEl q0 q1 q2 q3 z0 z1 z2 y0 y1 y2 hZl n1 n2 n3 n4 n5 n6 n7 n8 n9 n10
          clear hw4 hl4
          refine (l4Put_spec _ 1 1 [(s,f - m)] s (t+m) _ hr4 (by omega) (WalkArith.wf_i64 (by omega)) (WalkArith.wf_i64 (by omega))).mono ?_;rintro e w6 ⟨v6,rfl,ho6,hw6,hb6⟩
          have hS6:=hS4.row hb6 ho6.1 hw6
          obtain ⟨g6,c6,rfl,-,-⟩:=ho6.slice
          have hE6:=hS4.eff.below hb6
          obtain ⟨⟨e0,e1,e2⟩,⟨f0,f1,f2⟩,hEl⟩:=hE6
          clear ho6 hb6 hS4 hr4
          go_upto_region 25 with (fail)
          generalize hw7:World.setCell _ _ _=w7
          rw [hw7] at hS6
          clear hw7 e0 e1 e2 f0 f1 f2 hEl
          obtain ⟨⟨q0,q1,q2,q3⟩,-⟩:=hS6.act
          have HS6:=Lib.hid hS6
          obtain ⟨⟨e0,e1,e2⟩,⟨f0,f1,f2⟩,hEl⟩:=hS6.eff
          clear hS6
          go_upto_region 27 with (fail)
          generalize hw8:World.alloc _ _=w8
          have hS8:St w w8 A Z E 2 s s m false (.slice a2 k c2) (.slice (some ⟨w7.heap.size,0,none⟩) 1 1) R [(s,f)]:=by rw [← hw8];exact HS6.out.lit [(s,f)] 1 rfl (by omega) _ rfl (fun e he=>by simp at he;subst he;exact ⟨WalkArith.wf_i64 (by omega),WalkArith.wf_i64 (by omega)⟩) _ rfl
          clear hw8 e0 e1 e2 f0 f1 f2 hEl q0 q1 q2 q3
          have HS5:=Lib.hid hS8
          obtain ⟨⟨e0,e1,e2⟩,⟨f0,f1,f2⟩,hEl⟩:=hS8.eff
          obtain ⟨⟨z0,z1,z2⟩,⟨y0,y1,y2⟩,hZl⟩:=hS8.ans
          clear hS8
          go_upto_region 29 with (fail)
          generalize hw6:World.alloc _ _=w6
          have hS6:St w w6 A Z E 2 s s m false (.slice a2 k c2) (.slice (some ⟨w8.heap.size,0,none⟩) 0 0) R []:=by rw [← hw6];exact HS5.out.lit [] 0 rfl (by omega) #[] rfl (fun e he=>by cases he) _ rfl
          clear hw6 e0 e1 e2 f0 f1 f2 hEl z0 z1 z2 y0 y1 y2 hZl
          have HFI:=Lib.hid hS6.fin
          obtain ⟨⟨e0,e1,e2⟩,⟨f0,f1,f2⟩,hEl⟩:=hS6.eff
          obtain ⟨⟨z0,z1,z2⟩,⟨y0,y1,y2⟩,hZl⟩:=hS6.ans
          clear hS6
          go_wp2_with fail
          exact bodyPost_ret (results_eff Tryz.results182 _ (by rfl) HFI.out.1) rfl ⟨_,rfl,by rw [HX1.out];exact HFI.out.2.1,HFI.out.2.2⟩
      · have hsb:(s == d)=false:=by simpa using hsd
        by_cases hfm:m≤f
        · have hge2:decide (m≤f)=true:=by simpa using hfm
          by_cases htm:t+m≤1000000
          · have htb:decide (t+m≤1000000)=true:=by simpa using htm
            have HX1:Hid (effK 2 s d m f t=⟨true,R,pm d (t+m) [(s,f - m)]⟩):=Lib.hid (by
             rw [HR.out]
             have hdn:doneK 2 s d m f t=true:=by simp [doneK,hfm,htm]
             unfold effK;rw [hdn]
             show Eff.mk true _ (if true=true then outsK 2 s d m f t else []) = _;rw [if_pos rfl,outsK,if_neg (by omega),if_neg (by omega),if_neg (by omega),if_neg (by omega),if_neg (by omega)];simp [hsd])
            clear hsd
            go_wp2_with fail
            have hS4:=(HST.out.set0 true).alloc (.cells #[.int .i64 s,.int .i64 (f - m)] 142)
            have hl4:=own_lit (w:=wr.setCell ⟨E,0,none⟩ (.bool true)) (B:=w.heap.size) 142 2 #[.int .i64 s,.int .i64 (f - m)] 1 (by rw [size_setCell];exact hb.size) (by unfold maxLen;omega) rfl
            rw [size_setCell] at hl4
            have hr4:RowE ((wr.setCell ⟨E,0,none⟩ (.bool true)).alloc (.cells #[.int .i64 s,.int .i64 (f - m)] 142)) (some ⟨wr.heap.size,0,none⟩) 1 [(s,f - m)]:=rowE_owned hl4.1 rfl (by simp) (fun e he=>by simp at he;subst he;exact ⟨WalkArith.wf_i64 (by omega),WalkArith.wf_i64 (by omega)⟩)
            obtain ⟨w4,hw4⟩:∃ w4,w4=(wr.setCell ⟨E,0,none⟩ (.bool true)).alloc (.cells #[.int .i64 s,.int .i64 (f - m)] 142):=⟨_,rfl⟩
            rw [← hw4] at hS4 hr4 ⊢
            clear e0 e1 e2 f0 f1 f2 hEl q0 q1 q2 q3 z0 z1 z2 y0 y1 y2 hZl n1 n2 n3 n4 n5 n6 n7 n8 n9 n10
            clear hw4 hl4
            refine (l4Put_spec _ 1 1 [(s,f - m)] d (t+m) _ hr4 (by omega) (WalkArith.wf_i64 (by omega)) (WalkArith.wf_i64 (by omega))).mono ?_;rintro e w6 ⟨v6,rfl,ho6,hw6,hb6⟩
            have hS6:=hS4.row hb6 ho6.1 hw6
            obtain ⟨g6,c6,rfl,-,-⟩:=ho6.slice
            have hE6:=hS4.eff.below hb6
            obtain ⟨⟨e0,e1,e2⟩,⟨f0,f1,f2⟩,hEl⟩:=hE6
            clear ho6 hb6 hS4 hr4
            go_upto_region 25 with (fail)
            generalize hw7:World.setCell _ _ _=w7
            rw [hw7] at hS6
            clear hw7 e0 e1 e2 f0 f1 f2 hEl
            obtain ⟨⟨q0,q1,q2,q3⟩,-⟩:=hS6.act
            go_upto_region 27 with (fail)
            clear q0 q1 q2 q3
            have HFI:=Lib.hid hS6.fin
            obtain ⟨⟨e0,e1,e2⟩,⟨f0,f1,f2⟩,hEl⟩:=hS6.eff
            obtain ⟨⟨z0,z1,z2⟩,⟨y0,y1,y2⟩,hZl⟩:=hS6.ans
            clear hS6
            go_wp2_with fail
            exact bodyPost_ret (results_eff Tryz.results182 _ (by rfl) HFI.out.1) rfl ⟨_,rfl,by rw [HX1.out];exact HFI.out.2.1,HFI.out.2.2⟩
          · have htb:decide (t+m≤1000000)=false:=by simpa using htm
            have HX1:Hid (effK 2 s d m f t=⟨false,R,[]⟩):=Lib.hid (by
             rw [HR.out]
             have hdn:doneK 2 s d m f t=false:=by simp [doneK,hsd,htm]
             unfold effK;rw [hdn]
             rfl)
            clear hsd htm
            go_wp2_with fail
            have hS4:=(HST.out.set0 false).alloc (.cells #[.int .i64 s,.int .i64 (f - m)] 142)
            have hl4:=own_lit (w:=wr.setCell ⟨E,0,none⟩ (.bool false)) (B:=w.heap.size) 142 2 #[.int .i64 s,.int .i64 (f - m)] 1 (by rw [size_setCell];exact hb.size) (by unfold maxLen;omega) rfl
            rw [size_setCell] at hl4
            have hr4:RowE ((wr.setCell ⟨E,0,none⟩ (.bool false)).alloc (.cells #[.int .i64 s,.int .i64 (f - m)] 142)) (some ⟨wr.heap.size,0,none⟩) 1 [(s,f - m)]:=rowE_owned hl4.1 rfl (by simp) (fun e he=>by simp at he;subst he;exact ⟨WalkArith.wf_i64 (by omega),WalkArith.wf_i64 (by omega)⟩)
            obtain ⟨w4,hw4⟩:∃ w4,w4=(wr.setCell ⟨E,0,none⟩ (.bool false)).alloc (.cells #[.int .i64 s,.int .i64 (f - m)] 142):=⟨_,rfl⟩
            rw [← hw4] at hS4 hr4 ⊢
            clear e0 e1 e2 f0 f1 f2 hEl q0 q1 q2 q3 z0 z1 z2 y0 y1 y2 hZl n1 n2 n3 n4 n5 n6 n7 n8 n9 n10
            clear hw4 hl4
            refine (l4Put_spec _ 1 1 [(s,f - m)] d (t+m) _ hr4 (by omega) (WalkArith.wf_i64 (by omega)) (WalkArith.wf_i64 (by omega))).mono ?_;rintro e w6 ⟨v6,rfl,ho6,hw6,hb6⟩
            have hS6:=hS4.row hb6 ho6.1 hw6
            obtain ⟨g6,c6,rfl,-,-⟩:=ho6.slice
            have hE6:=hS4.eff.below hb6
            obtain ⟨⟨e0,e1,e2⟩,⟨f0,f1,f2⟩,hEl⟩:=hE6
            clear ho6 hb6 hS4 hr4
            go_upto_region 25 with (fail)
            generalize hw7:World.setCell _ _ _=w7
            rw [hw7] at hS6
            clear hw7 e0 e1 e2 f0 f1 f2 hEl
            obtain ⟨⟨q0,q1,q2,q3⟩,-⟩:=hS6.act
            go_upto_region 27 with (fail)
            clear q0 q1 q2 q3
            have HS5:=Lib.hid hS6
            obtain ⟨⟨e0,e1,e2⟩,⟨f0,f1,f2⟩,hEl⟩:=hS6.eff
            obtain ⟨⟨z0,z1,z2⟩,⟨y0,y1,y2⟩,hZl⟩:=hS6.ans
            clear hS6
            go_upto_region 29 with (fail)
            generalize hw6:World.alloc _ _=w6
            have hS6:St w w6 A Z E 2 s d m false (.slice a2 k c2) (.slice (some ⟨w7.heap.size,0,none⟩) 0 0) R []:=by rw [← hw6];exact HS5.out.lit [] 0 rfl (by omega) #[] rfl (fun e he=>by cases he) _ rfl
            clear hw6 e0 e1 e2 f0 f1 f2 hEl z0 z1 z2 y0 y1 y2 hZl
            have HFI:=Lib.hid hS6.fin
            obtain ⟨⟨e0,e1,e2⟩,⟨f0,f1,f2⟩,hEl⟩:=hS6.eff
            obtain ⟨⟨z0,z1,z2⟩,⟨y0,y1,y2⟩,hZl⟩:=hS6.ans
            clear hS6
            go_wp2_with fail
            exact bodyPost_ret (results_eff Tryz.results182 _ (by rfl) HFI.out.1) rfl ⟨_,rfl,by rw [HX1.out];exact HFI.out.2.1,HFI.out.2.2⟩
        · have hge2:decide (m≤f)=false:=by simpa using hfm
          have HX1:Hid (effK 2 s d m f t=⟨false,R,[]⟩):=Lib.hid (by
           rw [HR.out]
           have hdn:doneK 2 s d m f t=false:=by simp [doneK,hfm]
           unfold effK;rw [hdn]
           rfl)
          clear hfm hsd
          go_wp2_with fail
          have hS4:=(HST.out.set0 false).alloc (.cells #[.int .i64 s,.int .i64 (f - m)] 142)
          have hl4:=own_lit (w:=wr.setCell ⟨E,0,none⟩ (.bool false)) (B:=w.heap.size) 142 2 #[.int .i64 s,.int .i64 (f - m)] 1 (by rw [size_setCell];exact hb.size) (by unfold maxLen;omega) rfl
          rw [size_setCell] at hl4
          have hr4:RowE ((wr.setCell ⟨E,0,none⟩ (.bool false)).alloc (.cells #[.int .i64 s,.int .i64 (f - m)] 142)) (some ⟨wr.heap.size,0,none⟩) 1 [(s,f - m)]:=rowE_owned hl4.1 rfl (by simp) (fun e he=>by simp at he;subst he;exact ⟨WalkArith.wf_i64 (by omega),WalkArith.wf_i64 (by omega)⟩)
          obtain ⟨w4,hw4⟩:∃ w4,w4=(wr.setCell ⟨E,0,none⟩ (.bool false)).alloc (.cells #[.int .i64 s,.int .i64 (f - m)] 142):=⟨_,rfl⟩
          rw [← hw4] at hS4 hr4 ⊢
          clear e0 e1 e2 f0 f1 f2 hEl q0 q1 q2 q3 z0 z1 z2 y0 y1 y2 hZl n1 n2 n3 n4 n5 n6 n7 n8 n9 n10
          clear hw4 hl4
          refine (l4Put_spec _ 1 1 [(s,f - m)] d (t+m) _ hr4 (by omega) (WalkArith.wf_i64 (by omega)) (WalkArith.wf_i64 (by omega))).mono ?_;rintro e w6 ⟨v6,rfl,ho6,hw6,hb6⟩
          have hS6:=hS4.row hb6 ho6.1 hw6
          obtain ⟨g6,c6,rfl,-,-⟩:=ho6.slice
          have hE6:=hS4.eff.below hb6
          obtain ⟨⟨e0,e1,e2⟩,⟨f0,f1,f2⟩,hEl⟩:=hE6
          clear ho6 hb6 hS4 hr4
          go_upto_region 25 with (fail)
          generalize hw7:World.setCell _ _ _=w7
          rw [hw7] at hS6
          clear hw7 e0 e1 e2 f0 f1 f2 hEl
          obtain ⟨⟨q0,q1,q2,q3⟩,-⟩:=hS6.act
          go_upto_region 27 with (fail)
          clear q0 q1 q2 q3
          have HS5:=Lib.hid hS6
          obtain ⟨⟨e0,e1,e2⟩,⟨f0,f1,f2⟩,hEl⟩:=hS6.eff
          obtain ⟨⟨z0,z1,z2⟩,⟨y0,y1,y2⟩,hZl⟩:=hS6.ans
          clear hS6
          go_upto_region 29 with (fail)
          generalize hw6:World.alloc _ _=w6
          have hS6:St w w6 A Z E 2 s d m false (.slice a2 k c2) (.slice (some ⟨w7.heap.size,0,none⟩) 0 0) R []:=by rw [← hw6];exact HS5.out.lit [] 0 rfl (by omega) #[] rfl (fun e he=>by cases he) _ rfl
          clear hw6 e0 e1 e2 f0 f1 f2 hEl z0 z1 z2 y0 y1 y2 hZl
          have HFI:=Lib.hid hS6.fin
          obtain ⟨⟨e0,e1,e2⟩,⟨f0,f1,f2⟩,hEl⟩:=hS6.eff
          obtain ⟨⟨z0,z1,z2⟩,⟨y0,y1,y2⟩,hZl⟩:=hS6.ans
          clear hS6
          go_wp2_with fail
          exact bodyPost_ret (results_eff Tryz.results182 _ (by rfl) HFI.out.1) rfl ⟨_,rfl,by rw [HX1.out];exact HFI.out.2.1,HFI.out.2.2⟩
theorem below_ce {B G o:Nat} {w w':World} {v:Value} (hb:Below B w w') (hG:G < B) (hc:w.cell? ⟨G,o,none⟩=some v):w'.cell? ⟨G,o,none⟩=some v:=(hb.cell (p:=⟨G,o,none⟩) hG).trans hc
theorem set3_cell {w:World} {A Z o:Nat} {v p q r:Value} (hne:A≠Z) (hc:w.cell? ⟨A,o,none⟩=some v):(((w.setCell ⟨Z,0,none⟩ p).setCell ⟨Z,1,none⟩ q).setCell ⟨Z,2,none⟩ r).cell? ⟨A,o,none⟩=some v :=
 (set_grown _ Z 2 r).cell ((set_grown _ Z 1 q).cell ((set_grown w Z 0 p).cell hc (by simp;exact hne)) (by simp;exact hne)) (by simp;exact hne)
set_option maxRecDepth 100000 in
set_option maxHeartbeats 4000000 in
theorem runAction_spec (a:Option Addr) (n cap:Nat) (S:List Ent) (p s d m:Int) (w:World) (h:RowE w a n S) :
  Calls Tryz.prog 173 #[.slice a n cap,.agg #[.int .i64 p,.int .i64 s,.int .i64 d,.int .i64 m]] w (NewF w 142 (runM S ⟨p,s,d,m⟩)):=by
 have hA:=actAt_new w 113 p s d m
 have hb0:=((Below.refl w.heap.size w).alloc (Nat.le_refl _) (.cells #[.int .i64 p,.int .i64 s,.int .i64 d,.int .i64 m] 113)).alloc (by simp) (.cells #[.bool false,.slice none 0 0,.slice none 0 0] 178)
 have hZ:=zAt_new (w.alloc (.cells #[.int .i64 p,.int .i64 s,.int .i64 d,.int .i64 m] 113)) 178
 have hsz:((w.alloc (.cells #[.int .i64 p,.int .i64 s,.int .i64 d,.int .i64 m] 113)).alloc (.cells #[.bool false,.slice none 0 0,.slice none 0 0] 178)).heap.size=w.heap.size+2:=by simp
 rw [World.size_alloc] at hZ
 replace hA:=hA.grown (World.grownBy_alloc _ (.cells #[.bool false,.slice none 0 0,.slice none 0 0] 178) none) (by simp)
 go_enter Tryz.func173,Tryz.ntmps173
 go_wp2_with fail
 have hr0:=h.below hb0
 obtain ⟨w0,hw0⟩:∃ w0,w0=(w.alloc (.cells #[.int .i64 p,.int .i64 s,.int .i64 d,.int .i64 m] 113)).alloc (.cells #[.bool false,.slice none 0 0,.slice none 0 0] 178):=⟨_,rfl⟩
 rw [← hw0] at hA hZ hb0 hr0 hsz ⊢
 clear hw0 h
 refine (storeValid_spec a n cap S _ hr0).mono ?_;rintro e w1 ⟨rfl,hd1⟩
 have hb1:=hd1.below w0.heap.size
 have hA1:=hA.grown (Below.grownBy hb1 none) (by simp)
 have hZ1:=hZ.grown (Below.grownBy hb1 none) (by simp)
 have hr1:=hr0.below hb1
 have hb01:=hb0.trans (hb1.mono hb0.size)
 have hs1:w.heap.size+2≤w1.heap.size:=by have:=hb1.size;omega
 clear hA hZ hr0 hb0 hsz hd1 hb1
 cases hS:storeB S with
 | false =>
  have HM:Hid (runM S ⟨p,s,d,m⟩=noEff):=Lib.hid (runM_no (by rw [hS];rfl))
  clear hS
  have h0:EAt w1 (w.heap.size+1) false (.slice none 0 0) (.slice none 0 0):=hZ1
  have HE:=Lib.hid (((h0.set0 false).set1 (.slice none 0 0)).set2 (.slice none 0 0))
  have HB:=Lib.hid (below_set3 hb01 (Z:=w.heap.size+1) (by omega) 0 1 2 (.bool false) (.slice none 0 0) (.slice none 0 0))
  obtain ⟨⟨z0,z1,z2⟩,⟨y0,y1,y2⟩,hZl⟩:=hZ1
  clear h0 hb01 hA1 hr1
  go_wp2_with fail
  exact bodyPost_ret (results_eff Tryz.results173 _ (by rfl) HE.out) rfl ⟨_,rfl,by rw [HM.out];exact ownF_zero _ _ _,HB.out⟩
 | true =>
  have HSS:=Lib.hid hS
  clear hS
  obtain ⟨⟨q0,q1,q2,q3⟩,-⟩:=hA1
  go_wp2_with fail
  refine (actionValid_spec p s d m _).mono ?_;rintro e w2 ⟨rfl,hb2⟩
  have hZ2:=hZ1.grown (Below.grownBy hb2 none) (by simp)
  have c0:=below_ce hb2 (show w.heap.size < w1.heap.size by omega) q0
  have c1:=below_ce hb2 (show w.heap.size < w1.heap.size by omega) q1
  have c2:=below_ce hb2 (show w.heap.size < w1.heap.size by omega) q2
  have c3:=below_ce hb2 (show w.heap.size < w1.heap.size by omega) q3
  have hr2:=hr1.below hb2
  have hb02:=hb01.trans (hb2.mono hb01.size)
  have hs2:w.heap.size+2≤w2.heap.size:=by have:=hb2.size;omega
  clear hZ1 hr1 hb01 hb2 q0 q1 q2 q3 hs1
  cases hv:actB ⟨p,s,d,m⟩ with
  | false =>
   have HM:Hid (runM S ⟨p,s,d,m⟩=noEff):=Lib.hid (runM_no (by rw [hv];simp))
   clear hv
   have h0:EAt w2 (w.heap.size+1) false (.slice none 0 0) (.slice none 0 0):=hZ2
   have HE:=Lib.hid (((h0.set0 false).set1 (.slice none 0 0)).set2 (.slice none 0 0))
   have HB:=Lib.hid (below_set3 hb02 (Z:=w.heap.size+1) (by omega) 0 1 2 (.bool false) (.slice none 0 0) (.slice none 0 0))
   obtain ⟨⟨z0,z1,z2⟩,⟨y0,y1,y2⟩,hZl⟩:=hZ2
   clear h0 hb02 hr2
   go_wp2_with fail
   exact bodyPost_ret (results_eff Tryz.results173 _ (by rfl) HE.out) rfl ⟨_,rfl,by rw [HM.out];exact ownF_zero _ _ _,HB.out⟩
  | true =>
   have HV:=Lib.hid hv
   have HM:Hid (runM S ⟨p,s,d,m⟩=effK p s d m (atM S s) (atM S d)):=Lib.hid (runM_yes HSS.out hv)
   have HF:=Lib.hid (atM_bd ((storeB_ok S).1 HSS.out).2 s)
   have HT:=Lib.hid (atM_bd ((storeB_ok S).1 HSS.out).2 d)
   have HLR:=Lib.hid (show (effK p s d m (atM S s) (atM S d)).rds.length≤4000000 from by have:=runM_rlen S ⟨p,s,d,m⟩;rw [HM.out] at this;omega)
   have HLW:=Lib.hid (show (effK p s d m (atM S s) (atM S d)).wrs.length≤4000000 from by have:=runM_wlen S ⟨p,s,d,m⟩;rw [HM.out] at this;omega)
   clear hv
   obtain ⟨Z,hZe⟩:∃ Z,Z=w.heap.size+1:=⟨_,rfl⟩
   obtain ⟨A,hAe⟩:∃ A,A=w.heap.size:=⟨_,rfl⟩
   rw [← hZe] at hZ2
   rw [← hAe] at c0 c1 c2 c3
   have hal:A < w2.heap.size:=by omega
   have hAZ:A≠Z:=by omega
   have HZw:=Lib.hid (show w.heap.size≤Z by omega)
   have HZ2:=Lib.hid hZ2
   have hzz:Z < w2.heap.size:=by omega
   obtain ⟨⟨z0,z1,z2⟩,⟨y0,y1,y2⟩,hZl⟩:=hZ2
   go_wp2_with fail
   rw [← hZe,← hAe]
   clear hZe hAe
   go_region_held3 (fun w'=>w'.cell? ⟨A,0,none⟩=some (.int .i64 p)∧w'.cell? ⟨A,1,none⟩=some (.int .i64 s)∧w'.cell? ⟨A,2,none⟩=some (.int .i64 d)∧w'.cell? ⟨A,3,none⟩=some (.int .i64 m)) (first | exact ⟨c0,c1,c2,c3⟩ | exact ⟨d0,d1,d2,d3⟩ | exact ⟨set3_cell hAZ d0,set3_cell hAZ d1,set3_cell hAZ d2,set3_cell hAZ d3⟩ | go_keep)
    (first | (go_at_call 180;refine (l2At_spec a n cap S _ _ (by exact hr2)).mono ?_;rintro e w' ⟨rfl,rfl⟩) | (go_at_call 182;refine (l6Run_spec p s d m _ _ _ HV.out HF.out HT.out).mono ?_;rintro e w6 ⟨v6,rfl,hF6,hb6'⟩;have hb6:Below w2.heap.size w2 w6:=(by first | exact hb6' | exact (Below.refl _ w2).drew.trans hb6' | exact (Below.refl _ w2).drew.drew.trans hb6');obtain ⟨va,ca,vb,cb,rfl,-⟩:=hF6.rows HLR.out HLW.out;have d0:=below_ce hb6 hal c0;have d1:=below_ce hb6 hal c1;have d2:=below_ce hb6 hal c2;have d3:=below_ce hb6 hal c3;have hZ6:=HZ2.out.grown (Below.grownBy hb6 none) (by simp);have x0:=hZ6.1.1;have x1:=hZ6.1.2.1;have x2:=hZ6.1.2.2;have v0:=hZ6.2.1.1;have v1:=hZ6.2.1.2.1;have v2:=hZ6.2.1.2.2))
   all_goals
    obtain ⟨X,hX⟩:∃ X,X=effK p s d m (atM S s) (atM S d):=⟨_,rfl⟩
    rw [← hX] at hF6 HM ⊢
    have h0:EAt w6 Z false (.slice none 0 0) (.slice none 0 0):=hZ6
    have HE:=Lib.hid (((h0.set0 X.done).set1 (.slice va X.rds.length ca)).set2 (.slice vb X.wrs.length cb))
    have HFF:=Lib.hid ((ownF_set3 hF6 (Z:=Z) (hF6.apart hzz) 0 1 2 (.bool X.done) (.slice va X.rds.length ca) (.slice vb X.wrs.length cb)).mono (show w.heap.size≤_ from by first | exact hb02.size | exact hb02.drew.size))
    have HB:=Lib.hid (below_set3 (hb02.trans (hb6.mono hb02.size)) (Z:=Z) HZw.out 0 1 2 (.bool X.done) (.slice va X.rds.length ca) (.slice vb X.wrs.length cb))
    clear hX hF6 h0 hb02 hb6 hb6' hZ6 d0 d1 d2 d3 c0 c1 c2 c3 x0 x1 x2 v0 v1 v2 z0 z1 z2 y0 y1 y2
    go_wp2
    exact bodyPost_ret (results_eff Tryz.results173 _ (by rfl) HE.out) rfl ⟨_,rfl,by rw [HM.out];exact HFF.out,HB.out⟩
end Go.Proofs.YtpnjgmgmakmgeaaGreat
