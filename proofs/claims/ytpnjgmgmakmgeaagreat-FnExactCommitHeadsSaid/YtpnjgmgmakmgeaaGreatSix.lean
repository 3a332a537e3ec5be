/- Texts of ours that stand together: ViewMem, ViewOps, Runs, ImplRun, ImplApp -/
import Derived.Test.YtpnjgmgmakmgeaaGreatEffA
import Derived.Test.YtpnjgmgmakmgeaaGreatLayP
import Derived.Test.YtpnjgmgmakmgeaaGreatFour
import Derived.Deep.RegionLaw
import Derived.Test.YtpnjgmgmakmgeaaGreatFive
import Derived.BigQuiet
import Derived.Deep.RegionHeld3
/- The view that records,in memory. -/
namespace Go.Proofs.YtpnjgmgmakmgeaaGreat
open Go.RowKit Go.Maps
set_option linter.unusedVariables false
structure View (w:World) (B G D:Nat) (A:List Int) (R:List Ent) (K:Nat) (f:Int→Option Int):Prop where
 out:∃ v m,VCells w G A v m∧w.ownsRow B 142 2 v R.length (flatE R)∧MapF w m K f∧WfE R∧B≤G∧B≤m∧m≠G∧v.ownBlock≠some G∧v.ownBlock≠some m∧(D < w.heap.size∧D≠G∧D≠m∧v.ownBlock≠some D)
theorem View.drewN {w:World} {B G D K:Nat} {A:List Int} {R:List Ent} {f:Int→Option Int} (h:View w B G D A R K f) (n:Nat):View (w.drewN n) B G D A R K f:=⟨h.out⟩
theorem View.drew {w:World} {B G D K:Nat} {A:List Int} {R:List Ent} {f:Int→Option Int} (h:View w B G D A R K f):View w.drew B G D A R K f:=⟨h.out⟩
theorem View.below {w w':World} {B G D K:Nat} {A:List Int} {R:List Ent} {f:Int→Option Int} (h:View w B G D A R K f) (hb:Below w.heap.size w w'):View w' B G D A R K f:=by
 obtain ⟨v,m,h1,h2,h3,h4,h5,h6,h7,h8,h9,h10,h11⟩:=h
 exact ⟨v,m,h1.grown (Below.grownBy hb none) (by simp),owns_below h2 hb,h3.below hb,h4,h5,h6,h7,h8,h9,Nat.lt_of_lt_of_le h10 hb.size,h11⟩
theorem View.fresh {w:World} {B G D K:Nat} {A:List Int} {R:List Ent} {f:Int→Option Int} (h:View w B G D A R K f) (o:Obj):View (w.alloc o) B G w.heap.size A R K f:=by
 obtain ⟨v,m,h1,h2,h3,h4,h5,h6,h7,h8,h9,h10,h11⟩:=h
 have a1:=h1.lt
 have a2:=h3.lt
 have hb:=(Below.refl w.heap.size w).alloc (Nat.le_refl _) o
 exact ⟨v,m,h1.grown (Below.grownBy hb none) (by simp),owns_below h2 hb,h3.below hb,h4,h5,h6,h7,h8,h9,by simp,by omega,by omega,fun e=>by have:=(h2.lt _ e).2;omega⟩
theorem View.lt {w:World} {B G D K:Nat} {A:List Int} {R:List Ent} {f:Int→Option Int} (h:View w B G D A R K f):G < w.heap.size∧B≤G:=by
 obtain ⟨v,m,h1,h2,h3,h4,h5,h6⟩:=h;exact ⟨h1.lt,h5⟩
def IdxB (l:List Ent) (x:Ent) (w:World) (e:Ending) (w':World):Prop:=∃ n:Int,e = .returned (.int .i64 n)∧decide (0≤n)=decide (x∈l)∧-1≤n∧n≤4000000∧Below w.heap.size w w'
def NotTo (l:List Ent) (x:Ent) (k:Nat):Prop:=∀ j,j < k→l.getD j (0,0)≠x
theorem NotTo.next {l:List Ent} {x:Ent} {k:Nat} (h:NotTo l x k) (hk:l.getD k (0,0)≠x):NotTo l x (k+1):=by
 intro j hj
 by_cases e:j=k
 · rw [e];exact hk
 · exact h j (by omega)
theorem NotTo.all {l:List Ent} {x:Ent} (h:NotTo l x l.length):x ∉ l:=by
 intro hx
 obtain ⟨j,hj,he⟩:=List.getElem_of_mem hx
 exact h j hj (by rw [List.getD_eq_getElem?_getD,List.getElem?_eq_getElem hj];exact he)
theorem getD_in {l:List Ent} {k:Nat} (h:k < l.length):l.getD k (0,0)∈l:=by
 rw [List.getD_eq_getElem?_getD,List.getElem?_eq_getElem h];exact List.getElem_mem h
set_option maxHeartbeats 1000000 in
theorem index_any (a:Option Addr) (n cap:Nat) (l:List Ent) (x y:Int) (w:World) (h:RowE w a n l) (hn:n≤4000000) :
  Calls Tryz.prog 233 #[.slice a n cap,.agg #[.int .i64 x,.int .i64 y]] w (IdxB l (x,y) w):=by
 have HR:=Lib.hid h
 obtain ⟨hl,hm,hc,-⟩:=h
 have HL:=Lib.hid hl;clear hl
 have hb0:=(Below.refl w.heap.size w).alloc (Nat.le_refl _) (.cells #[.int .i64 x,.int .i64 y] 142)
 have hd1:(w.alloc (.cells #[.int .i64 x,.int .i64 y] 142)).cell? ⟨w.heap.size,0,none⟩=some (.int .i64 x):=by simp [go_sem]
 have hd2:(w.alloc (.cells #[.int .i64 x,.int .i64 y] 142)).cell? ⟨w.heap.size,1,none⟩=some (.int .i64 y):=by simp [go_sem]
 by_cases h0:0 < n
 · obtain ⟨b,off,rfl,hcc⟩:=hc h0;clear hc;have hc:=hcc;clear hcc
   have hbB:b < w.heap.size:=World.block_lt_of_cell? w ⟨b,off+0*2,none⟩ (hc 0 h0).1
   go_enter Tryz.func233,Tryz.ntmps233
   go_wp2
   obtain ⟨w1,hw1⟩:∃ w1,w1=w.alloc (.cells #[.int .i64 x,.int .i64 y] 142):=⟨_,rfl⟩
   rw [← hw1] at hb0 hd1 hd2 ⊢
   have hz1:w.heap.size < w1.heap.size:=by rw [hw1];simp
   clear hw1
   go_loopw [8] (fun i wr=>∃ k:Nat,k≤n∧i = .int .i64 k∧NotTo l (x,y) k∧Drawn w1 wr) (fun i _=>n - (intOf i).toNat)
   case atStart=>exact ⟨0,Nat.zero_le _,rfl,fun j hj=>absurd hj (Nat.not_lt_zero j),Drawn.refl _⟩
   case round =>
    obtain ⟨k,hk,rfl,hnt,hd⟩:=hrel
    have HNT:=Lib.hid hnt
    clear hnt
    by_cases hlt:k < n
    · have hc1:=(hd.cell _).trans ((hb0.cell (p:=⟨b,off+k*2,none⟩) hbB).trans (hc k hlt).1)
      have hc2:=(hd.cell _).trans ((hb0.cell (p:=⟨b,off+k*2+1,none⟩) hbB).trans (hc k hlt).2)
      have he1:=(hd.cell _).trans hd1
      have he2:=(hd.cell _).trans hd2
      have HG:Hid (l.getD k (0,0)=((l.getD k (0,0)).1,(l.getD k (0,0)).2)):=Lib.hid rfl
      have HI:Hid (l.getD k (0,0)∈l):=Lib.hid (getD_in (by rw [HL.out];exact hlt))
      obtain ⟨p,hp⟩:∃ p,p=(l.getD k (0,0)).1:=⟨_,rfl⟩
      obtain ⟨q,hq⟩:∃ q,q=(l.getD k (0,0)).2:=⟨_,rfl⟩
      rw [← hp] at hc1
      rw [← hq] at hc2
      rw [← hp,← hq] at HG
      clear hp hq hc hd1 hd2
      by_cases hx:x=p
      · subst hx
        by_cases hy:y=q
        · subst hy
          have HM:Hid ((x,y)∈l):=Lib.hid (by have:=HI.out;rw [HG.out] at this;exact this)
          go_wp2
          go_quiet (fail)
          go_wp2
          go_ret
          exact ⟨_,rfl,by simp [HM.out],by omega,by omega,below_drewN' (hb0.trans (hd.below _)) _⟩
        · have e2:(y == q)=false:=by simpa using hy
          have HN:=Lib.hid (HNT.out.next (by rw [HG.out];intro e;injection e with _ e;exact hy e.symm))
          clear hy
          go_wp2
          go_quiet (fail)
          go_wp2
          go_roundw
          case rel=>exact ⟨k+1,by omega,by go_num,HN.out,hd.drewN _⟩
          case measure=>simp [intOf];omega
      · have e1:(x == p)=false:=by simpa using hx
        have HN:=Lib.hid (HNT.out.next (by rw [HG.out];intro e;injection e with e _;exact hx e.symm))
        clear hx
        go_wp2
        go_quiet (fail)
        go_wp2
        go_roundw
        case rel=>exact ⟨k+1,by omega,by go_num,HN.out,hd.drewN _⟩
        case measure=>simp [intOf];omega
    · have HM:Hid ((x,y) ∉ l):=Lib.hid (NotTo.all (by rw [HL.out,show n=k by omega];exact HNT.out))
      clear hc
      go_wp2
      go_ret
      exact ⟨_,rfl,by simp [HM.out],by omega,by omega,hb0.trans (hd.below _)⟩
 · obtain rfl:n=0:=by omega
   obtain rfl:l=[]:=List.eq_nil_of_length_eq_zero HL.out
   clear hc
   go_enter Tryz.func233,Tryz.ntmps233
   go_wp2
   go_loop [8] (fun i=>i = .int .i64 0) (fun _=>0)
   case atStart=>rfl
   case round =>
    subst hrel
    go_wp2
    go_ret
    exact ⟨_,rfl,by simp,by omega,by omega,hb0⟩
theorem contains_any (a:Option Addr) (n cap:Nat) (l:List Ent) (x y:Int) (w:World) (h:RowE w a n l) (hn:n≤4000000) :
  Calls Tryz.prog 232 #[.slice a n cap,.agg #[.int .i64 x,.int .i64 y]] w (BoolB (decide ((x,y)∈l)) w):=by
 have hb0:=(Below.refl w.heap.size w).alloc (Nat.le_refl _) (.cells #[.int .i64 x,.int .i64 y] 142)
 have HR:=Lib.hid (h.below hb0)
 clear h
 go_enter Tryz.func232,Tryz.ntmps232
 go_wp2_with fail
 refine (index_any a n cap l x y _ HR.out hn).mono ?_;rintro e w1 ⟨j,rfl,hj,hj0,hj1,hb1⟩
 have HJ:=Lib.hid hj
 clear hj
 go_wp2
 go_ret
 exact ⟨by rw [← HJ.out];rfl,hb0.trans (hb1.mono hb0.size)⟩
theorem View.record {w2 w5:World} {B G D K:Nat} {A:List Int} {R:List Ent} {f:Int→Option Int} {v v1:Value} {m:Nat} {o:Obj} {x y:Int} (hv:VCells w2 G A v m) (hm:MapF w2 m K f) (hwf:WfE R) (hBG:B≤G) (hBm:B≤m) (hmG:m≠G) (hvG:v.ownBlock≠some G) (hvm:v.ownBlock≠some m) (hD:D < w2.heap.size∧D≠G∧D≠m∧v.ownBlock≠some D)
  (hg:(w2.alloc o).grownBy w5 v.ownBlock) (ho:w5.ownsRow B 142 2 v1 (R.length+1) (flatE R++[.int .i64 x,.int .i64 y])) (hat:v1.ownBlock=v.ownBlock∨v1.ownBlock=some (w2.heap.size+1)) (hx:(Lit.int .i64 x).wf=true) (hy:(Lit.int .i64 y).wf=true) :
  View (w5.setCell ⟨G,32,none⟩ v1) B G D A (R++[(x,y)]) K f∧(w5.setCell ⟨G,32,none⟩ v1).heap[D]? = w2.heap[D]?∧w2.heap.size≤(w5.setCell ⟨G,32,none⟩ v1).heap.size∧∀ a,Below B a w2→B≤w2.heap.size→(∀ g,v.ownBlock=some g→B≤g)→Below B a (w5.setCell ⟨G,32,none⟩ v1):=by
 have hGl:=hv.lt
 have hml:=hm.lt
 have hne:v1.ownBlock≠some G∧v1.ownBlock≠some m∧v1.ownBlock≠some D:=by
  rcases hat with e | e
  · rw [e];exact ⟨hvG,hvm,hD.2.2.2⟩
  · rw [e];exact ⟨by simp;omega,by simp;omega,by simp;omega⟩
 have hv5:=(hv.grown (World.grownBy_alloc w2 o none) (by simp)).grown hg (fun e=>hvG e.symm)
 have hm5:=(hm.alloc o).keep (hg.block m (by simp;omega) (fun e=>hvm e.symm))
 have hs:=hg.size
 simp only [World.size_alloc] at hs
 refine ⟨⟨v1,m,hv5.set v1,?_,hm5.keep (heap_setCell_other w5 ⟨G,32,none⟩ m v1 hmG),hwf.snoc hx hy,hBG,hBm,hmG,hne.1,hne.2.1,by rw [size_setCell];omega,hD.2.1,hD.2.2.1,hne.2.2⟩,?_,by rw [size_setCell];omega,fun a ha hB hvB=>?_⟩
 · have hk:=owns_keep (w':=w5.setCell ⟨G,32,none⟩ v1) ho (fun b hb=>heap_setCell_other w5 ⟨G,32,none⟩ b v1 (fun e=>hne.1 (by rw [← owns_blk ho,hb];simp at e;rw [e])))
   rw [List.length_append,flatE_append]
   exact hk
 · exact (heap_setCell_other w5 ⟨G,32,none⟩ D v1 hD.2.1).trans ((hg.block D (by simp;omega) (fun e=>hD.2.2.2 e.symm)).trans (Below.heap_alloc w2 o D hD.1))
 · exact ((ha.alloc hB o).grown hg (by simp;omega) (fun k hk=>hvB k hk)).setCell hBG _
def ReadP (w:World) (B G D:Nat) (A:List Int) (R:List Ent) (K:Nat) (f:Int→Option Int) (key:Nat) (x:Int) (e:Ending) (w':World):Prop :=
 e = .returned (.int .i64 x)∧View w' B G D A (addR R (key,x)) K f∧w'.heap[D]? = w.heap[D]?∧w.heap.size≤w'.heap.size∧Below B w w'
set_option maxHeartbeats 4000000 in
theorem read_any (B G D K:Nat) (A:List Int) (R:List Ent) (f:Int→Option Int) (key:Nat) (x:Int) (w:World) (h:View w B G D A R K f) (hx:A.getD key 0=x) (hB:B≤w.heap.size) (hk:key < 32) (hA:BdA A) (hR:R.length≤100) :
  Calls Tryz.prog 231 #[.pointer (some ⟨G,0,none⟩),.int .i64 key] w (ReadP w B G D A R K f key x):=by
 obtain ⟨v,m,hv,hown,hm,hwf,hBG,hBm,hmG,hvG,hvm,hD0⟩:=h
 have hbd:=hA key hk
 have HWF:=Lib.hid hwf
 clear hA hwf
 have hc:=hv.1 key hk
 rw [hx] at hc hbd
 clear hx
 have hd1:(w.alloc (.cells #[.int .i64 key,.int .i64 x] 142)).cell? ⟨w.heap.size,0,none⟩=some (.int .i64 key):=by simp [go_sem]
 have hd2:(w.alloc (.cells #[.int .i64 key,.int .i64 x] 142)).cell? ⟨w.heap.size,1,none⟩=some (.int .i64 x):=by simp [go_sem]
 have hb0:=(Below.refl w.heap.size w).alloc (Nat.le_refl _) (.cells #[.int .i64 key,.int .i64 x] 142)
 have hz0:w.heap.size < (w.alloc (.cells #[.int .i64 key,.int .i64 x] 142)).heap.size:=by simp
 obtain ⟨a,cap,rfl,hrow,hzc⟩:=rowE_of_owns hown (by omega) HWF.out
 go_enter Tryz.func231,Tryz.ntmps231
 go_wp2_with fail
 have hv1:=hv.grown (Below.grownBy hb0 none) (by simp)
 have hown1:=owns_below hown hb0
 have hrow1:=hrow.below hb0
 have hm1:=hm.below hb0
 have hbB:=(Below.refl B w).trans (hb0.mono hB)
 have hBz:=Nat.le_trans hB hbB.size
 obtain ⟨E,hE⟩:∃ E,E=w.heap.size:=⟨_,rfl⟩
 have HE:=Lib.hid hE
 have hG:=hv.lt
 have HD:=Lib.hid hD0
 clear hD0
 have hvE:(Value.slice a R.length cap).ownBlock≠some E:=fun e=>by have:=(hown.lt _ e).2;omega
 have hml:=hm.lt
 rw [← hE] at hd1 hd2 hz0 hG hml ⊢
 clear hE hb0 hv hm hown hrow hc
 have HDH:=Lib.hid (Below.heap_alloc w (.cells #[.int .i64 key,.int .i64 x] 142) D HD.out.1)
 have HDs:=Lib.hid (show D < (w.alloc (.cells #[.int .i64 key,.int .i64 x] 142)).heap.size from by have:=HD.out.1;simp;omega)
 obtain ⟨w1,hw1⟩:∃ w1,w1=w.alloc (.cells #[.int .i64 key,.int .i64 x] 142):=⟨_,rfl⟩
 rw [← hw1] at hv1 hown1 hrow1 hm1 hd1 hd2 hbB hBz hz0 HDH HDs ⊢
 clear hw1
 have hc32:=hv1.2.1
 go_region_with (go_at_call 232;refine (contains_any _ _ _ R key x _ (show RowE w1.drew _ _ R from hrow1) (by omega)).mono ?_;rintro e w2 ⟨rfl,hb2'⟩;have hb2:Below w1.heap.size w1 w2:=(Below.refl _ w1).drew.trans hb2';clear hb2')
 all_goals
  have hv2:=hv1.grown (Below.grownBy hb2 none) (by simp)
  have hown2:=owns_below hown1 hb2
  have hm2:=hm1.below hb2
  have he1:w2.cell? ⟨E,0,none⟩=some (.int .i64 key):=(hb2.cell (p:=⟨E,0,none⟩) hz0).trans hd1
  have he2:w2.cell? ⟨E,1,none⟩=some (.int .i64 x):=(hb2.cell (p:=⟨E,1,none⟩) hz0).trans hd2
  have hb3:=hbB.trans (hb2.mono hBz)
  have hsz2:=Nat.le_trans (Nat.le_of_lt hz0) hb2.size
  have hsB:=Nat.le_trans hBz hb2.size
  have HD2:=Lib.hid (show D < w2.heap.size∧D≠G∧D≠m∧(Value.slice a R.length cap).ownBlock≠some D from ⟨Nat.lt_of_lt_of_le HDs.out hb2.size,HD.out.2⟩)
  have HDH2:=Lib.hid ((hb2.block D HDs.out).trans HDH.out)
  clear hv1 hown1 hm1 hd1 hd2 hbB hBz hz0 hb2 hrow1 hc32
  cases hin:decide (((key:Int),x)∈R) with
  | true =>
   have HIN:Hid (((key:Int),x)∈R):=Lib.hid (by simpa using hin)
   clear hin
   go_wp2
   go_ret
   exact ⟨rfl,by rw [addR_in HIN.out];exact ⟨_,m,hv2,hown2,hm2,HWF.out,hBG,hBm,hmG,hvG,hvm,HD2.out⟩,HDH2.out,by rw [← HE.out];exact hsz2,hb3⟩
  | false =>
   have HIN:Hid (((key:Int),x) ∉ R):=Lib.hid (by simpa using hin)
   clear hin
   have hc32:=hv2.2.1
   have hf32:=hv2.2.2.2.2
   have hc32':=(hv2.grown (World.grownBy_alloc w2 (.cells #[.int .i64 (key:Int),.int .i64 x] 142) none) (by simp)).2.1
   have hwx:(Lit.int .i64 x).wf=true:=WalkArith.wf_i64 (by omega)
   have hwk:(Lit.int .i64 (key:Int)).wf=true:=WalkArith.wf_i64 (by omega)
   have HWX:=Lib.hid hwx;have HWK:=Lib.hid hwk
   clear hwx hwk
   go_wp2_with fail
   go_region_law (first | (refine step_app1d rfl (.tmp 25) (.tmp 27) 23 rfl B 142 _ (.agg #[.int .i64 0,.int .i64 0]) 2 16 Tryz.underlying23 infoEnt rfl (by decide) (.slice a R.length cap) R.length _ [.int .i64 (key:Int),.int .i64 x] (by rfl) hown2 (by rfl) rfl (by intro u hu;simp at hu;rcases hu with rfl | rfl <;> rfl) (by omega) (by decide) hsB ?_;intro v1 w5 ho1' hnn hg1 hat;obtain ⟨g1,cp1,rfl,hg1B,hg1lt⟩:=Own.slice ⟨ho1',hnn⟩;have hv5:=(hv2.grown (World.grownBy_alloc w2 _ none) (by simp)).grown hg1 (fun e=>hvG e.symm);have hc5:=hv5.2.1;have hf5:=hv5.2.2.2.2))
   all_goals
    obtain ⟨r1,r0,r2,r3⟩:=View.record hv2 hm2 HWF.out hBG hBm hmG hvG hvm HD2.out hg1 ho1' hat HWK.out HWX.out
    have he5:w5.cell? ⟨E,1,none⟩=some (.int .i64 x):=hg1.cell ((World.grownBy_alloc w2 (.cells #[.int .i64 (key:Int),.int .i64 x] 142) none).cell he2 (by simp)) (fun e=>hvE e.symm)
    have he6:(w5.setCell ⟨G,32,none⟩ (.slice (some ⟨g1,0,none⟩) (R.length+1) cp1)).cell? ⟨E,1,none⟩=some (.int .i64 x):=(World.cell?_of_block (heap_setCell_other w5 ⟨G,32,none⟩ E _ (by simp;omega))).trans he5
    have HR1:=Lib.hid r1
    have HR0:=Lib.hid (r0.trans HDH2.out)
    have HR2:=Lib.hid (Nat.le_trans hsz2 r2)
    have HR3:=Lib.hid (r3 w hb3 hsB (fun g hg=>(hown2.lt g hg).1))
    clear r1 r0 r2 r3 hv2 hm2 hown2 hg1 ho1' hat hc5 hf5 hc32 hf32 hc32' hv5 hb3 he1 he2 he5
    obtain ⟨w6,hw6⟩:∃ w6,w6=w5.setCell ⟨G,32,none⟩ (.slice (some ⟨g1,0,none⟩) (R.length+1) cp1):=⟨_,rfl⟩
    rw [← hw6] at HR0 HR1 HR2 HR3 he6 ⊢
    clear hw6
    go_wp2
    go_ret
    exact ⟨rfl,by rw [addR_out HIN.out];exact HR1.out,HR0.out,by rw [← HE.out];exact HR2.out,HR3.out⟩
def WriteP (w:World) (B G D:Nat) (A:List Int) (R:List Ent) (K:Nat) (f:Int→Option Int) (key val:Int) (e:Ending) (w':World):Prop :=
 e = .returned (.tuple #[])∧View w' B G D A R (K+1) (updF f key val)∧w'.heap[D]? = w.heap[D]?∧w.heap.size≤w'.heap.size∧Below B w w'
theorem View.wrote {w w1:World} {B G D K:Nat} {A:List Int} {R:List Ent} {g:Int→Option Int} {v:Value} {m:Nat} (hv:VCells w G A v m) (hown:w.ownsRow B 142 2 v R.length (flatE R)) (hwf:WfE R) (hBG:B≤G) (hBm:B≤m) (hmG:m≠G) (hvG:v.ownBlock≠some G) (hvm:v.ownBlock≠some m) (hD:D < w.heap.size∧D≠G∧D≠m∧v.ownBlock≠some D)
  (hm:MapF w1 m (K+1) g) (hg:w.grownBy w1 (some m)) (hB:B≤w.heap.size):View w1 B G D A R (K+1) g∧w1.heap[D]? = w.heap[D]?∧w.heap.size≤w1.heap.size∧Below B w w1:=by
 refine ⟨⟨v,m,hv.grown hg (fun e=>hmG (by simpa using e.symm)),?_,hm,hwf,hBG,hBm,hmG,hvG,hvm,Nat.lt_of_lt_of_le hD.1 hg.size,hD.2⟩,hg.block D hD.1 (fun e=>hD.2.2.1 (by simpa using e)),hg.size,(Below.refl B w).grown hg hB (fun k hk=>by simp at hk;omega)⟩
 exact hown.kept hg (.inr hvm)
set_option maxHeartbeats 1000000 in
theorem write_any (B G D K:Nat) (A:List Int) (R:List Ent) (f:Int→Option Int) (key val:Int) (w:World) (h:View w B G D A R K f) (hB:B≤w.heap.size) (hK:K < 500) (hk:(Lit.int .i64 key).wf=true) (hval:(Lit.int .i64 val).wf=true) :
  Calls Tryz.prog 226 #[.pointer (some ⟨G,0,none⟩),.int .i64 key,.int .i64 val] w (WriteP w B G D A R K f key val):=by
 obtain ⟨v,m,hv,hown,hm,hwf,hBG,hBm,hmG,hvG,hvm,hD⟩:=h
 have hc:=hv.2.2.2.1
 have HW:=Lib.hid (fun w1 g h1 h2=>View.wrote (w1:=w1) (K:=K) (g:=g) hv hown hwf hBG hBm hmG hvG hvm hD h1 h2 hB)
 have HK:=Lib.hid hk;have HV:=Lib.hid hval
 clear hv hown hwf hk hval hD
 go_enter Tryz.func226,Tryz.ntmps226
 go_wp2_with (first | (refine wpList_mapUpdate_F _ rfl (.tmp 10) (.tmp 11) (.tmp 12) rfl m K f key val (by rfl) (by rfl) (by rfl) hm (by omega) HK.out HV.out ?_;intro w1 hm1 hg1))
 refine bodyPost_ret (v:=.tuple #[]) ?_ rfl ⟨rfl,HW.out w1 _ hm1 hg1⟩
 simp [results,Tryz.results226]
def viewC (A:List Int) (m:Nat):Array Value:=cellsI A++#[.slice none 0 0,.int .i64 (-1),.map (some m)]
theorem built_view_x (a0 a1 a2 a3 a4 a5 a6 a7 a8 a9 a10 a11 a12 a13 a14 a15 a16 a17 a18 a19 a20 a21 a22 a23 a24 a25 a26 a27 a28 a29 a30 a31:Int) (m:Nat) : Tryz.prog.built 213 [(0,.agg (cellsI [a0,a1,a2,a3,a4,a5,a6,a7,a8,a9,a10,a11,a12,a13,a14,a15,a16,a17,a18,a19,a20,a21,a22,a23,a24,a25,a26,a27,a28,a29,a30,a31])),(2,.agg #[.int .i64 (-1),.map (some m)])]=some (viewC [a0,a1,a2,a3,a4,a5,a6,a7,a8,a9,a10,a11,a12,a13,a14,a15,a16,a17,a18,a19,a20,a21,a22,a23,a24,a25,a26,a27,a28,a29,a30,a31] m):=by kernel_rfl
theorem built_view (A:List Int) (hl:A.length=32) (m:Nat) : Tryz.prog.built 213 [(0,.agg (cellsI A)),(2,.agg #[.int .i64 (-1),.map (some m)])]=some (viewC A m):=by
 match A,hl with
 | [a0,a1,a2,a3,a4,a5,a6,a7,a8,a9,a10,a11,a12,a13,a14,a15,a16,a17,a18,a19,a20,a21,a22,a23,a24,a25,a26,a27,a28,a29,a30,a31],_=>exact built_view_x a0 a1 a2 a3 a4 a5 a6 a7 a8 a9 a10 a11 a12 a13 a14 a15 a16 a17 a18 a19 a20 a21 a22 a23 a24 a25 a26 a27 a28 a29 a30 a31 m
theorem wpList_build_view {w:World} {ops:Array Oper} {rest:List Oper} {o:Oper} {a:Act} {Q:Exit→Act→World→Prop} (hgd:Region.wanted o (yielded ops a.tmps)=true) (s x:Operand)
  (ho:o.op = .build 213 #[(0,s),(2,x)]) (A:List Int) (hl:A.length=32) (m:Nat) (hs:a.eval s = .agg (cellsI A)) (hx:a.eval x = .agg #[.int .i64 (-1),.map (some m)])
  (h:wpList Tryz.prog ops Q rest (a.put o.dst (.agg (viewC A m))) w):wpList Tryz.prog ops Q (o :: rest) a w:=by
 refine BigFrame.wpList_want hgd fun K hK=>?_
 have hb:=built_view A hl m
 have he:(#[((0:Nat),s),(2,x)].map fun (i,x)=>(i,a.eval x)).toList=[(0,.agg (cellsI A)),(2,.agg #[.int .i64 (-1),.map (some m)])]:=by simp [hs,hx]
 refine wp_build _ _ ho (by rw [he,hb];rfl) ?_
 rw [he,hb]
 exact hK _ _ h
theorem vcells_new (w:World) (A:List Int) (hl:A.length=32) (m:Nat) (T:TypeId):VCells (w.alloc (.cells (viewC A m) T)) w.heap.size A (.slice none 0 0) m:=by
 have hc:∀ j,(w.alloc (.cells (viewC A m) T)).cell? ⟨w.heap.size,j,none⟩=(viewC A m)[j]?:=fun j=>cell_of_row _ _ j (viewC A m) T (0,0) (heap_alloc_new w _)
 have hs:(cellsI A).size=32:=by rw [cellsI_size,hl]
 refine ⟨fun k hk=>?_,?_,?_,?_,frozen_of_row _ _ 32 (viewC A m) T (heap_alloc_new w _)⟩
 · rw [hc,viewC,Array.getElem?_append_left (by omega)];exact cellsI_get A k (by omega)
 · rw [hc,viewC,Array.getElem?_append_right (by omega),hs];rfl
 · rw [hc,viewC,Array.getElem?_append_right (by omega),hs];rfl
 · rw [hc,viewC,Array.getElem?_append_right (by omega),hs];rfl
theorem run_makeMap_0 (w:World):(Instr.makeMap 107 none).run Tryz.prog w = .ok (.map (some w.heap.size)) (w.alloc (.map #[] 0)):=rfl
def ViewNew (w:World) (A:List Int) (e:Ending) (w':World):Prop:=∃ G,e = .returned (.pointer (some ⟨G,0,none⟩))∧View w' w.heap.size G w.heap.size A [] 0 (fun _=>none)∧Below w.heap.size w w'
set_option maxHeartbeats 1000000 in
theorem viewOf_any (A:List Int) (w:World) (hl:A.length=32) :
  Calls Tryz.prog 195 #[.agg (cellsI A)] w (ViewNew w A):=by
 have HL:=Lib.hid hl;clear hl
 have hA:=Arr.new w 201 A
 have hb0:=(Below.refl w.heap.size w).alloc (Nat.le_refl _) (.cells (cellsI A) 201)
 have hmm:=fun W=>run_makeMap_0 W
 go_enter Tryz.func195,Tryz.ntmps195
 go_wp2_with (first | (refine wpList_load_arr rfl _ _ rfl _ (by rfl) 201 A hA _ _ Tryz.underlying201 (by rw [HL.out];exact infoArr) ?_) | (refine wpList_build_view rfl (.tmp 3) (.tmp 5) rfl A HL.out (w.heap.size+1) (by rfl) (by rfl) ?_))
 have hv:=vcells_new ((w.alloc (.cells (cellsI A) 201)).alloc (.map #[] 0)) A HL.out (w.heap.size+1) 213
 have hm:=(MapF.made (w.alloc (.cells (cellsI A) 201))).alloc (.cells (viewC A (w.heap.size+1)) 213)
 have hz:((w.alloc (.cells (cellsI A) 201)).alloc (.map #[] 0)).heap.size=w.heap.size+1+1:=by simp
 rw [hz] at hv
 rw [World.size_alloc] at hm
 have hb2:=(hb0.alloc (by simp) (.map #[] 0)).alloc (by simp;omega) (.cells (viewC A (w.heap.size+1)) 213)
 go_ret
 exact ⟨w.heap.size+1+1,rfl,⟨_,w.heap.size+1,hv,World.ownsRow_nil _ _ _ _,hm,fun e he=>(by cases he),by omega,by omega,by omega,by simp [Value.ownBlock],by simp [Value.ownBlock],by simp;omega,by omega,by omega,by simp [Value.ownBlock]⟩,hb2⟩
set_option maxHeartbeats 4000000 in
theorem effect_any (B G D K:Nat) (A:List Int) (R:List Ent) (f:Int→Option Int) (b:Bool) (w:World) (h:View w B G D A R K f) (hB:B≤w.heap.size) (hf:BdF f) (hR:R.length≤100) :
  Calls Tryz.prog 196 #[.pointer (some ⟨G,0,none⟩),.bool b] w (fun e w'=>∃ v,e = .returned v∧OwnF w' B 142 v ⟨b,R,wrOf f 32⟩∧Below w.heap.size w w'):=by
 obtain ⟨v,m,hv,hown,hm,hwf,hBG,hBm,hmG,hvG,hvm,-⟩:=h
 obtain ⟨a,cap,rfl,hrow,hzc⟩:=rowE_of_owns hown (by omega) hwf
 obtain ⟨w1,hw1⟩:∃ w1,w1=w.alloc (.cells #[.bool false,.slice none 0 0,.slice none 0 0] 178):=⟨_,rfl⟩
 have hb1:=(Below.refl w.heap.size w).alloc (Nat.le_refl _) (.cells #[.bool false,.slice none 0 0,.slice none 0 0] 178)
 have hr:(w1.cell? ⟨w.heap.size,0,none⟩=some (.bool false)∧w1.cell? ⟨w.heap.size,1,none⟩=some (.slice none 0 0)∧w1.cell? ⟨w.heap.size,2,none⟩=some (.slice none 0 0))∧(w1.frozen? ⟨w.heap.size,0,none⟩=false∧w1.frozen? ⟨w.heap.size,1,none⟩=false∧w1.frozen? ⟨w.heap.size,2,none⟩=false)∧w.heap.size < w1.heap.size:=by
  rw [hw1];simp [go_sem]
 obtain ⟨⟨z0,z1,z2⟩,⟨y0,y1,y2⟩,hzw⟩:=hr
 go_enter Tryz.func196,Tryz.ntmps196
 go_wp2_with fail
 rw [← hw1] at hb1 ⊢
 clear hw1
 have hv1:=hv.grown (Below.grownBy hb1 none) (by simp)
 have hm1:=hm.below hb1
 have hown1:=owns_below hown hb1
 have c32:=hv1.2.1
 have c33:=hv1.2.2.1
 have c34:=hv1.2.2.2.1
 have hol:=hown.lt
 clear hv hm hown hrow
 go_region_with (go_at_call 202;refine (writes_impl (-1) m K f _ (show MapF w1.drew m K f from hm1) hf).mono ?_;rintro e w2 ⟨vw,rfl,how,hww,hb2'⟩;obtain ⟨aw,cw,rfl,hrw,hzw2⟩:=rowE_of_owns how (Nat.le_trans (wrOf_len f 32) (by omega)) hww;have hb2:Below w1.heap.size w1 w2:=(Below.refl _ w1).drew.trans hb2';have d32:=(hv1.grown (Below.grownBy hb2 none) (by simp)).2.1;have x0:=(hb2.cell (p:=⟨w.heap.size,0,none⟩) hzw).trans z0;have x1:=(hb2.cell (p:=⟨w.heap.size,1,none⟩) hzw).trans z1;have x2:=(hb2.cell (p:=⟨w.heap.size,2,none⟩) hzw).trans z2;have v0:w2.frozen? ⟨w.heap.size,0,none⟩=false:=(World.frozen?_of_block (hb2.block _ hzw)).trans y0;have v1:w2.frozen? ⟨w.heap.size,1,none⟩=false:=(World.frozen?_of_block (hb2.block _ hzw)).trans y1;have v2:w2.frozen? ⟨w.heap.size,2,none⟩=false:=(World.frozen?_of_block (hb2.block _ hzw)).trans y2)
 all_goals
  have ho2:=owns_below hown1 hb2
  have hF:OwnF w2 B 142 (.agg #[.bool b,.slice a R.length cap,.slice aw (wrOf f 32).length cw]) ⟨b,R,wrOf f 32⟩:=⟨_,_,rfl,ho2,owns_mono how (Nat.le_trans hB (Nat.le_of_lt hzw)),hwf,hww,fun p hp hq=>by have h1:=hol p hp;have h2:w1.heap.size≤p∧_:=how.lt p hq;omega⟩
  have HF:=Lib.hid (ownF_set3 hF (Z:=w.heap.size) (fun p q e=>by
   simp only [Value.agg.injEq,Array.mk.injEq,List.cons.injEq,and_true,true_and] at e
   obtain ⟨rfl,rfl⟩:=e
   exact ⟨fun h=>by have:=(hol _ h).2;omega,fun h=>by have h2:w1.heap.size≤_∧_:=how.lt _ h;omega⟩) 0 1 2 (.bool b) (.slice a R.length cap) (.slice aw (wrOf f 32).length cw))
  have HB:=Lib.hid (below_set3 (hb1.trans (hb2.mono (Nat.le_of_lt hzw))) (Z:=w.heap.size) (Nat.le_refl _) 0 1 2 (.bool b) (.slice a R.length cap) (.slice aw (wrOf f 32).length cw))
  clear hF ho2 how hww hol hv1 hm1 hown1 hb2' hb2 hrw c32 c33 c34 d32 z0 z1 z2 y0 y1 y2
  go_wp2
  refine bodyPost_ret (v:=.agg #[.bool b,.slice a R.length cap,.slice aw (wrOf f 32).length cw]) ?_ rfl ⟨_,rfl,HF.out,HB.out⟩
  simp [results,Tryz.results196,go_sem,x0,x1,x2]
def RunP (w:World) (B G:Nat) (A:List Int) (k s d m f t:Int) (e:Ending) (w':World):Prop :=
 e = .returned (.bool (doneK k s d m f t))∧(∃ D K g,View w' B G D A (rdsK k s d f t) K g∧BdF g∧wrOf g 32=(effK k s d m f t).wrs)∧w.heap.size≤w'.heap.size∧Below B w w'
theorem updF_none_find (s x:Int):updF (fun _=>none) s x=findM [(s,x)]:=by
 funext k;unfold updF findM
 by_cases h:k=s
 · rw [if_pos h,if_pos h.symm]
 · rw [if_neg h,if_neg (fun e=>h e.symm)];rfl
theorem wrOf_one {s x:Int} (h0:0≤s) (h1:s≤31) (h2:0≤x) (h3:x≤1000000):wrOf (updF (fun _=>none) s x) 32=[(s,x)]:=by
 rw [updF_none_find];exact wrOf_find (wr_one h0 h1 h2 h3)
theorem wrOf_two {s x d y:Int} (h0:0≤s) (h1:s≤31) (h2:0≤x) (h3:x≤1000000) (g0:0≤d) (g1:d≤31) (g2:0≤y) (g3:y≤1000000):wrOf (updF (updF (fun _=>none) s x) d y) 32=pm d y [(s,x)]:=by
 rw [updF_none_find];exact wrOf_upd (wr_one h0 h1 h2 h3) g0 g1 g2 g3
theorem bdF_none:BdF (fun _=>none):=fun k v h=>by cases h
theorem bdF_upd {f:Int→Option Int} (h:BdF f) {s x:Int} (h2:0≤x) (h3:x≤1000000):BdF (updF f s x):=fun k v hk=>by
 unfold updF at hk;split at hk
 · cases hk;exact ⟨h2,h3⟩
 · exact h k v hk
theorem reads_both (i j f t:Int) (h:i=j→f=t):addR (addR [] (i,f)) (j,t)=(onceM i j).map (fun key=>(key,if key=i then f else t)):=by
 rw [← addR_two]
 by_cases e:j=i
 · rw [if_pos e,h e.symm]
 · rw [if_neg e]
theorem wrOf_zero:wrOf (fun _=>none) 32=[]:=by decide
set_option maxHeartbeats 1000000 in
theorem run_put (B G D i:Nat) (A:List Int) (k d m f t:Int) (w:World) (h:View w B G D A [] 0 (fun _=>none)) (hB:B≤w.heap.size) (hi:i < 32) (m0:0≤m) (m1:m≤1000000) (hA:BdA A) :
  Calls Tryz.prog 224 #[.agg #[.int .i64 k,.int .i64 i,.int .i64 d,.int .i64 m],.pointer (some ⟨G,0,none⟩)] w (RunP w B G A 1 i d m f t):=by
 have hb0:=(Below.refl w.heap.size w).alloc (Nat.le_refl _) (.cells #[.int .i64 k,.int .i64 i,.int .i64 d,.int .i64 m] 195)
 have HV:=Lib.hid (h.fresh (.cells #[.int .i64 k,.int .i64 i,.int .i64 d,.int .i64 m] 195))
 have HB:=Lib.hid (hb0.mono hB)
 have HS:=Lib.hid hb0.size
 clear h hb0
 go_enter Tryz.func224,Tryz.ntmps224
 go_wp2_with (first | (go_at_call 226;refine (write_any B G _ 0 A [] _ i m _ HV.out (Nat.le_trans hB HS.out) (by omega) (WalkArith.wf_i64 (by omega)) (WalkArith.wf_i64 (by omega))).mono ?_;rintro e w2 ⟨rfl,hV2,hD2,hs2,hb2⟩))
 go_ret
 exact ⟨rfl,⟨_,_,_,hV2,bdF_upd bdF_none m0 m1,wrOf_one (by omega) (by omega) m0 m1⟩,Nat.le_trans HS.out hs2,HB.out.trans hb2⟩
set_option maxRecDepth 100000 in
set_option maxHeartbeats 4000000 in
theorem run_move (B G D i j:Nat) (A:List Int) (k m f t:Int) (w:World) (h:View w B G D A [] 0 (fun _=>none)) (hB:B≤w.heap.size) (hi:i < 32) (hj:j < 32) (m0:0≤m) (m1:m≤1000000) (hA:BdA A) (hf:A.getD i 0=f) (ht:A.getD j 0=t) :
  Calls Tryz.prog 229 #[.agg #[.int .i64 k,.int .i64 i,.int .i64 j,.int .i64 m],.pointer (some ⟨G,0,none⟩)] w (RunP w B G A 2 i j m f t):=by
 have hb0:=(Below.refl w.heap.size w).alloc (Nat.le_refl _) (.cells #[.int .i64 k,.int .i64 i,.int .i64 j,.int .i64 m] 196)
 have hV:=h.fresh (.cells #[.int .i64 k,.int .i64 i,.int .i64 j,.int .i64 m] 196)
 have c1:(w.alloc (.cells #[.int .i64 k,.int .i64 i,.int .i64 j,.int .i64 m] 196)).cell? ⟨w.heap.size,1,none⟩=some (.int .i64 i):=by simp [go_sem]
 have c2:(w.alloc (.cells #[.int .i64 k,.int .i64 i,.int .i64 j,.int .i64 m] 196)).cell? ⟨w.heap.size,2,none⟩=some (.int .i64 j):=by simp [go_sem]
 have c3:(w.alloc (.cells #[.int .i64 k,.int .i64 i,.int .i64 j,.int .i64 m] 196)).cell? ⟨w.heap.size,3,none⟩=some (.int .i64 m):=by simp [go_sem]
 have HB:=Lib.hid (hb0.mono hB)
 have HS:=Lib.hid hb0.size
 have bf:=hA i hi
 have bt:=hA j hj
 rw [hf] at bf
 rw [ht] at bt
 have HA:=Lib.hid hA
 have HF:=Lib.hid hf
 have HT:=Lib.hid ht
 have HRD:=Lib.hid (reads_both i j f t (fun e=>by rw [← hf,← ht,show i=j by omega]))
 have hwi:(Lit.int .i64 (i:Int)).wf=true:=WalkArith.wf_i64 (by omega)
 have hwj:(Lit.int .i64 (j:Int)).wf=true:=WalkArith.wf_i64 (by omega)
 have HWI:=Lib.hid hwi;have HWJ:=Lib.hid hwj
 clear h hb0 hA hf ht hwi hwj
 go_enter Tryz.func229,Tryz.ntmps229
 go_wp2_with fail
 have HSZ:=Lib.hid (Nat.le_trans hB HS.out)
 obtain ⟨w1,hw1⟩:∃ w1,w1=w.alloc (.cells #[.int .i64 k,.int .i64 i,.int .i64 j,.int .i64 m] 196):=⟨_,rfl⟩
 rw [← hw1] at hV c1 c2 c3 HB HS HSZ ⊢
 clear hw1
 obtain ⟨E,hE⟩:∃ E,E=w.heap.size:=⟨_,rfl⟩
 rw [← hE] at hV c1 c2 c3 HS ⊢
 have HE:=Lib.hid hE
 clear hE
 go_region_held3 (fun w'=>w'.cell? ⟨E,1,none⟩=some (.int .i64 i)∧w'.cell? ⟨E,2,none⟩=some (.int .i64 j)) (first | exact ⟨c1,c2⟩ | exact ⟨d1,d2⟩ | go_keep)
  ((go_at_call 231;refine (read_any B G E 0 A _ _ _ _ _ (by first | exact hV2 | exact hV2.drew | exact hV | exact hV.drew) (by first | exact HF.out | exact HT.out) (by first | exact HSZ2 | exact HSZ.out) (by first | exact hi | exact hj) HA.out (by first | exact (by simp:([]:List Ent).length≤100) | exact Nat.le_trans (addR_len _ _) (by simp))).mono ?_;rintro e w2 ⟨rfl,hV2,hD2,hs2,hb2⟩;have d1:w2.cell? ⟨E,1,none⟩=some (.int .i64 i):=(World.cell?_of_block hD2).trans (by first | exact d1 | exact c1);have d2:w2.cell? ⟨E,2,none⟩=some (.int .i64 j):=(World.cell?_of_block hD2).trans (by first | exact d2 | exact c2);have d3:w2.cell? ⟨E,3,none⟩=some (.int .i64 m):=(World.cell?_of_block hD2).trans (by first | exact d3 | exact c3);have HBB:Below B w w2:=(by first | exact HBB.trans hb2 | exact HBB.drew.trans hb2 | exact HB.out.trans hb2 | exact HB.out.drew.trans hb2);have HSZ2:B≤w2.heap.size:=(by first | exact Nat.le_trans HSZ2 hs2 | exact Nat.le_trans HSZ.out hs2);have HSE:E≤w2.heap.size:=(by first | exact Nat.le_trans HSE hs2 | exact Nat.le_trans HS.out hs2)))
 have HV:=Lib.hid hV2
 have HBS:=Lib.hid HBB
 have HZ:=Lib.hid HSZ2
 have HEE:=Lib.hid HSE
 clear c1 c2 c3 hV hV2 hD2 hs2 hb2 HBB HSZ2 HSE
 have HR:Hid (addR (addR [] ((i:Int),f)) ((j:Int),t)=rdsK 2 i j f t):=Lib.hid (by rw [HRD.out];rfl)
 by_cases hfm:f < m
 · have HD:Hid (doneK 2 i j m f t=false):=Lib.hid (by simp [doneK,show ¬ m≤f by omega])
   have HW:Hid ((effK 2 i j m f t).wrs=[]):=Lib.hid (by unfold effK;rw [HD.out];rfl)
   have hb:decide (f < m)=true:=by simpa using hfm
   by_cases hij:(i:Int)=j
   · have hib:((i:Int) == j)=true:=by simpa using hij
     clear hij hfm
     go_wp2_with (first | (go_at_call 162;refine (isValue_impl _ _).mono ?_;rintro e w' ⟨rfl,rfl⟩))
     go_ret
     exact ⟨by rw [HD.out];rfl,⟨E,0,_,by rw [← HR.out];exact HV.out,bdF_none,by rw [HW.out];exact wrOf_zero⟩,by rw [← HE.out];exact HEE.out,HBS.out⟩
   · have hib:((i:Int) == j)=false:=by simpa using hij
     clear hij hfm
     go_wp2_with (first | (go_at_call 162;refine (isValue_impl _ _).mono ?_;rintro e w' ⟨rfl,rfl⟩))
     go_ret
     exact ⟨by rw [HD.out];rfl,⟨E,0,_,by rw [← HR.out];exact HV.out,bdF_none,by rw [HW.out];exact wrOf_zero⟩,by rw [← HE.out];exact HEE.out,HBS.out⟩
 · have hb:decide (f < m)=false:=by simpa using hfm
   by_cases hij:(i:Int)=j
   · have hib:((i:Int) == j)=true:=by simpa using hij
     obtain rfl:t=f:=by rw [← HF.out,← HT.out,show i=j by omega]
     have hv:inB t 0 1000000=true:=inB_yes (by omega) (by omega)
     have HD:Hid (doneK 2 i j m t t=true):=Lib.hid (by simp [doneK,hij,show m≤t by omega])
     have HW:Hid ((effK 2 i j m t t).wrs=wrOf (updF (updF (fun _=>none) i (t - m)) j t) 32):=Lib.hid (by
      rw [wrOf_two (by omega) (by omega) (by omega) (by omega) (by omega) (by omega) (by omega) (by omega)]
      unfold effK;rw [HD.out]
      simp [outsK,hij,pm])
     have HBD:Hid (BdF (updF (updF (fun _=>none) i (t - m)) j t)):=Lib.hid (bdF_upd (bdF_upd bdF_none (by omega) (by omega)) (by omega) (by omega))
     clear hij
     go_wp2_with (first | (go_at_call 162;refine (isValue_impl _ _).mono ?_;rintro e w' ⟨rfl,rfl⟩))
     refine (write_any B G E 0 A _ _ i (t - m) _ (by first | exact HV.out | exact HV.out.drew) (by exact HZ.out) (by omega) HWI.out (WalkArith.wf_i64 (by omega))).mono ?_;rintro e w3 ⟨rfl,hV3,hD3,hs3,hb3⟩
     have d1:w3.cell? ⟨E,1,none⟩=some (.int .i64 i):=(World.cell?_of_block hD3).trans d1
     have d2:w3.cell? ⟨E,2,none⟩=some (.int .i64 j):=(World.cell?_of_block hD3).trans d2
     have d3:w3.cell? ⟨E,3,none⟩=some (.int .i64 m):=(World.cell?_of_block hD3).trans d3
     go_wp2_with fail
     refine (write_any B G E 1 A _ _ j t _ (by first | exact hV3 | exact hV3.drew) (by exact (Nat.le_trans HZ.out hs3)) (by omega) HWJ.out (WalkArith.wf_i64 (by omega))).mono ?_;rintro e w4 ⟨rfl,hV4,hD4,hs4,hb4⟩
     go_wp2
     go_ret
     exact ⟨by rw [HD.out];rfl,⟨E,_,_,by rw [← HR.out];exact hV4,HBD.out,HW.out.symm⟩,by rw [← HE.out];exact Nat.le_trans HEE.out (Nat.le_trans hs3 hs4),HBS.out.trans (hb3.trans hb4)⟩
   · have hib:((i:Int) == j)=false:=by simpa using hij
     by_cases hv1:t+m≤1000000
     · have hv:inB (t+m) 0 1000000=true:=inB_yes (by omega) (by omega)
       have HD:Hid (doneK 2 i j m f t=true):=Lib.hid (by simp [doneK,hv1,show m≤f by omega])
       have HW:Hid ((effK 2 i j m f t).wrs=wrOf (updF (updF (fun _=>none) i (f - m)) j (t+m)) 32):=Lib.hid (by
        rw [wrOf_two (by omega) (by omega) (by omega) (by omega) (by omega) (by omega) (by omega) (by omega)]
        unfold effK;rw [HD.out]
        show (if true=true then outsK 2 (i:Int) j m f t else []) = _
        rw [if_pos rfl,outsK,if_neg (by omega),if_neg (by omega),if_neg (by omega),if_neg (by omega),if_neg (by omega),if_neg hij])
       have HBD:Hid (BdF (updF (updF (fun _=>none) i (f - m)) j (t+m))):=Lib.hid (bdF_upd (bdF_upd bdF_none (by omega) (by omega)) (by omega) (by omega))
       clear hij
       go_wp2_with (first | (go_at_call 162;refine (isValue_impl _ _).mono ?_;rintro e w' ⟨rfl,rfl⟩))
       refine (write_any B G E 0 A _ _ i (f - m) _ (by first | exact HV.out | exact HV.out.drew) (by exact HZ.out) (by omega) HWI.out (WalkArith.wf_i64 (by omega))).mono ?_;rintro e w3 ⟨rfl,hV3,hD3,hs3,hb3⟩
       have d1:w3.cell? ⟨E,1,none⟩=some (.int .i64 i):=(World.cell?_of_block hD3).trans d1
       have d2:w3.cell? ⟨E,2,none⟩=some (.int .i64 j):=(World.cell?_of_block hD3).trans d2
       have d3:w3.cell? ⟨E,3,none⟩=some (.int .i64 m):=(World.cell?_of_block hD3).trans d3
       go_wp2_with fail
       refine (write_any B G E 1 A _ _ j (t+m) _ (by first | exact hV3 | exact hV3.drew) (by exact (Nat.le_trans HZ.out hs3)) (by omega) HWJ.out (WalkArith.wf_i64 (by omega))).mono ?_;rintro e w4 ⟨rfl,hV4,hD4,hs4,hb4⟩
       go_wp2
       go_ret
       exact ⟨by rw [HD.out];rfl,⟨E,_,_,by rw [← HR.out];exact hV4,HBD.out,HW.out.symm⟩,by rw [← HE.out];exact Nat.le_trans HEE.out (Nat.le_trans hs3 hs4),HBS.out.trans (hb3.trans hb4)⟩
     · have hv:inB (t+m) 0 1000000=false:=inB_no (by omega)
       have HD:Hid (doneK 2 i j m f t=false):=Lib.hid (by simp [doneK,hij,hv1])
       have HW:Hid ((effK 2 i j m f t).wrs=[]):=Lib.hid (by unfold effK;rw [HD.out];rfl)
       clear hij hv1
       go_wp2_with (first | (go_at_call 162;refine (isValue_impl _ _).mono ?_;rintro e w' ⟨rfl,rfl⟩))
       go_ret
       exact ⟨by rw [HD.out];rfl,⟨E,0,_,by rw [← HR.out];exact HV.out,bdF_none,by rw [HW.out];exact wrOf_zero⟩,by rw [← HE.out];exact HEE.out,HBS.out⟩
set_option maxRecDepth 100000 in
set_option maxHeartbeats 4000000 in
theorem run_swap (B G D i j:Nat) (A:List Int) (k m f t:Int) (w:World) (h:View w B G D A [] 0 (fun _=>none)) (hB:B≤w.heap.size) (hi:i < 32) (hj:j < 32) (m0:0≤m) (m1:m≤1000000) (hA:BdA A) (hf:A.getD i 0=f) (ht:A.getD j 0=t) :
  Calls Tryz.prog 240 #[.agg #[.int .i64 k,.int .i64 i,.int .i64 j,.int .i64 m],.pointer (some ⟨G,0,none⟩)] w (RunP w B G A 4 i j m f t):=by
 have hb0:=(Below.refl w.heap.size w).alloc (Nat.le_refl _) (.cells #[.int .i64 k,.int .i64 i,.int .i64 j,.int .i64 m] 198)
 have hV:=h.fresh (.cells #[.int .i64 k,.int .i64 i,.int .i64 j,.int .i64 m] 198)
 have c1:(w.alloc (.cells #[.int .i64 k,.int .i64 i,.int .i64 j,.int .i64 m] 198)).cell? ⟨w.heap.size,1,none⟩=some (.int .i64 i):=by simp [go_sem]
 have c2:(w.alloc (.cells #[.int .i64 k,.int .i64 i,.int .i64 j,.int .i64 m] 198)).cell? ⟨w.heap.size,2,none⟩=some (.int .i64 j):=by simp [go_sem]
 have c3:(w.alloc (.cells #[.int .i64 k,.int .i64 i,.int .i64 j,.int .i64 m] 198)).cell? ⟨w.heap.size,3,none⟩=some (.int .i64 m):=by simp [go_sem]
 have HB:=Lib.hid (hb0.mono hB)
 have HS:=Lib.hid hb0.size
 have bf:=hA i hi
 have bt:=hA j hj
 rw [hf] at bf
 rw [ht] at bt
 have HA:=Lib.hid hA
 have HF:=Lib.hid hf
 have HT:=Lib.hid ht
 have HRD:=Lib.hid (reads_both i j f t (fun e=>by rw [← hf,← ht,show i=j by omega]))
 have hwi:(Lit.int .i64 (i:Int)).wf=true:=WalkArith.wf_i64 (by omega)
 have hwj:(Lit.int .i64 (j:Int)).wf=true:=WalkArith.wf_i64 (by omega)
 have HWI:=Lib.hid hwi;have HWJ:=Lib.hid hwj
 clear h hb0 hA hf ht hwi hwj
 go_enter Tryz.func240,Tryz.ntmps240
 go_wp2_with fail
 have HSZ:=Lib.hid (Nat.le_trans hB HS.out)
 obtain ⟨w1,hw1⟩:∃ w1,w1=w.alloc (.cells #[.int .i64 k,.int .i64 i,.int .i64 j,.int .i64 m] 198):=⟨_,rfl⟩
 rw [← hw1] at hV c1 c2 c3 HB HS HSZ ⊢
 clear hw1
 obtain ⟨E,hE⟩:∃ E,E=w.heap.size:=⟨_,rfl⟩
 rw [← hE] at hV c1 c2 c3 HS ⊢
 have HE:=Lib.hid hE
 clear hE
 go_region_held3 (fun w'=>w'.cell? ⟨E,1,none⟩=some (.int .i64 i)∧w'.cell? ⟨E,2,none⟩=some (.int .i64 j)) (first | exact ⟨c1,c2⟩ | exact ⟨d1,d2⟩ | go_keep)
  ((go_at_call 231;refine (read_any B G E 0 A _ _ _ _ _ (by first | exact hV2 | exact hV2.drew | exact hV | exact hV.drew) (by first | exact HF.out | exact HT.out) (by first | exact HSZ2 | exact HSZ.out) (by first | exact hi | exact hj) HA.out (by first | exact (by simp:([]:List Ent).length≤100) | exact Nat.le_trans (addR_len _ _) (by simp))).mono ?_;rintro e w2 ⟨rfl,hV2,hD2,hs2,hb2⟩;have d1:w2.cell? ⟨E,1,none⟩=some (.int .i64 i):=(World.cell?_of_block hD2).trans (by first | exact d1 | exact c1);have d2:w2.cell? ⟨E,2,none⟩=some (.int .i64 j):=(World.cell?_of_block hD2).trans (by first | exact d2 | exact c2);have d3:w2.cell? ⟨E,3,none⟩=some (.int .i64 m):=(World.cell?_of_block hD2).trans (by first | exact d3 | exact c3);have HBB:Below B w w2:=(by first | exact HBB.trans hb2 | exact HBB.drew.trans hb2 | exact HB.out.trans hb2 | exact HB.out.drew.trans hb2);have HSZ2:B≤w2.heap.size:=(by first | exact Nat.le_trans HSZ2 hs2 | exact Nat.le_trans HSZ.out hs2);have HSE:E≤w2.heap.size:=(by first | exact Nat.le_trans HSE hs2 | exact Nat.le_trans HS.out hs2)))
 have HV:=Lib.hid hV2
 have HBS:=Lib.hid HBB
 have HZ:=Lib.hid HSZ2
 have HEE:=Lib.hid HSE
 clear c1 c2 c3 hV hV2 hD2 hs2 hb2 HBB HSZ2 HSE
 have HR:Hid (addR (addR [] ((i:Int),f)) ((j:Int),t)=rdsK 4 i j f t):=Lib.hid (by rw [HRD.out];rfl)
 have HW:Hid ((effK 4 i j m f t).wrs=wrOf (updF (updF (fun _=>none) i t) j f) 32):=Lib.hid (by
  rw [wrOf_two (by omega) (by omega) (by omega) (by omega) (by omega) (by omega) (by omega) (by omega)]
  rfl)
 have HBD:Hid (BdF (updF (updF (fun _=>none) i t) j f)):=Lib.hid (bdF_upd (bdF_upd bdF_none (by omega) (by omega)) (by omega) (by omega))
 go_wp2_with fail
 refine (write_any B G E 0 A _ _ i t _ (by first | exact HV.out | exact HV.out.drew) (by exact HZ.out) (by omega) HWI.out (WalkArith.wf_i64 (by omega))).mono ?_;rintro e w3 ⟨rfl,hV3,hD3,hs3,hb3⟩
 have d1:w3.cell? ⟨E,1,none⟩=some (.int .i64 i):=(World.cell?_of_block hD3).trans d1
 have d2:w3.cell? ⟨E,2,none⟩=some (.int .i64 j):=(World.cell?_of_block hD3).trans d2
 have d3:w3.cell? ⟨E,3,none⟩=some (.int .i64 m):=(World.cell?_of_block hD3).trans d3
 go_wp2_with fail
 refine (write_any B G E 1 A _ _ j f _ (by first | exact hV3 | exact hV3.drew) (by exact (Nat.le_trans HZ.out hs3)) (by omega) HWJ.out (WalkArith.wf_i64 (by omega))).mono ?_;rintro e w4 ⟨rfl,hV4,hD4,hs4,hb4⟩
 go_wp2
 go_ret
 exact ⟨rfl,⟨E,_,_,by rw [← HR.out];exact hV4,HBD.out,HW.out.symm⟩,by rw [← HE.out];exact Nat.le_trans HEE.out (Nat.le_trans hs3 hs4),HBS.out.trans (hb3.trans hb4)⟩
set_option maxRecDepth 100000 in
set_option maxHeartbeats 4000000 in
theorem run_add (B G D i j:Nat) (A:List Int) (k m f t:Int) (w:World) (h:View w B G D A [] 0 (fun _=>none)) (hB:B≤w.heap.size) (hi:i < 32) (hj:j < 32) (m0:0≤m) (m1:m≤1000000) (hA:BdA A) (hf:A.getD i 0=f) (ht:A.getD j 0=t) :
  Calls Tryz.prog 244 #[.agg #[.int .i64 k,.int .i64 i,.int .i64 j,.int .i64 m],.pointer (some ⟨G,0,none⟩)] w (RunP w B G A 5 i j m f t):=by
 have hb0:=(Below.refl w.heap.size w).alloc (Nat.le_refl _) (.cells #[.int .i64 k,.int .i64 i,.int .i64 j,.int .i64 m] 199)
 have hV:=h.fresh (.cells #[.int .i64 k,.int .i64 i,.int .i64 j,.int .i64 m] 199)
 have c1:(w.alloc (.cells #[.int .i64 k,.int .i64 i,.int .i64 j,.int .i64 m] 199)).cell? ⟨w.heap.size,1,none⟩=some (.int .i64 i):=by simp [go_sem]
 have c2:(w.alloc (.cells #[.int .i64 k,.int .i64 i,.int .i64 j,.int .i64 m] 199)).cell? ⟨w.heap.size,2,none⟩=some (.int .i64 j):=by simp [go_sem]
 have c3:(w.alloc (.cells #[.int .i64 k,.int .i64 i,.int .i64 j,.int .i64 m] 199)).cell? ⟨w.heap.size,3,none⟩=some (.int .i64 m):=by simp [go_sem]
 have HB:=Lib.hid (hb0.mono hB)
 have HS:=Lib.hid hb0.size
 have bf:=hA i hi
 have bt:=hA j hj
 rw [hf] at bf
 rw [ht] at bt
 have HA:=Lib.hid hA
 have HF:=Lib.hid hf
 have HT:=Lib.hid ht
 have HRD:=Lib.hid (reads_both i j f t (fun e=>by rw [← hf,← ht,show i=j by omega]))
 have hwi:(Lit.int .i64 (i:Int)).wf=true:=WalkArith.wf_i64 (by omega)
 have hwj:(Lit.int .i64 (j:Int)).wf=true:=WalkArith.wf_i64 (by omega)
 have HWI:=Lib.hid hwi;have HWJ:=Lib.hid hwj
 clear h hb0 hA hf ht hwi hwj
 go_enter Tryz.func244,Tryz.ntmps244
 go_wp2_with fail
 have HSZ:=Lib.hid (Nat.le_trans hB HS.out)
 obtain ⟨w1,hw1⟩:∃ w1,w1=w.alloc (.cells #[.int .i64 k,.int .i64 i,.int .i64 j,.int .i64 m] 199):=⟨_,rfl⟩
 rw [← hw1] at hV c1 c2 c3 HB HS HSZ ⊢
 clear hw1
 obtain ⟨E,hE⟩:∃ E,E=w.heap.size:=⟨_,rfl⟩
 rw [← hE] at hV c1 c2 c3 HS ⊢
 have HE:=Lib.hid hE
 clear hE
 go_region_held3 (fun w'=>w'.cell? ⟨E,1,none⟩=some (.int .i64 i)∧w'.cell? ⟨E,2,none⟩=some (.int .i64 j)) (first | exact ⟨c1,c2⟩ | exact ⟨d1,d2⟩ | go_keep)
  ((go_at_call 231;refine (read_any B G E 0 A _ _ _ _ _ (by first | exact hV2 | exact hV2.drew | exact hV | exact hV.drew) (by first | exact HF.out | exact HT.out) (by first | exact HSZ2 | exact HSZ.out) (by first | exact hi | exact hj) HA.out (by first | exact (by simp:([]:List Ent).length≤100) | exact Nat.le_trans (addR_len _ _) (by simp))).mono ?_;rintro e w2 ⟨rfl,hV2,hD2,hs2,hb2⟩;have d1:w2.cell? ⟨E,1,none⟩=some (.int .i64 i):=(World.cell?_of_block hD2).trans (by first | exact d1 | exact c1);have d2:w2.cell? ⟨E,2,none⟩=some (.int .i64 j):=(World.cell?_of_block hD2).trans (by first | exact d2 | exact c2);have d3:w2.cell? ⟨E,3,none⟩=some (.int .i64 m):=(World.cell?_of_block hD2).trans (by first | exact d3 | exact c3);have HBB:Below B w w2:=(by first | exact HBB.trans hb2 | exact HBB.drew.trans hb2 | exact HB.out.trans hb2 | exact HB.out.drew.trans hb2);have HSZ2:B≤w2.heap.size:=(by first | exact Nat.le_trans HSZ2 hs2 | exact Nat.le_trans HSZ.out hs2);have HSE:E≤w2.heap.size:=(by first | exact Nat.le_trans HSE hs2 | exact Nat.le_trans HS.out hs2)))
 have HV:=Lib.hid hV2
 have HBS:=Lib.hid HBB
 have HZ:=Lib.hid HSZ2
 have HEE:=Lib.hid HSE
 clear c1 c2 c3 hV hV2 hD2 hs2 hb2 HBB HSZ2 HSE
 have HR:Hid (addR (addR [] ((i:Int),f)) ((j:Int),t)=rdsK 5 i j f t):=Lib.hid (by rw [HRD.out];rfl)
 by_cases hv1:f+t≤1000000
 · have hv:inB (f+t) 0 1000000=true:=inB_yes (by omega) (by omega)
   have HD:Hid (doneK 5 i j m f t=true):=Lib.hid (by simp [doneK,hv1])
   have HW:Hid ((effK 5 i j m f t).wrs=wrOf (updF (fun _=>none) j (f+t)) 32):=Lib.hid (by
    rw [wrOf_one (by omega) (by omega) (by omega) (by omega)]
    unfold effK;rw [HD.out];rfl)
   have HBD:Hid (BdF (updF (fun _=>none) j (f+t))):=Lib.hid (bdF_upd bdF_none (by omega) (by omega))
   go_wp2_with (first | (go_at_call 162;refine (isValue_impl _ _).mono ?_;rintro e w' ⟨rfl,rfl⟩))
   refine (write_any B G E 0 A _ _ j (f+t) _ (by first | exact HV.out | exact HV.out.drew) (by exact HZ.out) (by omega) HWJ.out (WalkArith.wf_i64 (by omega))).mono ?_;rintro e w3 ⟨rfl,hV3,hD3,hs3,hb3⟩
   go_wp2
   go_ret
   exact ⟨by rw [HD.out];rfl,⟨E,_,_,by rw [← HR.out];exact hV3,HBD.out,HW.out.symm⟩,by rw [← HE.out];exact Nat.le_trans HEE.out hs3,HBS.out.trans hb3⟩
 · have hv:inB (f+t) 0 1000000=false:=inB_no (by omega)
   have HD:Hid (doneK 5 i j m f t=false):=Lib.hid (by simp [doneK,hv1])
   have HW:Hid ((effK 5 i j m f t).wrs=[]):=Lib.hid (by unfold effK;rw [HD.out];rfl)
   clear hv1
   go_wp2_with (first | (go_at_call 162;refine (isValue_impl _ _).mono ?_;rintro e w' ⟨rfl,rfl⟩))
   go_ret
   exact ⟨by rw [HD.out];rfl,⟨E,0,_,by rw [← HR.out];exact HV.out,bdF_none,by rw [HW.out];exact wrOf_zero⟩,by rw [← HE.out];exact HEE.out,HBS.out⟩
set_option maxRecDepth 100000 in
set_option maxHeartbeats 4000000 in
theorem run_copy (B G D i j:Nat) (A:List Int) (k m f t:Int) (w:World) (h:View w B G D A [] 0 (fun _=>none)) (hB:B≤w.heap.size) (hi:i < 32) (hj:j < 32) (m0:0≤m) (m1:m≤1000000) (hA:BdA A) (hf:A.getD i 0=f) (ht:A.getD j 0=t) :
  Calls Tryz.prog 236 #[.agg #[.int .i64 k,.int .i64 i,.int .i64 j,.int .i64 m],.pointer (some ⟨G,0,none⟩)] w (RunP w B G A 3 i j m f t):=by
 have hb0:=(Below.refl w.heap.size w).alloc (Nat.le_refl _) (.cells #[.int .i64 k,.int .i64 i,.int .i64 j,.int .i64 m] 197)
 have hV:=h.fresh (.cells #[.int .i64 k,.int .i64 i,.int .i64 j,.int .i64 m] 197)
 have c1:(w.alloc (.cells #[.int .i64 k,.int .i64 i,.int .i64 j,.int .i64 m] 197)).cell? ⟨w.heap.size,1,none⟩=some (.int .i64 i):=by simp [go_sem]
 have c2:(w.alloc (.cells #[.int .i64 k,.int .i64 i,.int .i64 j,.int .i64 m] 197)).cell? ⟨w.heap.size,2,none⟩=some (.int .i64 j):=by simp [go_sem]
 have c3:(w.alloc (.cells #[.int .i64 k,.int .i64 i,.int .i64 j,.int .i64 m] 197)).cell? ⟨w.heap.size,3,none⟩=some (.int .i64 m):=by simp [go_sem]
 have HB:=Lib.hid (hb0.mono hB)
 have HS:=Lib.hid hb0.size
 have bf:=hA i hi
 have bt:=hA j hj
 rw [hf] at bf
 rw [ht] at bt
 have HA:=Lib.hid hA
 have HF:=Lib.hid hf
 have HT:=Lib.hid ht
 have HRD:=Lib.hid (reads_both i j f t (fun e=>by rw [← hf,← ht,show i=j by omega]))
 have hwi:(Lit.int .i64 (i:Int)).wf=true:=WalkArith.wf_i64 (by omega)
 have hwj:(Lit.int .i64 (j:Int)).wf=true:=WalkArith.wf_i64 (by omega)
 have HWI:=Lib.hid hwi;have HWJ:=Lib.hid hwj
 clear h hb0 hA hf ht hwi hwj
 go_enter Tryz.func236,Tryz.ntmps236
 go_wp2_with fail
 have HSZ:=Lib.hid (Nat.le_trans hB HS.out)
 obtain ⟨w1,hw1⟩:∃ w1,w1=w.alloc (.cells #[.int .i64 k,.int .i64 i,.int .i64 j,.int .i64 m] 197):=⟨_,rfl⟩
 rw [← hw1] at hV c1 c2 c3 HB HS HSZ ⊢
 clear hw1
 obtain ⟨E,hE⟩:∃ E,E=w.heap.size:=⟨_,rfl⟩
 rw [← hE] at hV c1 c2 c3 HS ⊢
 have HE:=Lib.hid hE
 clear hE
 have HR:Hid (addR [] ((i:Int),f)=rdsK 3 i j f t):=Lib.hid (by simp [addR,rdsK,readsK])
 have HW:Hid ((effK 3 i j m f t).wrs=wrOf (updF (fun _=>none) j f) 32):=Lib.hid (by
  rw [wrOf_one (by omega) (by omega) (by omega) (by omega)];rfl)
 have HBD:Hid (BdF (updF (fun _=>none) j f)):=Lib.hid (bdF_upd bdF_none (by omega) (by omega))
 have HWV:Hid ((Lit.int .i64 f).wf=true):=Lib.hid (WalkArith.wf_i64 (by omega))
 go_region_held3 (fun w'=>w'.cell? ⟨E,1,none⟩=some (.int .i64 i)∧w'.cell? ⟨E,2,none⟩=some (.int .i64 j)) (first | exact ⟨c1,c2⟩ | exact ⟨d1,d2⟩ | exact ⟨e1,e2⟩ | go_keep)
  (first | (go_at_call 231;refine (read_any B G E 0 A _ _ _ _ _ (by first | exact hV2 | exact hV2.drew | exact hV | exact hV.drew) (by first | exact HF.out | exact HT.out) (by first | exact HSZ2 | exact HSZ.out) (by first | exact hi | exact hj) HA.out (by first | exact (by simp:([]:List Ent).length≤100) | exact Nat.le_trans (addR_len _ _) (by simp))).mono ?_;rintro e w2 ⟨rfl,hV2,hD2,hs2,hb2⟩;have d1:w2.cell? ⟨E,1,none⟩=some (.int .i64 i):=(World.cell?_of_block hD2).trans (by first | exact d1 | exact c1);have d2:w2.cell? ⟨E,2,none⟩=some (.int .i64 j):=(World.cell?_of_block hD2).trans (by first | exact d2 | exact c2);have d3:w2.cell? ⟨E,3,none⟩=some (.int .i64 m):=(World.cell?_of_block hD2).trans (by first | exact d3 | exact c3);have HBB:Below B w w2:=(by first | exact HBB.trans hb2 | exact HBB.drew.trans hb2 | exact HB.out.trans hb2 | exact HB.out.drew.trans hb2);have HSZ2:B≤w2.heap.size:=(by first | exact Nat.le_trans HSZ2 hs2 | exact Nat.le_trans HSZ.out hs2);have HSE:E≤w2.heap.size:=(by first | exact Nat.le_trans HSE hs2 | exact Nat.le_trans HS.out hs2)) | (go_at_call 226;refine (write_any B G E 0 A _ _ _ _ _ (by first | exact hV2 | exact hV2.drew) (by exact HSZ2) (by omega) (by first | exact HWI.out | exact HWJ.out) (by exact HWV.out)).mono ?_;rintro e w3 ⟨rfl,hV3,hD3,hs3,hb3⟩;have e1:w3.cell? ⟨E,1,none⟩=some (.int .i64 i):=(World.cell?_of_block hD3).trans d1;have e2:w3.cell? ⟨E,2,none⟩=some (.int .i64 j):=(World.cell?_of_block hD3).trans d2;have e3:w3.cell? ⟨E,3,none⟩=some (.int .i64 m):=(World.cell?_of_block hD3).trans d3;have HB3:Below B w w3:=(by first | exact HBB.trans hb3 | exact HBB.drew.trans hb3);have HE3:E≤w3.heap.size:=Nat.le_trans HSE hs3))
 go_wp2
 go_ret
 exact ⟨rfl,⟨E,_,_,by rw [← HR.out];exact hV3,HBD.out,HW.out.symm⟩,by rw [← HE.out];exact HE3,HB3⟩
set_option maxRecDepth 100000 in
set_option maxHeartbeats 4000000 in
theorem run_take (B G D i j:Nat) (A:List Int) (k m f t:Int) (w:World) (h:View w B G D A [] 0 (fun _=>none)) (hB:B≤w.heap.size) (hi:i < 32) (hj:j < 32) (m0:0≤m) (m1:m≤1000000) (hA:BdA A) (hf:A.getD i 0=f) (ht:A.getD j 0=t) :
  Calls Tryz.prog 248 #[.agg #[.int .i64 k,.int .i64 i,.int .i64 j,.int .i64 m],.pointer (some ⟨G,0,none⟩)] w (RunP w B G A 6 i j m f t):=by
 have hb0:=(Below.refl w.heap.size w).alloc (Nat.le_refl _) (.cells #[.int .i64 k,.int .i64 i,.int .i64 j,.int .i64 m] 200)
 have hV:=h.fresh (.cells #[.int .i64 k,.int .i64 i,.int .i64 j,.int .i64 m] 200)
 have c1:(w.alloc (.cells #[.int .i64 k,.int .i64 i,.int .i64 j,.int .i64 m] 200)).cell? ⟨w.heap.size,1,none⟩=some (.int .i64 i):=by simp [go_sem]
 have c2:(w.alloc (.cells #[.int .i64 k,.int .i64 i,.int .i64 j,.int .i64 m] 200)).cell? ⟨w.heap.size,2,none⟩=some (.int .i64 j):=by simp [go_sem]
 have c3:(w.alloc (.cells #[.int .i64 k,.int .i64 i,.int .i64 j,.int .i64 m] 200)).cell? ⟨w.heap.size,3,none⟩=some (.int .i64 m):=by simp [go_sem]
 have HB:=Lib.hid (hb0.mono hB)
 have HS:=Lib.hid hb0.size
 have bf:=hA i hi
 have bt:=hA j hj
 rw [hf] at bf
 rw [ht] at bt
 have HA:=Lib.hid hA
 have HF:=Lib.hid hf
 have HT:=Lib.hid ht
 have HRD:=Lib.hid (reads_both i j f t (fun e=>by rw [← hf,← ht,show i=j by omega]))
 have hwi:(Lit.int .i64 (i:Int)).wf=true:=WalkArith.wf_i64 (by omega)
 have hwj:(Lit.int .i64 (j:Int)).wf=true:=WalkArith.wf_i64 (by omega)
 have HWI:=Lib.hid hwi;have HWJ:=Lib.hid hwj
 clear h hb0 hA hf ht hwi hwj
 go_enter Tryz.func248,Tryz.ntmps248
 go_wp2_with fail
 have HSZ:=Lib.hid (Nat.le_trans hB HS.out)
 obtain ⟨w1,hw1⟩:∃ w1,w1=w.alloc (.cells #[.int .i64 k,.int .i64 i,.int .i64 j,.int .i64 m] 200):=⟨_,rfl⟩
 rw [← hw1] at hV c1 c2 c3 HB HS HSZ ⊢
 clear hw1
 obtain ⟨E,hE⟩:∃ E,E=w.heap.size:=⟨_,rfl⟩
 rw [← hE] at hV c1 c2 c3 HS ⊢
 have HE:=Lib.hid hE
 clear hE
 have HR:Hid (addR [] ((i:Int),f)=rdsK 6 i j f t):=Lib.hid (by simp [addR,rdsK,readsK])
 by_cases hmf:m < f
 · have HW:Hid ((effK 6 i j m f t).wrs=wrOf (updF (fun _=>none) i (f - m)) 32):=Lib.hid (by
    rw [wrOf_one (by omega) (by omega) (by omega) (by omega)]
    show [((i:Int),max 0 (f - m))] = _
    rw [show max 0 (f - m)=(f - m) by omega])
   have HBD:Hid (BdF (updF (fun _=>none) i (f - m))):=Lib.hid (bdF_upd bdF_none (by omega) (by omega))
   have HWV:Hid ((Lit.int .i64 (f - m)).wf=true):=Lib.hid (WalkArith.wf_i64 (by omega))
   have hw:IntKind.i64.wrap (f - m)=f - m:=IntWalk.i64_in _ (by omega)
   go_region_held3 (fun w'=>w'.cell? ⟨E,1,none⟩=some (.int .i64 i)∧w'.cell? ⟨E,3,none⟩=some (.int .i64 m)) (first | exact ⟨c1,c3⟩ | exact ⟨d1,d3⟩ | exact ⟨e1,e3⟩ | go_keep)
    (first | (go_at_call 231;refine (read_any B G E 0 A _ _ _ _ _ (by first | exact hV2 | exact hV2.drew | exact hV | exact hV.drew) (by first | exact HF.out | exact HT.out) (by first | exact HSZ2 | exact HSZ.out) (by first | exact hi | exact hj) HA.out (by first | exact (by simp:([]:List Ent).length≤100) | exact Nat.le_trans (addR_len _ _) (by simp))).mono ?_;rintro e w2 ⟨rfl,hV2,hD2,hs2,hb2⟩;have d1:w2.cell? ⟨E,1,none⟩=some (.int .i64 i):=(World.cell?_of_block hD2).trans (by first | exact d1 | exact c1);have d2:w2.cell? ⟨E,2,none⟩=some (.int .i64 j):=(World.cell?_of_block hD2).trans (by first | exact d2 | exact c2);have d3:w2.cell? ⟨E,3,none⟩=some (.int .i64 m):=(World.cell?_of_block hD2).trans (by first | exact d3 | exact c3);have HBB:Below B w w2:=(by first | exact HBB.trans hb2 | exact HBB.drew.trans hb2 | exact HB.out.trans hb2 | exact HB.out.drew.trans hb2);have HSZ2:B≤w2.heap.size:=(by first | exact Nat.le_trans HSZ2 hs2 | exact Nat.le_trans HSZ.out hs2);have HSE:E≤w2.heap.size:=(by first | exact Nat.le_trans HSE hs2 | exact Nat.le_trans HS.out hs2)) | (go_at_call 226;refine (write_any B G E 0 A _ _ _ _ _ (by first | exact hV2 | exact hV2.drew) (by exact HSZ2) (by omega) (by first | exact HWI.out | exact HWJ.out) (by exact HWV.out)).mono ?_;rintro e w3 ⟨rfl,hV3,hD3,hs3,hb3⟩;have e1:w3.cell? ⟨E,1,none⟩=some (.int .i64 i):=(World.cell?_of_block hD3).trans d1;have e2:w3.cell? ⟨E,2,none⟩=some (.int .i64 j):=(World.cell?_of_block hD3).trans d2;have e3:w3.cell? ⟨E,3,none⟩=some (.int .i64 m):=(World.cell?_of_block hD3).trans d3;have HB3:Below B w w3:=(by first | exact HBB.trans hb3 | exact HBB.drew.trans hb3);have HE3:E≤w3.heap.size:=Nat.le_trans HSE hs3))
   all_goals
    go_wp2
    go_ret
    exact ⟨rfl,⟨E,_,_,by rw [← HR.out];exact hV3,HBD.out,HW.out.symm⟩,by rw [← HE.out];exact HE3,HB3⟩
 · have HW:Hid ((effK 6 i j m f t).wrs=wrOf (updF (fun _=>none) i 0) 32):=Lib.hid (by
    rw [wrOf_one (by omega) (by omega) (by omega) (by omega)]
    show [((i:Int),max 0 (f - m))] = _
    rw [show max 0 (f - m)=0 by omega])
   have HBD:Hid (BdF (updF (fun _=>none) i 0)):=Lib.hid (bdF_upd bdF_none (by omega) (by omega))
   have HWV:Hid ((Lit.int .i64 0).wf=true):=Lib.hid (WalkArith.wf_i64 (by omega))
   have hw:IntKind.i64.wrap (f - m)=f - m:=IntWalk.i64_in _ (by omega)
   have hq:(m < f)=False:=eq_false hmf
   clear hmf
   go_region_held3 (fun w'=>w'.cell? ⟨E,1,none⟩=some (.int .i64 i)∧w'.cell? ⟨E,3,none⟩=some (.int .i64 m)) (first | exact ⟨c1,c3⟩ | exact ⟨d1,d3⟩ | exact ⟨e1,e3⟩ | go_keep)
    (first | (go_at_call 231;refine (read_any B G E 0 A _ _ _ _ _ (by first | exact hV2 | exact hV2.drew | exact hV | exact hV.drew) (by first | exact HF.out | exact HT.out) (by first | exact HSZ2 | exact HSZ.out) (by first | exact hi | exact hj) HA.out (by first | exact (by simp:([]:List Ent).length≤100) | exact Nat.le_trans (addR_len _ _) (by simp))).mono ?_;rintro e w2 ⟨rfl,hV2,hD2,hs2,hb2⟩;have d1:w2.cell? ⟨E,1,none⟩=some (.int .i64 i):=(World.cell?_of_block hD2).trans (by first | exact d1 | exact c1);have d2:w2.cell? ⟨E,2,none⟩=some (.int .i64 j):=(World.cell?_of_block hD2).trans (by first | exact d2 | exact c2);have d3:w2.cell? ⟨E,3,none⟩=some (.int .i64 m):=(World.cell?_of_block hD2).trans (by first | exact d3 | exact c3);have HBB:Below B w w2:=(by first | exact HBB.trans hb2 | exact HBB.drew.trans hb2 | exact HB.out.trans hb2 | exact HB.out.drew.trans hb2);have HSZ2:B≤w2.heap.size:=(by first | exact Nat.le_trans HSZ2 hs2 | exact Nat.le_trans HSZ.out hs2);have HSE:E≤w2.heap.size:=(by first | exact Nat.le_trans HSE hs2 | exact Nat.le_trans HS.out hs2)) | (go_at_call 226;refine (write_any B G E 0 A _ _ _ _ _ (by first | exact hV2 | exact hV2.drew) (by exact HSZ2) (by omega) (by first | exact HWI.out | exact HWJ.out) (by exact HWV.out)).mono ?_;rintro e w3 ⟨rfl,hV3,hD3,hs3,hb3⟩;have e1:w3.cell? ⟨E,1,none⟩=some (.int .i64 i):=(World.cell?_of_block hD3).trans d1;have e2:w3.cell? ⟨E,2,none⟩=some (.int .i64 j):=(World.cell?_of_block hD3).trans d2;have e3:w3.cell? ⟨E,3,none⟩=some (.int .i64 m):=(World.cell?_of_block hD3).trans d3;have HB3:Below B w w3:=(by first | exact HBB.trans hb3 | exact HBB.drew.trans hb3);have HE3:E≤w3.heap.size:=Nat.le_trans HSE hs3))
   all_goals
    go_wp2
    go_ret
    exact ⟨rfl,⟨E,_,_,by rw [← HR.out];exact hV3,HBD.out,HW.out.symm⟩,by rw [← HE.out];exact HE3,HB3⟩
theorem below_cell {B G o:Nat} {w w':World} {v:Value} (hb:Below B w w') (hG:G < B) (hc:w.cell? ⟨G,o,none⟩=some v):w'.cell? ⟨G,o,none⟩=some v:=(hb.cell (p:=⟨G,o,none⟩) hG).trans hc
def DeedSome (b:Bool) (w:World) (e:Ending) (w':World):Prop:=∃ v,e = .returned (.tuple #[v,.bool b])∧Below w.heap.size w w'
theorem validDeed_any (k s d m:Int) (w:World) :
  Calls Tryz.prog 178 #[.agg #[.int .i64 k,.int .i64 s,.int .i64 d,.int .i64 m]] w (DeedSome (actB ⟨k,s,d,m⟩) w):=by
 rcases kind_cases k with rfl | rfl | rfl | rfl | rfl | rfl | hk
 · cases hv:actB ⟨1,s,d,m⟩ with
   | false=>exact (validDeed_put_no s d m w hv).mono fun e w' h=>⟨_,h.1,h.2⟩
   | true=>exact (validDeed_put_yes s d m w hv).mono fun e w' h=>⟨_,h.1,h.2⟩
 · cases hv:actB ⟨2,s,d,m⟩ with
   | false=>exact (validDeed_move_no s d m w hv).mono fun e w' h=>⟨_,h.1,h.2⟩
   | true=>exact (validDeed_move_yes s d m w hv).mono fun e w' h=>⟨_,h.1,h.2⟩
 · cases hv:actB ⟨3,s,d,m⟩ with
   | false=>exact (validDeed_copy_no s d m w hv).mono fun e w' h=>⟨_,h.1,h.2⟩
   | true=>exact (validDeed_copy_yes s d m w hv).mono fun e w' h=>⟨_,h.1,h.2⟩
 · cases hv:actB ⟨4,s,d,m⟩ with
   | false=>exact (validDeed_swap_no s d m w hv).mono fun e w' h=>⟨_,h.1,h.2⟩
   | true=>exact (validDeed_swap_yes s d m w hv).mono fun e w' h=>⟨_,h.1,h.2⟩
 · cases hv:actB ⟨5,s,d,m⟩ with
   | false=>exact (validDeed_add_no s d m w hv).mono fun e w' h=>⟨_,h.1,h.2⟩
   | true=>exact (validDeed_add_yes s d m w hv).mono fun e w' h=>⟨_,h.1,h.2⟩
 · cases hv:actB ⟨6,s,d,m⟩ with
   | false=>exact (validDeed_take_no s d m w hv).mono fun e w' h=>⟨_,h.1,h.2⟩
   | true=>exact (validDeed_take_yes s d m w hv).mono fun e w' h=>⟨_,h.1,h.2⟩
 · rw [actB_kind hk];exact (validDeed_none k s d m w hk).mono fun e w' h=>⟨_,h.1,h.2⟩
set_option maxHeartbeats 4000000 in
theorem runAction_no (a:Option Addr) (n cap:Nat) (S:List Ent) (k s d m:Int) (w:World) (h:RowE w a n S) (hno:(storeB S && actB ⟨k,s,d,m⟩)=false) :
  Calls Tryz.prog 190 #[.slice a n cap,.agg #[.int .i64 k,.int .i64 s,.int .i64 d,.int .i64 m]] w (NewF w 142 noEff):=by
 have c1:((w.alloc (.cells #[.int .i64 k,.int .i64 s,.int .i64 d,.int .i64 m] 113)).alloc (.cells #[.bool false,.slice none 0 0,.slice none 0 0] 178)).cell? ⟨w.heap.size,0,none⟩=some (.int .i64 k):=by simp [go_sem]
 have c2:((w.alloc (.cells #[.int .i64 k,.int .i64 s,.int .i64 d,.int .i64 m] 113)).alloc (.cells #[.bool false,.slice none 0 0,.slice none 0 0] 178)).cell? ⟨w.heap.size,1,none⟩=some (.int .i64 s):=by simp [go_sem]
 have c3:((w.alloc (.cells #[.int .i64 k,.int .i64 s,.int .i64 d,.int .i64 m] 113)).alloc (.cells #[.bool false,.slice none 0 0,.slice none 0 0] 178)).cell? ⟨w.heap.size,2,none⟩=some (.int .i64 d):=by simp [go_sem]
 have c4:((w.alloc (.cells #[.int .i64 k,.int .i64 s,.int .i64 d,.int .i64 m] 113)).alloc (.cells #[.bool false,.slice none 0 0,.slice none 0 0] 178)).cell? ⟨w.heap.size,3,none⟩=some (.int .i64 m):=by simp [go_sem]
 have hz:=zAt_new (w.alloc (.cells #[.int .i64 k,.int .i64 s,.int .i64 d,.int .i64 m] 113)) 178
 have hsz:((w.alloc (.cells #[.int .i64 k,.int .i64 s,.int .i64 d,.int .i64 m] 113)).alloc (.cells #[.bool false,.slice none 0 0,.slice none 0 0] 178)).heap.size=w.heap.size+2:=by simp
 rw [World.size_alloc] at hz
 have hb0:=((Below.refl w.heap.size w).alloc (Nat.le_refl _) (.cells #[.int .i64 k,.int .i64 s,.int .i64 d,.int .i64 m] 113)).alloc (by simp) (.cells #[.bool false,.slice none 0 0,.slice none 0 0] 178)
 go_enter Tryz.func190,Tryz.ntmps190
 go_wp2_with fail
 have hr0:=h.below hb0
 obtain ⟨w0,hw0⟩:∃ w0,w0=(w.alloc (.cells #[.int .i64 k,.int .i64 s,.int .i64 d,.int .i64 m] 113)).alloc (.cells #[.bool false,.slice none 0 0,.slice none 0 0] 178):=⟨_,rfl⟩
 rw [← hw0] at c1 c2 c3 c4 hz hb0 hr0 hsz ⊢
 have hs0:w.heap.size+2≤w0.heap.size:=by omega
 clear hw0 hsz
 refine (valuesOf_any a n cap S _ hr0).mono ?_;rintro e w1 ⟨rfl,hb1⟩
 have HL:=Lib.hid (valsM_len S)
 obtain ⟨A,hA⟩:∃ A,A=valsM S:=⟨_,rfl⟩
 rw [← hA] at HL ⊢
 clear hA hr0 h
 have hA0:=Arr.new w1 201 zeros
 have hs1:=hb1.size
 replace c1:=below_cell hb1 (show w.heap.size < w0.heap.size by omega) c1
 replace c2:=below_cell hb1 (show w.heap.size < w0.heap.size by omega) c2
 replace c3:=below_cell hb1 (show w.heap.size < w0.heap.size by omega) c3
 replace c4:=below_cell hb1 (show w.heap.size < w0.heap.size by omega) c4
 go_wp2_with (first | (refine wpList_store_arr' rfl _ _ _ rfl _ A (by rfl) (by rfl) 201 _ hA0 (by rw [HL.out];exact infoArr) (by rw [HL.out];rfl) ?_;intro w2 hA2 hg2 hz2;have hb2:=below_new (Below.refl _ w1) hg2;have d1:=below_cell hb2 (show w.heap.size < w1.heap.size by omega) c1;have d2:=below_cell hb2 (show w.heap.size < w1.heap.size by omega) c2;have d3:=below_cell hb2 (show w.heap.size < w1.heap.size by omega) c3;have d4:=below_cell hb2 (show w.heap.size < w1.heap.size by omega) c4;clear hg2 hz2 c1 c2 c3 c4))
 have hs2:=hb2.size
 refine (validDeed_any k s d m _).mono ?_;rintro e w3 ⟨v,rfl,hb3⟩
 have hbb:Below w0.heap.size w0 w3:=(hb1.trans (hb2.mono hs1)).trans (hb3.mono (by omega))
 have hz3:=hz.below hbb (by omega)
 obtain ⟨⟨z0,z1,z2⟩,⟨y0,y1,y2⟩,-⟩:=hz3
 have HB:=Lib.hid (below_set3 (hb0.trans (hbb.mono hb0.size)) (Z:=w.heap.size+1) (by omega) 0 1 2 (.bool false) (.slice none 0 0) (.slice none 0 0))
 clear hbb hb1 hb2 hb3 hA0 hA2 hz d1 d2 d3 d4 hb0
 cases hS:storeB S with
 | false =>
  clear hno
  cases hv:actB ⟨k,s,d,m⟩ with
  | false =>
   clear hS hv
   go_wp2
   refine bodyPost_ret (v:=.agg #[.bool false,.slice none 0 0,.slice none 0 0]) ?_ rfl ⟨_,rfl,ownF_zero _ _ _,HB.out⟩
   simp [results,Tryz.results190,go_sem,z0,z1,z2]
  | true =>
   clear hS hv
   go_wp2
   refine bodyPost_ret (v:=.agg #[.bool false,.slice none 0 0,.slice none 0 0]) ?_ rfl ⟨_,rfl,ownF_zero _ _ _,HB.out⟩
   simp [results,Tryz.results190,go_sem,z0,z1,z2]
 | true =>
  have hv:actB ⟨k,s,d,m⟩=false:=by rw [hS] at hno;simpa using hno
  clear hno hS
  rw [hv]
  clear hv
  go_wp2
  refine bodyPost_ret (v:=.agg #[.bool false,.slice none 0 0,.slice none 0 0]) ?_ rfl ⟨_,rfl,ownF_zero _ _ _,HB.out⟩
  simp [results,Tryz.results190,go_sem,z0,z1,z2]
set_option maxHeartbeats 4000000 in
theorem runAction_put (a:Option Addr) (n cap:Nat) (S:List Ent) (i j:Nat) (m:Int) (w:World) (h:RowE w a n S) (hS:storeB S=true) (hv:actB ⟨1,i,j,m⟩=true) (hi:i < 32) (hj:j < 32) :
  Calls Tryz.prog 190 #[.slice a n cap,.agg #[.int .i64 1,.int .i64 i,.int .i64 j,.int .i64 m]] w (NewF w 142 (effK 1 i j m (atM S i) (atM S j))):=by
 have HMB:Hid (0≤m∧m≤1000000):=Lib.hid (actB_bd hv).2.2
 have HBA:=Lib.hid (bdA_arrOf ((storeB_ok S).1 hS).2)
 have HF:=Lib.hid (arrOf_get S i hi)
 have HT:=Lib.hid (arrOf_get S j hj)
 have HL:=Lib.hid (arrOf_len S)
 have HVV:=Lib.hid hv
 have HSS:=Lib.hid hS
 clear hv hS
 have hm : ∀ (q : Nat) (w : World), (method (q + 1) 195 (.agg #[.int .i64 1, .int .i64 i, .int .i64 j, .int .i64 m]) "loop.example/blockexecutor/impl.run").run Tryz.prog w = .ok (224, .agg #[.int .i64 1, .int .i64 i, .int .i64 j, .int .i64 m]) w := fun _ _ => by kernel_rfl
 have c1:((w.alloc (.cells #[.int .i64 1,.int .i64 i,.int .i64 j,.int .i64 m] 113)).alloc (.cells #[.bool false,.slice none 0 0,.slice none 0 0] 178)).cell? ⟨w.heap.size,0,none⟩=some (.int .i64 1):=by simp [go_sem]
 have c2:((w.alloc (.cells #[.int .i64 1,.int .i64 i,.int .i64 j,.int .i64 m] 113)).alloc (.cells #[.bool false,.slice none 0 0,.slice none 0 0] 178)).cell? ⟨w.heap.size,1,none⟩=some (.int .i64 i):=by simp [go_sem]
 have c3:((w.alloc (.cells #[.int .i64 1,.int .i64 i,.int .i64 j,.int .i64 m] 113)).alloc (.cells #[.bool false,.slice none 0 0,.slice none 0 0] 178)).cell? ⟨w.heap.size,2,none⟩=some (.int .i64 j):=by simp [go_sem]
 have c4:((w.alloc (.cells #[.int .i64 1,.int .i64 i,.int .i64 j,.int .i64 m] 113)).alloc (.cells #[.bool false,.slice none 0 0,.slice none 0 0] 178)).cell? ⟨w.heap.size,3,none⟩=some (.int .i64 m):=by simp [go_sem]
 have hz:=zAt_new (w.alloc (.cells #[.int .i64 1,.int .i64 i,.int .i64 j,.int .i64 m] 113)) 178
 have hsz:((w.alloc (.cells #[.int .i64 1,.int .i64 i,.int .i64 j,.int .i64 m] 113)).alloc (.cells #[.bool false,.slice none 0 0,.slice none 0 0] 178)).heap.size=w.heap.size+2:=by simp
 rw [World.size_alloc] at hz
 have hb0:=((Below.refl w.heap.size w).alloc (Nat.le_refl _) (.cells #[.int .i64 1,.int .i64 i,.int .i64 j,.int .i64 m] 113)).alloc (by simp) (.cells #[.bool false,.slice none 0 0,.slice none 0 0] 178)
 go_enter Tryz.func190,Tryz.ntmps190
 go_wp2_with fail
 have hr0:=h.below hb0
 obtain ⟨w0,hw0⟩:∃ w0,w0=(w.alloc (.cells #[.int .i64 1,.int .i64 i,.int .i64 j,.int .i64 m] 113)).alloc (.cells #[.bool false,.slice none 0 0,.slice none 0 0] 178):=⟨_,rfl⟩
 rw [← hw0] at c1 c2 c3 c4 hz hb0 hr0 hsz ⊢
 have hs0:w.heap.size+2≤w0.heap.size:=by omega
 clear hw0 hsz
 refine (valuesOf_yes a n cap S _ hr0 HSS.out).mono ?_;rintro e w1 ⟨rfl,hb1⟩
 obtain ⟨A,hA⟩:∃ A,A=arrOf S:=⟨_,rfl⟩
 rw [← hA] at HL HF HT HBA ⊢
 clear hA hr0 h
 have hA0:=Arr.new w1 201 zeros
 have hs1:=hb1.size
 replace c1:=below_cell hb1 (show w.heap.size < w0.heap.size by omega) c1
 replace c2:=below_cell hb1 (show w.heap.size < w0.heap.size by omega) c2
 replace c3:=below_cell hb1 (show w.heap.size < w0.heap.size by omega) c3
 replace c4:=below_cell hb1 (show w.heap.size < w0.heap.size by omega) c4
 go_wp2_with (first | (refine wpList_store_arr' rfl _ _ _ rfl _ A (by rfl) (by rfl) 201 _ hA0 (by rw [HL.out];exact infoArr) (by rw [HL.out];rfl) ?_;intro w2 hA2 hg2 hz2;have hb2:=below_new (Below.refl _ w1) hg2;have d1:=below_cell hb2 (show w.heap.size < w1.heap.size by omega) c1;have d2:=below_cell hb2 (show w.heap.size < w1.heap.size by omega) c2;have d3:=below_cell hb2 (show w.heap.size < w1.heap.size by omega) c3;have d4:=below_cell hb2 (show w.heap.size < w1.heap.size by omega) c4;clear hg2 hz2 c1 c2 c3 c4))
 have hs2:=hb2.size
 refine (validDeed_put_yes i j m _ HVV.out).mono ?_;rintro e w3 ⟨rfl,hb3⟩
 have hA3:=hA2.after hb3
 have hs3:=hb3.size
 have hbb:Below w0.heap.size w0 w3:=(hb1.trans (hb2.mono hs1)).trans (hb3.mono (by omega))
 have hz3:=hz.below hbb (by omega)
 have hb30:=hb0.trans (hbb.mono hb0.size)
 clear hb1 hb2 hb3 hA0 hA2 hz d1 d2 d3 d4 hb0 hbb
 go_wp2_with (first | (refine wpList_load_arr rfl _ _ rfl _ (by rfl) 201 A hA3 _ _ Tryz.underlying201 (by rw [HL.out];exact infoArr) ?_))
 refine (viewOf_any A _ HL.out).mono ?_;rintro e w4 ⟨G,rfl,hV4,hb4⟩
 have hs4:=hb4.size
 have hz4:=hz3.below hb4 (by omega)
 have hb40:=hb30.trans (hb4.mono (by omega))
 obtain ⟨B,hB⟩:∃ B,B=w3.heap.size:=⟨_,rfl⟩
 rw [← hB] at hV4 hs4
 have HBw:=Lib.hid hB
 have hBz:w.heap.size+1 < B:=by omega
 clear hA3 hz3 hb30 hb4 hB
 go_wp2_with (first | (go_at_call 224;refine (run_put B G _ i A 1 j m (atM S i) (atM S j) _ (by first | exact hV4 | exact hV4.drew) (by exact hs4) hi HMB.out.1 HMB.out.2 HBA.out).mono ?_;rintro e w5 ⟨rfl,⟨D5,K5,g5,hV5,hbd5,hwr5⟩,hs5,hb5⟩))
 have hz5:=hz4.below hb5 (by omega)
 have hb50:=hb40.trans (hb5.mono (by omega))
 have hs5':w4.heap.size≤w5.heap.size:=hs5
 obtain ⟨b5,hb5e⟩:∃ b5,b5=doneK 1 i j m (atM S i) (atM S j):=⟨_,rfl⟩
 rw [← hb5e]
 have HB5:=Lib.hid hb5e
 have hrl:(rdsK 1 i j (atM S i) (atM S j)).length≤100:=by
  have:=readsM_len ⟨1,i,j,m⟩
  rw [readsM,if_pos HVV.out] at this
  unfold rdsK;rw [List.length_map];simp only at this;omega
 clear hb5e hz4 hb40 hs5
 go_wp2_with fail
 refine (effect_any B G D5 K5 A _ g5 b5 _ hV5 (by omega) hbd5 hrl).mono ?_;rintro e w6 ⟨v6,rfl,hF6,hb6⟩
 have hz6:=hz5.below hb6 (by omega)
 have hb60:=hb50.trans (hb6.mono (by omega))
 rw [hwr5] at hF6
 have hE:(⟨b5,rdsK 1 i j (atM S i) (atM S j),(effK 1 i j m (atM S i) (atM S j)).wrs⟩:Eff)=effK 1 i j m (atM S i) (atM S j):=by rw [HB5.out];rfl
 rw [hE] at hF6
 obtain ⟨X,hX⟩:∃ X,X=effK 1 i j m (atM S i) (atM S j):=⟨_,rfl⟩
 rw [← hX] at hF6 hwr5 hE
 have HX:=Lib.hid hX
 have hxl:X.rds.length≤4000000∧X.wrs.length≤4000000:=by
  rw [hX];exact ⟨Nat.le_trans hrl (by omega),by rw [hX] at hwr5;rw [← hwr5];exact Nat.le_trans (wrOf_len g5 32) (by omega)⟩
 have hF7:=(hF6.mono (show w.heap.size+2≤B by omega))
 obtain ⟨va,ca,vb,cb,rfl,-⟩:=hF7.rows hxl.1 hxl.2
 have HF7:=Lib.hid (ownF_set3 hF7 (Z:=w.heap.size+1) (hF7.apart (by omega)) 0 1 2 (.bool X.done) (.slice va X.rds.length ca) (.slice vb X.wrs.length cb))
 have HB7:=Lib.hid (below_set3 hb60 (Z:=w.heap.size+1) (by omega) 0 1 2 (.bool X.done) (.slice va X.rds.length ca) (.slice vb X.wrs.length cb))
 obtain ⟨⟨z0,z1,z2⟩,⟨y0,y1,y2⟩,-⟩:=hz6
 clear hX hE hF6 hF7 hwr5 hxl hb60 hb6 hz5 hV5 hb50 hrl hbd5 hb5
 go_wp2
 refine bodyPost_ret (v:=.agg #[.bool X.done,.slice va X.rds.length ca,.slice vb X.wrs.length cb]) ?_ rfl ⟨_,rfl,by rw [← HX.out];exact HF7.out.mono (show w.heap.size≤w.heap.size+2 by omega),HB7.out⟩
 simp [results,Tryz.results190,go_sem,z0,z1,z2]
set_option maxHeartbeats 4000000 in
theorem runAction_move (a:Option Addr) (n cap:Nat) (S:List Ent) (i j:Nat) (m:Int) (w:World) (h:RowE w a n S) (hS:storeB S=true) (hv:actB ⟨2,i,j,m⟩=true) (hi:i < 32) (hj:j < 32) :
  Calls Tryz.prog 190 #[.slice a n cap,.agg #[.int .i64 2,.int .i64 i,.int .i64 j,.int .i64 m]] w (NewF w 142 (effK 2 i j m (atM S i) (atM S j))):=by
 have HMB:Hid (0≤m∧m≤1000000):=Lib.hid (actB_bd hv).2.2
 have HBA:=Lib.hid (bdA_arrOf ((storeB_ok S).1 hS).2)
 have HF:=Lib.hid (arrOf_get S i hi)
 have HT:=Lib.hid (arrOf_get S j hj)
 have HL:=Lib.hid (arrOf_len S)
 have HVV:=Lib.hid hv
 have HSS:=Lib.hid hS
 clear hv hS
 have hm : ∀ (q : Nat) (w : World), (method (q + 1) 196 (.agg #[.int .i64 2, .int .i64 i, .int .i64 j, .int .i64 m]) "loop.example/blockexecutor/impl.run").run Tryz.prog w = .ok (229, .agg #[.int .i64 2, .int .i64 i, .int .i64 j, .int .i64 m]) w := fun _ _ => by kernel_rfl
 have c1:((w.alloc (.cells #[.int .i64 2,.int .i64 i,.int .i64 j,.int .i64 m] 113)).alloc (.cells #[.bool false,.slice none 0 0,.slice none 0 0] 178)).cell? ⟨w.heap.size,0,none⟩=some (.int .i64 2):=by simp [go_sem]
 have c2:((w.alloc (.cells #[.int .i64 2,.int .i64 i,.int .i64 j,.int .i64 m] 113)).alloc (.cells #[.bool false,.slice none 0 0,.slice none 0 0] 178)).cell? ⟨w.heap.size,1,none⟩=some (.int .i64 i):=by simp [go_sem]
 have c3:((w.alloc (.cells #[.int .i64 2,.int .i64 i,.int .i64 j,.int .i64 m] 113)).alloc (.cells #[.bool false,.slice none 0 0,.slice none 0 0] 178)).cell? ⟨w.heap.size,2,none⟩=some (.int .i64 j):=by simp [go_sem]
 have c4:((w.alloc (.cells #[.int .i64 2,.int .i64 i,.int .i64 j,.int .i64 m] 113)).alloc (.cells #[.bool false,.slice none 0 0,.slice none 0 0] 178)).cell? ⟨w.heap.size,3,none⟩=some (.int .i64 m):=by simp [go_sem]
 have hz:=zAt_new (w.alloc (.cells #[.int .i64 2,.int .i64 i,.int .i64 j,.int .i64 m] 113)) 178
 have hsz:((w.alloc (.cells #[.int .i64 2,.int .i64 i,.int .i64 j,.int .i64 m] 113)).alloc (.cells #[.bool false,.slice none 0 0,.slice none 0 0] 178)).heap.size=w.heap.size+2:=by simp
 rw [World.size_alloc] at hz
 have hb0:=((Below.refl w.heap.size w).alloc (Nat.le_refl _) (.cells #[.int .i64 2,.int .i64 i,.int .i64 j,.int .i64 m] 113)).alloc (by simp) (.cells #[.bool false,.slice none 0 0,.slice none 0 0] 178)
 go_enter Tryz.func190,Tryz.ntmps190
 go_wp2_with fail
 have hr0:=h.below hb0
 obtain ⟨w0,hw0⟩:∃ w0,w0=(w.alloc (.cells #[.int .i64 2,.int .i64 i,.int .i64 j,.int .i64 m] 113)).alloc (.cells #[.bool false,.slice none 0 0,.slice none 0 0] 178):=⟨_,rfl⟩
 rw [← hw0] at c1 c2 c3 c4 hz hb0 hr0 hsz ⊢
 have hs0:w.heap.size+2≤w0.heap.size:=by omega
 clear hw0 hsz
 refine (valuesOf_yes a n cap S _ hr0 HSS.out).mono ?_;rintro e w1 ⟨rfl,hb1⟩
 obtain ⟨A,hA⟩:∃ A,A=arrOf S:=⟨_,rfl⟩
 rw [← hA] at HL HF HT HBA ⊢
 clear hA hr0 h
 have hA0:=Arr.new w1 201 zeros
 have hs1:=hb1.size
 replace c1:=below_cell hb1 (show w.heap.size < w0.heap.size by omega) c1
 replace c2:=below_cell hb1 (show w.heap.size < w0.heap.size by omega) c2
 replace c3:=below_cell hb1 (show w.heap.size < w0.heap.size by omega) c3
 replace c4:=below_cell hb1 (show w.heap.size < w0.heap.size by omega) c4
 go_wp2_with (first | (refine wpList_store_arr' rfl _ _ _ rfl _ A (by rfl) (by rfl) 201 _ hA0 (by rw [HL.out];exact infoArr) (by rw [HL.out];rfl) ?_;intro w2 hA2 hg2 hz2;have hb2:=below_new (Below.refl _ w1) hg2;have d1:=below_cell hb2 (show w.heap.size < w1.heap.size by omega) c1;have d2:=below_cell hb2 (show w.heap.size < w1.heap.size by omega) c2;have d3:=below_cell hb2 (show w.heap.size < w1.heap.size by omega) c3;have d4:=below_cell hb2 (show w.heap.size < w1.heap.size by omega) c4;clear hg2 hz2 c1 c2 c3 c4))
 have hs2:=hb2.size
 refine (validDeed_move_yes i j m _ HVV.out).mono ?_;rintro e w3 ⟨rfl,hb3⟩
 have hA3:=hA2.after hb3
 have hs3:=hb3.size
 have hbb:Below w0.heap.size w0 w3:=(hb1.trans (hb2.mono hs1)).trans (hb3.mono (by omega))
 have hz3:=hz.below hbb (by omega)
 have hb30:=hb0.trans (hbb.mono hb0.size)
 clear hb1 hb2 hb3 hA0 hA2 hz d1 d2 d3 d4 hb0 hbb
 go_wp2_with (first | (refine wpList_load_arr rfl _ _ rfl _ (by rfl) 201 A hA3 _ _ Tryz.underlying201 (by rw [HL.out];exact infoArr) ?_))
 refine (viewOf_any A _ HL.out).mono ?_;rintro e w4 ⟨G,rfl,hV4,hb4⟩
 have hs4:=hb4.size
 have hz4:=hz3.below hb4 (by omega)
 have hb40:=hb30.trans (hb4.mono (by omega))
 obtain ⟨B,hB⟩:∃ B,B=w3.heap.size:=⟨_,rfl⟩
 rw [← hB] at hV4 hs4
 have HBw:=Lib.hid hB
 have hBz:w.heap.size+1 < B:=by omega
 clear hA3 hz3 hb30 hb4 hB
 go_wp2_with (first | (go_at_call 229;refine (run_move B G _ i j A 2 m (atM S i) (atM S j) _ (by first | exact hV4 | exact hV4.drew) (by exact hs4) hi hj HMB.out.1 HMB.out.2 HBA.out HF.out HT.out).mono ?_;rintro e w5 ⟨rfl,⟨D5,K5,g5,hV5,hbd5,hwr5⟩,hs5,hb5⟩))
 have hz5:=hz4.below hb5 (by omega)
 have hb50:=hb40.trans (hb5.mono (by omega))
 have hs5':w4.heap.size≤w5.heap.size:=hs5
 obtain ⟨b5,hb5e⟩:∃ b5,b5=doneK 2 i j m (atM S i) (atM S j):=⟨_,rfl⟩
 rw [← hb5e]
 have HB5:=Lib.hid hb5e
 have hrl:(rdsK 2 i j (atM S i) (atM S j)).length≤100:=by
  have:=readsM_len ⟨2,i,j,m⟩
  rw [readsM,if_pos HVV.out] at this
  unfold rdsK;rw [List.length_map];simp only at this;omega
 clear hb5e hz4 hb40 hs5
 go_wp2_with fail
 refine (effect_any B G D5 K5 A _ g5 b5 _ hV5 (by omega) hbd5 hrl).mono ?_;rintro e w6 ⟨v6,rfl,hF6,hb6⟩
 have hz6:=hz5.below hb6 (by omega)
 have hb60:=hb50.trans (hb6.mono (by omega))
 rw [hwr5] at hF6
 have hE:(⟨b5,rdsK 2 i j (atM S i) (atM S j),(effK 2 i j m (atM S i) (atM S j)).wrs⟩:Eff)=effK 2 i j m (atM S i) (atM S j):=by rw [HB5.out];rfl
 rw [hE] at hF6
 obtain ⟨X,hX⟩:∃ X,X=effK 2 i j m (atM S i) (atM S j):=⟨_,rfl⟩
 rw [← hX] at hF6 hwr5 hE
 have HX:=Lib.hid hX
 have hxl:X.rds.length≤4000000∧X.wrs.length≤4000000:=by
  rw [hX];exact ⟨Nat.le_trans hrl (by omega),by rw [hX] at hwr5;rw [← hwr5];exact Nat.le_trans (wrOf_len g5 32) (by omega)⟩
 have hF7:=(hF6.mono (show w.heap.size+2≤B by omega))
 obtain ⟨va,ca,vb,cb,rfl,-⟩:=hF7.rows hxl.1 hxl.2
 have HF7:=Lib.hid (ownF_set3 hF7 (Z:=w.heap.size+1) (hF7.apart (by omega)) 0 1 2 (.bool X.done) (.slice va X.rds.length ca) (.slice vb X.wrs.length cb))
 have HB7:=Lib.hid (below_set3 hb60 (Z:=w.heap.size+1) (by omega) 0 1 2 (.bool X.done) (.slice va X.rds.length ca) (.slice vb X.wrs.length cb))
 obtain ⟨⟨z0,z1,z2⟩,⟨y0,y1,y2⟩,-⟩:=hz6
 clear hX hE hF6 hF7 hwr5 hxl hb60 hb6 hz5 hV5 hb50 hrl hbd5 hb5
 go_wp2
 refine bodyPost_ret (v:=.agg #[.bool X.done,.slice va X.rds.length ca,.slice vb X.wrs.length cb]) ?_ rfl ⟨_,rfl,by rw [← HX.out];exact HF7.out.mono (show w.heap.size≤w.heap.size+2 by omega),HB7.out⟩
 simp [results,Tryz.results190,go_sem,z0,z1,z2]
set_option maxHeartbeats 4000000 in
theorem runAction_copy (a:Option Addr) (n cap:Nat) (S:List Ent) (i j:Nat) (m:Int) (w:World) (h:RowE w a n S) (hS:storeB S=true) (hv:actB ⟨3,i,j,m⟩=true) (hi:i < 32) (hj:j < 32) :
  Calls Tryz.prog 190 #[.slice a n cap,.agg #[.int .i64 3,.int .i64 i,.int .i64 j,.int .i64 m]] w (NewF w 142 (effK 3 i j m (atM S i) (atM S j))):=by
 have HMB:Hid (0≤m∧m≤1000000):=Lib.hid (actB_bd hv).2.2
 have HBA:=Lib.hid (bdA_arrOf ((storeB_ok S).1 hS).2)
 have HF:=Lib.hid (arrOf_get S i hi)
 have HT:=Lib.hid (arrOf_get S j hj)
 have HL:=Lib.hid (arrOf_len S)
 have HVV:=Lib.hid hv
 have HSS:=Lib.hid hS
 clear hv hS
 have hm : ∀ (q : Nat) (w : World), (method (q + 1) 197 (.agg #[.int .i64 3, .int .i64 i, .int .i64 j, .int .i64 m]) "loop.example/blockexecutor/impl.run").run Tryz.prog w = .ok (236, .agg #[.int .i64 3, .int .i64 i, .int .i64 j, .int .i64 m]) w := fun _ _ => by kernel_rfl
 have c1:((w.alloc (.cells #[.int .i64 3,.int .i64 i,.int .i64 j,.int .i64 m] 113)).alloc (.cells #[.bool false,.slice none 0 0,.slice none 0 0] 178)).cell? ⟨w.heap.size,0,none⟩=some (.int .i64 3):=by simp [go_sem]
 have c2:((w.alloc (.cells #[.int .i64 3,.int .i64 i,.int .i64 j,.int .i64 m] 113)).alloc (.cells #[.bool false,.slice none 0 0,.slice none 0 0] 178)).cell? ⟨w.heap.size,1,none⟩=some (.int .i64 i):=by simp [go_sem]
 have c3:((w.alloc (.cells #[.int .i64 3,.int .i64 i,.int .i64 j,.int .i64 m] 113)).alloc (.cells #[.bool false,.slice none 0 0,.slice none 0 0] 178)).cell? ⟨w.heap.size,2,none⟩=some (.int .i64 j):=by simp [go_sem]
 have c4:((w.alloc (.cells #[.int .i64 3,.int .i64 i,.int .i64 j,.int .i64 m] 113)).alloc (.cells #[.bool false,.slice none 0 0,.slice none 0 0] 178)).cell? ⟨w.heap.size,3,none⟩=some (.int .i64 m):=by simp [go_sem]
 have hz:=zAt_new (w.alloc (.cells #[.int .i64 3,.int .i64 i,.int .i64 j,.int .i64 m] 113)) 178
 have hsz:((w.alloc (.cells #[.int .i64 3,.int .i64 i,.int .i64 j,.int .i64 m] 113)).alloc (.cells #[.bool false,.slice none 0 0,.slice none 0 0] 178)).heap.size=w.heap.size+2:=by simp
 rw [World.size_alloc] at hz
 have hb0:=((Below.refl w.heap.size w).alloc (Nat.le_refl _) (.cells #[.int .i64 3,.int .i64 i,.int .i64 j,.int .i64 m] 113)).alloc (by simp) (.cells #[.bool false,.slice none 0 0,.slice none 0 0] 178)
 go_enter Tryz.func190,Tryz.ntmps190
 go_wp2_with fail
 have hr0:=h.below hb0
 obtain ⟨w0,hw0⟩:∃ w0,w0=(w.alloc (.cells #[.int .i64 3,.int .i64 i,.int .i64 j,.int .i64 m] 113)).alloc (.cells #[.bool false,.slice none 0 0,.slice none 0 0] 178):=⟨_,rfl⟩
 rw [← hw0] at c1 c2 c3 c4 hz hb0 hr0 hsz ⊢
 have hs0:w.heap.size+2≤w0.heap.size:=by omega
 clear hw0 hsz
 refine (valuesOf_yes a n cap S _ hr0 HSS.out).mono ?_;rintro e w1 ⟨rfl,hb1⟩
 obtain ⟨A,hA⟩:∃ A,A=arrOf S:=⟨_,rfl⟩
 rw [← hA] at HL HF HT HBA ⊢
 clear hA hr0 h
 have hA0:=Arr.new w1 201 zeros
 have hs1:=hb1.size
 replace c1:=below_cell hb1 (show w.heap.size < w0.heap.size by omega) c1
 replace c2:=below_cell hb1 (show w.heap.size < w0.heap.size by omega) c2
 replace c3:=below_cell hb1 (show w.heap.size < w0.heap.size by omega) c3
 replace c4:=below_cell hb1 (show w.heap.size < w0.heap.size by omega) c4
 go_wp2_with (first | (refine wpList_store_arr' rfl _ _ _ rfl _ A (by rfl) (by rfl) 201 _ hA0 (by rw [HL.out];exact infoArr) (by rw [HL.out];rfl) ?_;intro w2 hA2 hg2 hz2;have hb2:=below_new (Below.refl _ w1) hg2;have d1:=below_cell hb2 (show w.heap.size < w1.heap.size by omega) c1;have d2:=below_cell hb2 (show w.heap.size < w1.heap.size by omega) c2;have d3:=below_cell hb2 (show w.heap.size < w1.heap.size by omega) c3;have d4:=below_cell hb2 (show w.heap.size < w1.heap.size by omega) c4;clear hg2 hz2 c1 c2 c3 c4))
 have hs2:=hb2.size
 refine (validDeed_copy_yes i j m _ HVV.out).mono ?_;rintro e w3 ⟨rfl,hb3⟩
 have hA3:=hA2.after hb3
 have hs3:=hb3.size
 have hbb:Below w0.heap.size w0 w3:=(hb1.trans (hb2.mono hs1)).trans (hb3.mono (by omega))
 have hz3:=hz.below hbb (by omega)
 have hb30:=hb0.trans (hbb.mono hb0.size)
 clear hb1 hb2 hb3 hA0 hA2 hz d1 d2 d3 d4 hb0 hbb
 go_wp2_with (first | (refine wpList_load_arr rfl _ _ rfl _ (by rfl) 201 A hA3 _ _ Tryz.underlying201 (by rw [HL.out];exact infoArr) ?_))
 refine (viewOf_any A _ HL.out).mono ?_;rintro e w4 ⟨G,rfl,hV4,hb4⟩
 have hs4:=hb4.size
 have hz4:=hz3.below hb4 (by omega)
 have hb40:=hb30.trans (hb4.mono (by omega))
 obtain ⟨B,hB⟩:∃ B,B=w3.heap.size:=⟨_,rfl⟩
 rw [← hB] at hV4 hs4
 have HBw:=Lib.hid hB
 have hBz:w.heap.size+1 < B:=by omega
 clear hA3 hz3 hb30 hb4 hB
 go_wp2_with (first | (go_at_call 236;refine (run_copy B G _ i j A 3 m (atM S i) (atM S j) _ (by first | exact hV4 | exact hV4.drew) (by exact hs4) hi hj HMB.out.1 HMB.out.2 HBA.out HF.out HT.out).mono ?_;rintro e w5 ⟨rfl,⟨D5,K5,g5,hV5,hbd5,hwr5⟩,hs5,hb5⟩))
 have hz5:=hz4.below hb5 (by omega)
 have hb50:=hb40.trans (hb5.mono (by omega))
 have hs5':w4.heap.size≤w5.heap.size:=hs5
 obtain ⟨b5,hb5e⟩:∃ b5,b5=doneK 3 i j m (atM S i) (atM S j):=⟨_,rfl⟩
 rw [← hb5e]
 have HB5:=Lib.hid hb5e
 have hrl:(rdsK 3 i j (atM S i) (atM S j)).length≤100:=by
  have:=readsM_len ⟨3,i,j,m⟩
  rw [readsM,if_pos HVV.out] at this
  unfold rdsK;rw [List.length_map];simp only at this;omega
 clear hb5e hz4 hb40 hs5
 go_wp2_with fail
 refine (effect_any B G D5 K5 A _ g5 b5 _ hV5 (by omega) hbd5 hrl).mono ?_;rintro e w6 ⟨v6,rfl,hF6,hb6⟩
 have hz6:=hz5.below hb6 (by omega)
 have hb60:=hb50.trans (hb6.mono (by omega))
 rw [hwr5] at hF6
 have hE:(⟨b5,rdsK 3 i j (atM S i) (atM S j),(effK 3 i j m (atM S i) (atM S j)).wrs⟩:Eff)=effK 3 i j m (atM S i) (atM S j):=by rw [HB5.out];rfl
 rw [hE] at hF6
 obtain ⟨X,hX⟩:∃ X,X=effK 3 i j m (atM S i) (atM S j):=⟨_,rfl⟩
 rw [← hX] at hF6 hwr5 hE
 have HX:=Lib.hid hX
 have hxl:X.rds.length≤4000000∧X.wrs.length≤4000000:=by
  rw [hX];exact ⟨Nat.le_trans hrl (by omega),by rw [hX] at hwr5;rw [← hwr5];exact Nat.le_trans (wrOf_len g5 32) (by omega)⟩
 have hF7:=(hF6.mono (show w.heap.size+2≤B by omega))
 obtain ⟨va,ca,vb,cb,rfl,-⟩:=hF7.rows hxl.1 hxl.2
 have HF7:=Lib.hid (ownF_set3 hF7 (Z:=w.heap.size+1) (hF7.apart (by omega)) 0 1 2 (.bool X.done) (.slice va X.rds.length ca) (.slice vb X.wrs.length cb))
 have HB7:=Lib.hid (below_set3 hb60 (Z:=w.heap.size+1) (by omega) 0 1 2 (.bool X.done) (.slice va X.rds.length ca) (.slice vb X.wrs.length cb))
 obtain ⟨⟨z0,z1,z2⟩,⟨y0,y1,y2⟩,-⟩:=hz6
 clear hX hE hF6 hF7 hwr5 hxl hb60 hb6 hz5 hV5 hb50 hrl hbd5 hb5
 go_wp2
 refine bodyPost_ret (v:=.agg #[.bool X.done,.slice va X.rds.length ca,.slice vb X.wrs.length cb]) ?_ rfl ⟨_,rfl,by rw [← HX.out];exact HF7.out.mono (show w.heap.size≤w.heap.size+2 by omega),HB7.out⟩
 simp [results,Tryz.results190,go_sem,z0,z1,z2]
set_option maxHeartbeats 4000000 in
theorem runAction_swap (a:Option Addr) (n cap:Nat) (S:List Ent) (i j:Nat) (m:Int) (w:World) (h:RowE w a n S) (hS:storeB S=true) (hv:actB ⟨4,i,j,m⟩=true) (hi:i < 32) (hj:j < 32) :
  Calls Tryz.prog 190 #[.slice a n cap,.agg #[.int .i64 4,.int .i64 i,.int .i64 j,.int .i64 m]] w (NewF w 142 (effK 4 i j m (atM S i) (atM S j))):=by
 have HMB:Hid (0≤m∧m≤1000000):=Lib.hid (actB_bd hv).2.2
 have HBA:=Lib.hid (bdA_arrOf ((storeB_ok S).1 hS).2)
 have HF:=Lib.hid (arrOf_get S i hi)
 have HT:=Lib.hid (arrOf_get S j hj)
 have HL:=Lib.hid (arrOf_len S)
 have HVV:=Lib.hid hv
 have HSS:=Lib.hid hS
 clear hv hS
 have hm : ∀ (q : Nat) (w : World), (method (q + 1) 198 (.agg #[.int .i64 4, .int .i64 i, .int .i64 j, .int .i64 m]) "loop.example/blockexecutor/impl.run").run Tryz.prog w = .ok (240, .agg #[.int .i64 4, .int .i64 i, .int .i64 j, .int .i64 m]) w := fun _ _ => by kernel_rfl
 have c1:((w.alloc (.cells #[.int .i64 4,.int .i64 i,.int .i64 j,.int .i64 m] 113)).alloc (.cells #[.bool false,.slice none 0 0,.slice none 0 0] 178)).cell? ⟨w.heap.size,0,none⟩=some (.int .i64 4):=by simp [go_sem]
 have c2:((w.alloc (.cells #[.int .i64 4,.int .i64 i,.int .i64 j,.int .i64 m] 113)).alloc (.cells #[.bool false,.slice none 0 0,.slice none 0 0] 178)).cell? ⟨w.heap.size,1,none⟩=some (.int .i64 i):=by simp [go_sem]
 have c3:((w.alloc (.cells #[.int .i64 4,.int .i64 i,.int .i64 j,.int .i64 m] 113)).alloc (.cells #[.bool false,.slice none 0 0,.slice none 0 0] 178)).cell? ⟨w.heap.size,2,none⟩=some (.int .i64 j):=by simp [go_sem]
 have c4:((w.alloc (.cells #[.int .i64 4,.int .i64 i,.int .i64 j,.int .i64 m] 113)).alloc (.cells #[.bool false,.slice none 0 0,.slice none 0 0] 178)).cell? ⟨w.heap.size,3,none⟩=some (.int .i64 m):=by simp [go_sem]
 have hz:=zAt_new (w.alloc (.cells #[.int .i64 4,.int .i64 i,.int .i64 j,.int .i64 m] 113)) 178
 have hsz:((w.alloc (.cells #[.int .i64 4,.int .i64 i,.int .i64 j,.int .i64 m] 113)).alloc (.cells #[.bool false,.slice none 0 0,.slice none 0 0] 178)).heap.size=w.heap.size+2:=by simp
 rw [World.size_alloc] at hz
 have hb0:=((Below.refl w.heap.size w).alloc (Nat.le_refl _) (.cells #[.int .i64 4,.int .i64 i,.int .i64 j,.int .i64 m] 113)).alloc (by simp) (.cells #[.bool false,.slice none 0 0,.slice none 0 0] 178)
 go_enter Tryz.func190,Tryz.ntmps190
 go_wp2_with fail
 have hr0:=h.below hb0
 obtain ⟨w0,hw0⟩:∃ w0,w0=(w.alloc (.cells #[.int .i64 4,.int .i64 i,.int .i64 j,.int .i64 m] 113)).alloc (.cells #[.bool false,.slice none 0 0,.slice none 0 0] 178):=⟨_,rfl⟩
 rw [← hw0] at c1 c2 c3 c4 hz hb0 hr0 hsz ⊢
 have hs0:w.heap.size+2≤w0.heap.size:=by omega
 clear hw0 hsz
 refine (valuesOf_yes a n cap S _ hr0 HSS.out).mono ?_;rintro e w1 ⟨rfl,hb1⟩
 obtain ⟨A,hA⟩:∃ A,A=arrOf S:=⟨_,rfl⟩
 rw [← hA] at HL HF HT HBA ⊢
 clear hA hr0 h
 have hA0:=Arr.new w1 201 zeros
 have hs1:=hb1.size
 replace c1:=below_cell hb1 (show w.heap.size < w0.heap.size by omega) c1
 replace c2:=below_cell hb1 (show w.heap.size < w0.heap.size by omega) c2
 replace c3:=below_cell hb1 (show w.heap.size < w0.heap.size by omega) c3
 replace c4:=below_cell hb1 (show w.heap.size < w0.heap.size by omega) c4
 go_wp2_with (first | (refine wpList_store_arr' rfl _ _ _ rfl _ A (by rfl) (by rfl) 201 _ hA0 (by rw [HL.out];exact infoArr) (by rw [HL.out];rfl) ?_;intro w2 hA2 hg2 hz2;have hb2:=below_new (Below.refl _ w1) hg2;have d1:=below_cell hb2 (show w.heap.size < w1.heap.size by omega) c1;have d2:=below_cell hb2 (show w.heap.size < w1.heap.size by omega) c2;have d3:=below_cell hb2 (show w.heap.size < w1.heap.size by omega) c3;have d4:=below_cell hb2 (show w.heap.size < w1.heap.size by omega) c4;clear hg2 hz2 c1 c2 c3 c4))
 have hs2:=hb2.size
 refine (validDeed_swap_yes i j m _ HVV.out).mono ?_;rintro e w3 ⟨rfl,hb3⟩
 have hA3:=hA2.after hb3
 have hs3:=hb3.size
 have hbb:Below w0.heap.size w0 w3:=(hb1.trans (hb2.mono hs1)).trans (hb3.mono (by omega))
 have hz3:=hz.below hbb (by omega)
 have hb30:=hb0.trans (hbb.mono hb0.size)
 clear hb1 hb2 hb3 hA0 hA2 hz d1 d2 d3 d4 hb0 hbb
 go_wp2_with (first | (refine wpList_load_arr rfl _ _ rfl _ (by rfl) 201 A hA3 _ _ Tryz.underlying201 (by rw [HL.out];exact infoArr) ?_))
 refine (viewOf_any A _ HL.out).mono ?_;rintro e w4 ⟨G,rfl,hV4,hb4⟩
 have hs4:=hb4.size
 have hz4:=hz3.below hb4 (by omega)
 have hb40:=hb30.trans (hb4.mono (by omega))
 obtain ⟨B,hB⟩:∃ B,B=w3.heap.size:=⟨_,rfl⟩
 rw [← hB] at hV4 hs4
 have HBw:=Lib.hid hB
 have hBz:w.heap.size+1 < B:=by omega
 clear hA3 hz3 hb30 hb4 hB
 go_wp2_with (first | (go_at_call 240;refine (run_swap B G _ i j A 4 m (atM S i) (atM S j) _ (by first | exact hV4 | exact hV4.drew) (by exact hs4) hi hj HMB.out.1 HMB.out.2 HBA.out HF.out HT.out).mono ?_;rintro e w5 ⟨rfl,⟨D5,K5,g5,hV5,hbd5,hwr5⟩,hs5,hb5⟩))
 have hz5:=hz4.below hb5 (by omega)
 have hb50:=hb40.trans (hb5.mono (by omega))
 have hs5':w4.heap.size≤w5.heap.size:=hs5
 obtain ⟨b5,hb5e⟩:∃ b5,b5=doneK 4 i j m (atM S i) (atM S j):=⟨_,rfl⟩
 rw [← hb5e]
 have HB5:=Lib.hid hb5e
 have hrl:(rdsK 4 i j (atM S i) (atM S j)).length≤100:=by
  have:=readsM_len ⟨4,i,j,m⟩
  rw [readsM,if_pos HVV.out] at this
  unfold rdsK;rw [List.length_map];simp only at this;omega
 clear hb5e hz4 hb40 hs5
 go_wp2_with fail
 refine (effect_any B G D5 K5 A _ g5 b5 _ hV5 (by omega) hbd5 hrl).mono ?_;rintro e w6 ⟨v6,rfl,hF6,hb6⟩
 have hz6:=hz5.below hb6 (by omega)
 have hb60:=hb50.trans (hb6.mono (by omega))
 rw [hwr5] at hF6
 have hE:(⟨b5,rdsK 4 i j (atM S i) (atM S j),(effK 4 i j m (atM S i) (atM S j)).wrs⟩:Eff)=effK 4 i j m (atM S i) (atM S j):=by rw [HB5.out];rfl
 rw [hE] at hF6
 obtain ⟨X,hX⟩:∃ X,X=effK 4 i j m (atM S i) (atM S j):=⟨_,rfl⟩
 rw [← hX] at hF6 hwr5 hE
 have HX:=Lib.hid hX
 have hxl:X.rds.length≤4000000∧X.wrs.length≤4000000:=by
  rw [hX];exact ⟨Nat.le_trans hrl (by omega),by rw [hX] at hwr5;rw [← hwr5];exact Nat.le_trans (wrOf_len g5 32) (by omega)⟩
 have hF7:=(hF6.mono (show w.heap.size+2≤B by omega))
 obtain ⟨va,ca,vb,cb,rfl,-⟩:=hF7.rows hxl.1 hxl.2
 have HF7:=Lib.hid (ownF_set3 hF7 (Z:=w.heap.size+1) (hF7.apart (by omega)) 0 1 2 (.bool X.done) (.slice va X.rds.length ca) (.slice vb X.wrs.length cb))
 have HB7:=Lib.hid (below_set3 hb60 (Z:=w.heap.size+1) (by omega) 0 1 2 (.bool X.done) (.slice va X.rds.length ca) (.slice vb X.wrs.length cb))
 obtain ⟨⟨z0,z1,z2⟩,⟨y0,y1,y2⟩,-⟩:=hz6
 clear hX hE hF6 hF7 hwr5 hxl hb60 hb6 hz5 hV5 hb50 hrl hbd5 hb5
 go_wp2
 refine bodyPost_ret (v:=.agg #[.bool X.done,.slice va X.rds.length ca,.slice vb X.wrs.length cb]) ?_ rfl ⟨_,rfl,by rw [← HX.out];exact HF7.out.mono (show w.heap.size≤w.heap.size+2 by omega),HB7.out⟩
 simp [results,Tryz.results190,go_sem,z0,z1,z2]
set_option maxHeartbeats 4000000 in
theorem runAction_add (a:Option Addr) (n cap:Nat) (S:List Ent) (i j:Nat) (m:Int) (w:World) (h:RowE w a n S) (hS:storeB S=true) (hv:actB ⟨5,i,j,m⟩=true) (hi:i < 32) (hj:j < 32) :
  Calls Tryz.prog 190 #[.slice a n cap,.agg #[.int .i64 5,.int .i64 i,.int .i64 j,.int .i64 m]] w (NewF w 142 (effK 5 i j m (atM S i) (atM S j))):=by
 have HMB:Hid (0≤m∧m≤1000000):=Lib.hid (actB_bd hv).2.2
 have HBA:=Lib.hid (bdA_arrOf ((storeB_ok S).1 hS).2)
 have HF:=Lib.hid (arrOf_get S i hi)
 have HT:=Lib.hid (arrOf_get S j hj)
 have HL:=Lib.hid (arrOf_len S)
 have HVV:=Lib.hid hv
 have HSS:=Lib.hid hS
 clear hv hS
 have hm : ∀ (q : Nat) (w : World), (method (q + 1) 199 (.agg #[.int .i64 5, .int .i64 i, .int .i64 j, .int .i64 m]) "loop.example/blockexecutor/impl.run").run Tryz.prog w = .ok (244, .agg #[.int .i64 5, .int .i64 i, .int .i64 j, .int .i64 m]) w := fun _ _ => by kernel_rfl
 have c1:((w.alloc (.cells #[.int .i64 5,.int .i64 i,.int .i64 j,.int .i64 m] 113)).alloc (.cells #[.bool false,.slice none 0 0,.slice none 0 0] 178)).cell? ⟨w.heap.size,0,none⟩=some (.int .i64 5):=by simp [go_sem]
 have c2:((w.alloc (.cells #[.int .i64 5,.int .i64 i,.int .i64 j,.int .i64 m] 113)).alloc (.cells #[.bool false,.slice none 0 0,.slice none 0 0] 178)).cell? ⟨w.heap.size,1,none⟩=some (.int .i64 i):=by simp [go_sem]
 have c3:((w.alloc (.cells #[.int .i64 5,.int .i64 i,.int .i64 j,.int .i64 m] 113)).alloc (.cells #[.bool false,.slice none 0 0,.slice none 0 0] 178)).cell? ⟨w.heap.size,2,none⟩=some (.int .i64 j):=by simp [go_sem]
 have c4:((w.alloc (.cells #[.int .i64 5,.int .i64 i,.int .i64 j,.int .i64 m] 113)).alloc (.cells #[.bool false,.slice none 0 0,.slice none 0 0] 178)).cell? ⟨w.heap.size,3,none⟩=some (.int .i64 m):=by simp [go_sem]
 have hz:=zAt_new (w.alloc (.cells #[.int .i64 5,.int .i64 i,.int .i64 j,.int .i64 m] 113)) 178
 have hsz:((w.alloc (.cells #[.int .i64 5,.int .i64 i,.int .i64 j,.int .i64 m] 113)).alloc (.cells #[.bool false,.slice none 0 0,.slice none 0 0] 178)).heap.size=w.heap.size+2:=by simp
 rw [World.size_alloc] at hz
 have hb0:=((Below.refl w.heap.size w).alloc (Nat.le_refl _) (.cells #[.int .i64 5,.int .i64 i,.int .i64 j,.int .i64 m] 113)).alloc (by simp) (.cells #[.bool false,.slice none 0 0,.slice none 0 0] 178)
 go_enter Tryz.func190,Tryz.ntmps190
 go_wp2_with fail
 have hr0:=h.below hb0
 obtain ⟨w0,hw0⟩:∃ w0,w0=(w.alloc (.cells #[.int .i64 5,.int .i64 i,.int .i64 j,.int .i64 m] 113)).alloc (.cells #[.bool false,.slice none 0 0,.slice none 0 0] 178):=⟨_,rfl⟩
 rw [← hw0] at c1 c2 c3 c4 hz hb0 hr0 hsz ⊢
 have hs0:w.heap.size+2≤w0.heap.size:=by omega
 clear hw0 hsz
 refine (valuesOf_yes a n cap S _ hr0 HSS.out).mono ?_;rintro e w1 ⟨rfl,hb1⟩
 obtain ⟨A,hA⟩:∃ A,A=arrOf S:=⟨_,rfl⟩
 rw [← hA] at HL HF HT HBA ⊢
 clear hA hr0 h
 have hA0:=Arr.new w1 201 zeros
 have hs1:=hb1.size
 replace c1:=below_cell hb1 (show w.heap.size < w0.heap.size by omega) c1
 replace c2:=below_cell hb1 (show w.heap.size < w0.heap.size by omega) c2
 replace c3:=below_cell hb1 (show w.heap.size < w0.heap.size by omega) c3
 replace c4:=below_cell hb1 (show w.heap.size < w0.heap.size by omega) c4
 go_wp2_with (first | (refine wpList_store_arr' rfl _ _ _ rfl _ A (by rfl) (by rfl) 201 _ hA0 (by rw [HL.out];exact infoArr) (by rw [HL.out];rfl) ?_;intro w2 hA2 hg2 hz2;have hb2:=below_new (Below.refl _ w1) hg2;have d1:=below_cell hb2 (show w.heap.size < w1.heap.size by omega) c1;have d2:=below_cell hb2 (show w.heap.size < w1.heap.size by omega) c2;have d3:=below_cell hb2 (show w.heap.size < w1.heap.size by omega) c3;have d4:=below_cell hb2 (show w.heap.size < w1.heap.size by omega) c4;clear hg2 hz2 c1 c2 c3 c4))
 have hs2:=hb2.size
 refine (validDeed_add_yes i j m _ HVV.out).mono ?_;rintro e w3 ⟨rfl,hb3⟩
 have hA3:=hA2.after hb3
 have hs3:=hb3.size
 have hbb:Below w0.heap.size w0 w3:=(hb1.trans (hb2.mono hs1)).trans (hb3.mono (by omega))
 have hz3:=hz.below hbb (by omega)
 have hb30:=hb0.trans (hbb.mono hb0.size)
 clear hb1 hb2 hb3 hA0 hA2 hz d1 d2 d3 d4 hb0 hbb
 go_wp2_with (first | (refine wpList_load_arr rfl _ _ rfl _ (by rfl) 201 A hA3 _ _ Tryz.underlying201 (by rw [HL.out];exact infoArr) ?_))
 refine (viewOf_any A _ HL.out).mono ?_;rintro e w4 ⟨G,rfl,hV4,hb4⟩
 have hs4:=hb4.size
 have hz4:=hz3.below hb4 (by omega)
 have hb40:=hb30.trans (hb4.mono (by omega))
 obtain ⟨B,hB⟩:∃ B,B=w3.heap.size:=⟨_,rfl⟩
 rw [← hB] at hV4 hs4
 have HBw:=Lib.hid hB
 have hBz:w.heap.size+1 < B:=by omega
 clear hA3 hz3 hb30 hb4 hB
 go_wp2_with (first | (go_at_call 244;refine (run_add B G _ i j A 5 m (atM S i) (atM S j) _ (by first | exact hV4 | exact hV4.drew) (by exact hs4) hi hj HMB.out.1 HMB.out.2 HBA.out HF.out HT.out).mono ?_;rintro e w5 ⟨rfl,⟨D5,K5,g5,hV5,hbd5,hwr5⟩,hs5,hb5⟩))
 have hz5:=hz4.below hb5 (by omega)
 have hb50:=hb40.trans (hb5.mono (by omega))
 have hs5':w4.heap.size≤w5.heap.size:=hs5
 obtain ⟨b5,hb5e⟩:∃ b5,b5=doneK 5 i j m (atM S i) (atM S j):=⟨_,rfl⟩
 rw [← hb5e]
 have HB5:=Lib.hid hb5e
 have hrl:(rdsK 5 i j (atM S i) (atM S j)).length≤100:=by
  have:=readsM_len ⟨5,i,j,m⟩
  rw [readsM,if_pos HVV.out] at this
  unfold rdsK;rw [List.length_map];simp only at this;omega
 clear hb5e hz4 hb40 hs5
 go_wp2_with fail
 refine (effect_any B G D5 K5 A _ g5 b5 _ hV5 (by omega) hbd5 hrl).mono ?_;rintro e w6 ⟨v6,rfl,hF6,hb6⟩
 have hz6:=hz5.below hb6 (by omega)
 have hb60:=hb50.trans (hb6.mono (by omega))
 rw [hwr5] at hF6
 have hE:(⟨b5,rdsK 5 i j (atM S i) (atM S j),(effK 5 i j m (atM S i) (atM S j)).wrs⟩:Eff)=effK 5 i j m (atM S i) (atM S j):=by rw [HB5.out];rfl
 rw [hE] at hF6
 obtain ⟨X,hX⟩:∃ X,X=effK 5 i j m (atM S i) (atM S j):=⟨_,rfl⟩
 rw [← hX] at hF6 hwr5 hE
 have HX:=Lib.hid hX
 have hxl:X.rds.length≤4000000∧X.wrs.length≤4000000:=by
  rw [hX];exact ⟨Nat.le_trans hrl (by omega),by rw [hX] at hwr5;rw [← hwr5];exact Nat.le_trans (wrOf_len g5 32) (by omega)⟩
 have hF7:=(hF6.mono (show w.heap.size+2≤B by omega))
 obtain ⟨va,ca,vb,cb,rfl,-⟩:=hF7.rows hxl.1 hxl.2
 have HF7:=Lib.hid (ownF_set3 hF7 (Z:=w.heap.size+1) (hF7.apart (by omega)) 0 1 2 (.bool X.done) (.slice va X.rds.length ca) (.slice vb X.wrs.length cb))
 have HB7:=Lib.hid (below_set3 hb60 (Z:=w.heap.size+1) (by omega) 0 1 2 (.bool X.done) (.slice va X.rds.length ca) (.slice vb X.wrs.length cb))
 obtain ⟨⟨z0,z1,z2⟩,⟨y0,y1,y2⟩,-⟩:=hz6
 clear hX hE hF6 hF7 hwr5 hxl hb60 hb6 hz5 hV5 hb50 hrl hbd5 hb5
 go_wp2
 refine bodyPost_ret (v:=.agg #[.bool X.done,.slice va X.rds.length ca,.slice vb X.wrs.length cb]) ?_ rfl ⟨_,rfl,by rw [← HX.out];exact HF7.out.mono (show w.heap.size≤w.heap.size+2 by omega),HB7.out⟩
 simp [results,Tryz.results190,go_sem,z0,z1,z2]
set_option maxHeartbeats 4000000 in
theorem runAction_take (a:Option Addr) (n cap:Nat) (S:List Ent) (i j:Nat) (m:Int) (w:World) (h:RowE w a n S) (hS:storeB S=true) (hv:actB ⟨6,i,j,m⟩=true) (hi:i < 32) (hj:j < 32) :
  Calls Tryz.prog 190 #[.slice a n cap,.agg #[.int .i64 6,.int .i64 i,.int .i64 j,.int .i64 m]] w (NewF w 142 (effK 6 i j m (atM S i) (atM S j))):=by
 have HMB:Hid (0≤m∧m≤1000000):=Lib.hid (actB_bd hv).2.2
 have HBA:=Lib.hid (bdA_arrOf ((storeB_ok S).1 hS).2)
 have HF:=Lib.hid (arrOf_get S i hi)
 have HT:=Lib.hid (arrOf_get S j hj)
 have HL:=Lib.hid (arrOf_len S)
 have HVV:=Lib.hid hv
 have HSS:=Lib.hid hS
 clear hv hS
 have hm : ∀ (q : Nat) (w : World), (method (q + 1) 200 (.agg #[.int .i64 6, .int .i64 i, .int .i64 j, .int .i64 m]) "loop.example/blockexecutor/impl.run").run Tryz.prog w = .ok (248, .agg #[.int .i64 6, .int .i64 i, .int .i64 j, .int .i64 m]) w := fun _ _ => by kernel_rfl
 have c1:((w.alloc (.cells #[.int .i64 6,.int .i64 i,.int .i64 j,.int .i64 m] 113)).alloc (.cells #[.bool false,.slice none 0 0,.slice none 0 0] 178)).cell? ⟨w.heap.size,0,none⟩=some (.int .i64 6):=by simp [go_sem]
 have c2:((w.alloc (.cells #[.int .i64 6,.int .i64 i,.int .i64 j,.int .i64 m] 113)).alloc (.cells #[.bool false,.slice none 0 0,.slice none 0 0] 178)).cell? ⟨w.heap.size,1,none⟩=some (.int .i64 i):=by simp [go_sem]
 have c3:((w.alloc (.cells #[.int .i64 6,.int .i64 i,.int .i64 j,.int .i64 m] 113)).alloc (.cells #[.bool false,.slice none 0 0,.slice none 0 0] 178)).cell? ⟨w.heap.size,2,none⟩=some (.int .i64 j):=by simp [go_sem]
 have c4:((w.alloc (.cells #[.int .i64 6,.int .i64 i,.int .i64 j,.int .i64 m] 113)).alloc (.cells #[.bool false,.slice none 0 0,.slice none 0 0] 178)).cell? ⟨w.heap.size,3,none⟩=some (.int .i64 m):=by simp [go_sem]
 have hz:=zAt_new (w.alloc (.cells #[.int .i64 6,.int .i64 i,.int .i64 j,.int .i64 m] 113)) 178
 have hsz:((w.alloc (.cells #[.int .i64 6,.int .i64 i,.int .i64 j,.int .i64 m] 113)).alloc (.cells #[.bool false,.slice none 0 0,.slice none 0 0] 178)).heap.size=w.heap.size+2:=by simp
 rw [World.size_alloc] at hz
 have hb0:=((Below.refl w.heap.size w).alloc (Nat.le_refl _) (.cells #[.int .i64 6,.int .i64 i,.int .i64 j,.int .i64 m] 113)).alloc (by simp) (.cells #[.bool false,.slice none 0 0,.slice none 0 0] 178)
 go_enter Tryz.func190,Tryz.ntmps190
 go_wp2_with fail
 have hr0:=h.below hb0
 obtain ⟨w0,hw0⟩:∃ w0,w0=(w.alloc (.cells #[.int .i64 6,.int .i64 i,.int .i64 j,.int .i64 m] 113)).alloc (.cells #[.bool false,.slice none 0 0,.slice none 0 0] 178):=⟨_,rfl⟩
 rw [← hw0] at c1 c2 c3 c4 hz hb0 hr0 hsz ⊢
 have hs0:w.heap.size+2≤w0.heap.size:=by omega
 clear hw0 hsz
 refine (valuesOf_yes a n cap S _ hr0 HSS.out).mono ?_;rintro e w1 ⟨rfl,hb1⟩
 obtain ⟨A,hA⟩:∃ A,A=arrOf S:=⟨_,rfl⟩
 rw [← hA] at HL HF HT HBA ⊢
 clear hA hr0 h
 have hA0:=Arr.new w1 201 zeros
 have hs1:=hb1.size
 replace c1:=below_cell hb1 (show w.heap.size < w0.heap.size by omega) c1
 replace c2:=below_cell hb1 (show w.heap.size < w0.heap.size by omega) c2
 replace c3:=below_cell hb1 (show w.heap.size < w0.heap.size by omega) c3
 replace c4:=below_cell hb1 (show w.heap.size < w0.heap.size by omega) c4
 go_wp2_with (first | (refine wpList_store_arr' rfl _ _ _ rfl _ A (by rfl) (by rfl) 201 _ hA0 (by rw [HL.out];exact infoArr) (by rw [HL.out];rfl) ?_;intro w2 hA2 hg2 hz2;have hb2:=below_new (Below.refl _ w1) hg2;have d1:=below_cell hb2 (show w.heap.size < w1.heap.size by omega) c1;have d2:=below_cell hb2 (show w.heap.size < w1.heap.size by omega) c2;have d3:=below_cell hb2 (show w.heap.size < w1.heap.size by omega) c3;have d4:=below_cell hb2 (show w.heap.size < w1.heap.size by omega) c4;clear hg2 hz2 c1 c2 c3 c4))
 have hs2:=hb2.size
 refine (validDeed_take_yes i j m _ HVV.out).mono ?_;rintro e w3 ⟨rfl,hb3⟩
 have hA3:=hA2.after hb3
 have hs3:=hb3.size
 have hbb:Below w0.heap.size w0 w3:=(hb1.trans (hb2.mono hs1)).trans (hb3.mono (by omega))
 have hz3:=hz.below hbb (by omega)
 have hb30:=hb0.trans (hbb.mono hb0.size)
 clear hb1 hb2 hb3 hA0 hA2 hz d1 d2 d3 d4 hb0 hbb
 go_wp2_with (first | (refine wpList_load_arr rfl _ _ rfl _ (by rfl) 201 A hA3 _ _ Tryz.underlying201 (by rw [HL.out];exact infoArr) ?_))
 refine (viewOf_any A _ HL.out).mono ?_;rintro e w4 ⟨G,rfl,hV4,hb4⟩
 have hs4:=hb4.size
 have hz4:=hz3.below hb4 (by omega)
 have hb40:=hb30.trans (hb4.mono (by omega))
 obtain ⟨B,hB⟩:∃ B,B=w3.heap.size:=⟨_,rfl⟩
 rw [← hB] at hV4 hs4
 have HBw:=Lib.hid hB
 have hBz:w.heap.size+1 < B:=by omega
 clear hA3 hz3 hb30 hb4 hB
 go_wp2_with (first | (go_at_call 248;refine (run_take B G _ i j A 6 m (atM S i) (atM S j) _ (by first | exact hV4 | exact hV4.drew) (by exact hs4) hi hj HMB.out.1 HMB.out.2 HBA.out HF.out HT.out).mono ?_;rintro e w5 ⟨rfl,⟨D5,K5,g5,hV5,hbd5,hwr5⟩,hs5,hb5⟩))
 have hz5:=hz4.below hb5 (by omega)
 have hb50:=hb40.trans (hb5.mono (by omega))
 have hs5':w4.heap.size≤w5.heap.size:=hs5
 obtain ⟨b5,hb5e⟩:∃ b5,b5=doneK 6 i j m (atM S i) (atM S j):=⟨_,rfl⟩
 rw [← hb5e]
 have HB5:=Lib.hid hb5e
 have hrl:(rdsK 6 i j (atM S i) (atM S j)).length≤100:=by
  have:=readsM_len ⟨6,i,j,m⟩
  rw [readsM,if_pos HVV.out] at this
  unfold rdsK;rw [List.length_map];simp only at this;omega
 clear hb5e hz4 hb40 hs5
 go_wp2_with fail
 refine (effect_any B G D5 K5 A _ g5 b5 _ hV5 (by omega) hbd5 hrl).mono ?_;rintro e w6 ⟨v6,rfl,hF6,hb6⟩
 have hz6:=hz5.below hb6 (by omega)
 have hb60:=hb50.trans (hb6.mono (by omega))
 rw [hwr5] at hF6
 have hE:(⟨b5,rdsK 6 i j (atM S i) (atM S j),(effK 6 i j m (atM S i) (atM S j)).wrs⟩:Eff)=effK 6 i j m (atM S i) (atM S j):=by rw [HB5.out];rfl
 rw [hE] at hF6
 obtain ⟨X,hX⟩:∃ X,X=effK 6 i j m (atM S i) (atM S j):=⟨_,rfl⟩
 rw [← hX] at hF6 hwr5 hE
 have HX:=Lib.hid hX
 have hxl:X.rds.length≤4000000∧X.wrs.length≤4000000:=by
  rw [hX];exact ⟨Nat.le_trans hrl (by omega),by rw [hX] at hwr5;rw [← hwr5];exact Nat.le_trans (wrOf_len g5 32) (by omega)⟩
 have hF7:=(hF6.mono (show w.heap.size+2≤B by omega))
 obtain ⟨va,ca,vb,cb,rfl,-⟩:=hF7.rows hxl.1 hxl.2
 have HF7:=Lib.hid (ownF_set3 hF7 (Z:=w.heap.size+1) (hF7.apart (by omega)) 0 1 2 (.bool X.done) (.slice va X.rds.length ca) (.slice vb X.wrs.length cb))
 have HB7:=Lib.hid (below_set3 hb60 (Z:=w.heap.size+1) (by omega) 0 1 2 (.bool X.done) (.slice va X.rds.length ca) (.slice vb X.wrs.length cb))
 obtain ⟨⟨z0,z1,z2⟩,⟨y0,y1,y2⟩,-⟩:=hz6
 clear hX hE hF6 hF7 hwr5 hxl hb60 hb6 hz5 hV5 hb50 hrl hbd5 hb5
 go_wp2
 refine bodyPost_ret (v:=.agg #[.bool X.done,.slice va X.rds.length ca,.slice vb X.wrs.length cb]) ?_ rfl ⟨_,rfl,by rw [← HX.out];exact HF7.out.mono (show w.heap.size≤w.heap.size+2 by omega),HB7.out⟩
 simp [results,Tryz.results190,go_sem,z0,z1,z2]
theorem runAction_impl (a:Option Addr) (n cap:Nat) (S:List Ent) (k s d m:Int) (w:World) (h:RowE w a n S) :
  Calls Tryz.prog 190 #[.slice a n cap,.agg #[.int .i64 k,.int .i64 s,.int .i64 d,.int .i64 m]] w (NewF w 142 (runM S ⟨k,s,d,m⟩)):=by
 cases hc:storeB S && actB ⟨k,s,d,m⟩ with
 | false=>rw [runM_no hc];exact runAction_no a n cap S k s d m w h hc
 | true =>
  rw [Bool.and_eq_true] at hc
  obtain ⟨hS,hv⟩:=hc
  rw [runM_yes hS hv]
  obtain ⟨⟨s0,s1⟩,⟨d0,d1⟩,-⟩:=actB_bd hv
  simp only at s0 s1 d0 d1
  obtain ⟨i,rfl⟩:=Int.eq_ofNat_of_zero_le s0
  obtain ⟨j,rfl⟩:=Int.eq_ofNat_of_zero_le d0
  rcases (by have:=kind_of hv;simp only at this;omega:k=1∨k=2∨k=3∨k=4∨k=5∨k=6) with rfl | rfl | rfl | rfl | rfl | rfl
  · exact runAction_put a n cap S i j m w h hS hv (by omega) (by omega)
  · exact runAction_move a n cap S i j m w h hS hv (by omega) (by omega)
  · exact runAction_copy a n cap S i j m w h hS hv (by omega) (by omega)
  · exact runAction_swap a n cap S i j m w h hS hv (by omega) (by omega)
  · exact runAction_add a n cap S i j m w h hS hv (by omega) (by omega)
  · exact runAction_take a n cap S i j m w h hS hv (by omega) (by omega)
open Go.RowKit
theorem below_at {B G o:Nat} {w w':World} {v:Value} (hb:Below B w w') (hG:G < B) (hc:w.cell? ⟨G,o,none⟩=some v):w'.cell? ⟨G,o,none⟩=some v:=(hb.cell (p:=⟨G,o,none⟩) hG).trans hc
theorem newW_nil {w w':World} (hb:Below w.heap.size w w'):NewW w [] (.returned (.slice none 0 0)) w':=⟨_,rfl,World.ownsRow_nil _ _ _ _,fun x hx=>(by cases hx),hb⟩
set_option maxRecDepth 100000 in
set_option maxHeartbeats 4000000 in
theorem applyEffect_impl (a:Option Addr) (n cap:Nat) (S:List Ent) (b:Bool) (ra:Option Addr) (rn rc:Nat) (wa:Option Addr) (wn wc:Nat) (W:List Ent) (w:World) (h:RowE w a n S) (h2:RowE w wa wn W) :
  Calls Tryz.prog 191 #[.slice a n cap,.agg #[.bool b,.slice ra rn rc,.slice wa wn wc]] w (NewW w (applyM S W)):=by
 have c2:(w.alloc (.cells #[.bool b,.slice ra rn rc,.slice wa wn wc] 178)).cell? ⟨w.heap.size,2,none⟩=some (.slice wa wn wc):=by simp [go_sem]
 have hb0:=(Below.refl w.heap.size w).alloc (Nat.le_refl _) (.cells #[.bool b,.slice ra rn rc,.slice wa wn wc] 178)
 have hsz:w.heap.size < (w.alloc (.cells #[.bool b,.slice ra rn rc,.slice wa wn wc] 178)).heap.size:=by simp
 go_enter Tryz.func191,Tryz.ntmps191
 go_wp2_with fail
 have hr0:=h.below hb0
 have hq0:=h2.below hb0
 obtain ⟨w0,hw0⟩:∃ w0,w0=w.alloc (.cells #[.bool b,.slice ra rn rc,.slice wa wn wc] 178):=⟨_,rfl⟩
 rw [← hw0] at c2 hb0 hr0 hq0 hsz ⊢
 clear hw0 h h2
 refine (valuesOf_any a n cap S _ hr0).mono ?_;rintro e w1 ⟨rfl,hb1⟩
 have HG:Hid (storeB S=true→valsM S=arrOf S):=Lib.hid (fun hs=>by simp [valsM,hs])
 have HL:=Lib.hid (valsM_len S)
 obtain ⟨A,hA⟩:∃ A,A=valsM S:=⟨_,rfl⟩
 rw [← hA] at HL HG ⊢
 clear hA
 have hA0:=Arr.new w1 201 zeros
 have hq1:=hq0.below hb1
 replace c2:=below_at hb1 hsz c2
 have hb01:=hb0.trans (hb1.mono hb0.size)
 have HBG:=Lib.hid (fun (b o:Nat) (h0:0 < wn) (he:wa=some ⟨b,o,none⟩)=>show b < w1.heap.size by
  obtain ⟨b',o',he',hc⟩:=hq1.2.2.1 h0
  rw [he] at he';simp only [Option.some.injEq,Addr.mk.injEq] at he'
  rw [he'.1];exact World.block_lt_of_cell? w1 ⟨b',o'+0*2,none⟩ (hc 0 h0).1)
 have hs1:w.heap.size < w1.heap.size:=Nat.lt_of_lt_of_le hsz hb1.size
 clear hb1 hb0 hr0 hq0 hsz
 cases hS:storeB S with
 | false =>
  have HM:Hid (applyM S W=[]):=Lib.hid (applyM_no (by rw [hS];rfl))
  clear hS HG
  go_wp2_with (first | (refine wpList_store_arr' rfl _ _ _ rfl _ A (by rfl) (by rfl) 201 _ hA0 (by rw [HL.out];exact infoArr) (by rw [HL.out];rfl) ?_;intro w2 hA2 hg2 hz2;have hb2:=below_new hb01 hg2;clear hg2 hz2))
  go_ret
  rw [HM.out]
  exact newW_nil hb2
 | true =>
  rw [HG.out hS] at HL
  have HAO:=Lib.hid (HG.out hS)
  have HSV:=Lib.hid hS
  clear hS HG
  go_wp2_with (first | (refine wpList_store_arr' rfl _ _ _ rfl _ A (by rfl) (by rfl) 201 _ hA0 (by rw [HAO.out,HL.out];exact infoArr) (by rw [HAO.out,HL.out];rfl) ?_;intro w2 hA2 hg2 hz2;have hb2':=below_new (Below.refl _ w1) hg2;have d2:=below_at hb2' hs1 c2;have hq2:=hq1.below hb2';clear hg2 hz2 c2 hq1))
  have hb2:=hb01.trans (hb2'.mono (Nat.le_of_lt hs1))
  rw [HAO.out] at hA2
  obtain ⟨g,hg⟩:∃ g,g=w1.heap.size:=⟨_,rfl⟩
  rw [← hg] at hA2 hs1 HBG ⊢
  clear hA0 hg hb2' hb01
  refine (areWrites_impl wa wn wc W _ hq2).mono ?_;rintro e w3 ⟨rfl,hb3⟩
  have d3:=below_at hb3 (Nat.lt_trans hs1 hA2.lt) d2
  have hq3:=hq2.below hb3
  have hA3:=hA2.after hb3
  have hb03:=hb2.trans (hb3.mono hb2.size)
  clear d2 hq2 hA2 hb3 hb2
  cases hW:writesB W with
  | false =>
   have HM:Hid (applyM S W=[]):=Lib.hid (applyM_no (by rw [hW,HSV.out];rfl))
   clear hW
   go_wp2
   go_ret
   rw [HM.out]
   exact newW_nil hb03
  | true =>
   have HWV:=Lib.hid hW
   clear hW
   have HR:=Lib.hid hq3
   go_wp2
   go_loopw [8,25] (fun _ i wr=>∃ k:Nat,k≤wn∧i = .int .i64 k∧Arr wr g 201 (arrOf (applyL S (W.take k)))∧Below g w3 wr) (fun _ i _=>wn - (intOf i).toNat)
   case atStart=>exact ⟨0,Nat.zero_le _,rfl,by simpa [applyL] using hA3,Below.refl _ _⟩
   case round =>
    clear hA3 d3
    obtain ⟨k,hk,rfl,hA,hB⟩:=hrel
    have hmx:=hq3.2.1
    unfold maxLen at hmx
    by_cases hlt:k < wn
    · obtain ⟨bb,off,rfl,hc⟩:=hq3.2.2.1 (by omega)
      have hbg:=HBG.out bb off (by omega) rfl
      obtain ⟨c1,c2⟩:=hc k hlt
      have hc1:=below_at hB hbg c1
      have hc2:=below_at hB hbg c2
      have hbs:bb < wr.heap.size:=World.block_lt_of_cell? wr ⟨bb,off+k*2,none⟩ hc1
      have hbd:=wrE_mem HWV.out k (by rw [HR.out.1];exact hlt)
      have HN:Hid (arrOf (applyL S (W.take (k+1)))=(arrOf (applyL S (W.take k))).set (W.getD k (0,0)).1.toNat (W.getD k (0,0)).2):=Lib.hid (by rw [applyL_take S W k (by rw [HR.out.1];exact hlt),arrOf_put hbd.1.1 hbd.1.2])
      obtain ⟨⟨x1,x2⟩,-⟩:=hbd
      clear hc c1 c2 hq3
      obtain ⟨x,hx⟩:∃ x,x=(W.getD k (0,0)).1:=⟨_,rfl⟩
      obtain ⟨y,hy⟩:∃ y,y=(W.getD k (0,0)).2:=⟨_,rfl⟩
      rw [← hx] at hc1 x1 x2
      rw [← hy] at hc2
      rw [← hx,← hy] at HN
      clear hx hy
      obtain ⟨Q,hQ⟩:∃ Q,Q=arrOf (applyL S (W.take k)):=⟨_,rfl⟩
      have hQl:Q.length=32:=by rw [hQ,arrOf_len]
      rw [← hQ] at hA HN
      clear hQ
      obtain ⟨m,rfl⟩:∃ m:Nat,x=(m:Int):=⟨x.toNat,by omega⟩
      have hcA:=hA.cell m (by omega)
      have hfA:=hA.frozen m
      have hlt1:=hA.lt
      go_wp2
      go_roundw
      case rel=>exact ⟨k+1,by omega,by go_num,by rw [HN.out,Int.toNat_natCast];exact (hA.set m y).alloc _,(hB.setCell (Nat.le_refl _) _).alloc (by rw [size_setCell];omega) _⟩
      case measure=>simp [intOf];omega
    · obtain rfl:k=wn:=by omega
      have e:W.take k=W:=List.take_of_length_le (by rw [HR.out.1];omega)
      rw [e] at hA
      have hok:=ok_applyL ((storeB_ok S).1 HSV.out) ((writesB_ok W).1 HWV.out).2
      have HM:Hid (applyM S W=entTo (arrOf (applyL S W)) 32):=Lib.hid (by rw [applyM_yes HSV.out HWV.out,ent_arr hok])
      have HWF:Hid (WfE (entTo (arrOf (applyL S W)) 32)):=Lib.hid (by rw [ent_arr hok];exact wf_of_ok hok.2)
      have HL2:=Lib.hid (arrOf_len (applyL S W))
      have HBB:=Lib.hid (hb03.trans (hB.mono (Nat.le_of_lt hs1)))
      obtain ⟨Q,hQ⟩:∃ Q,Q=arrOf (applyL S W):=⟨_,rfl⟩
      rw [← hQ] at hA HM HWF HL2
      clear hQ e hok hq3 hb03 hB
      go_wp2_with (first | (refine wpList_load_arr rfl _ _ rfl _ (by rfl) 201 Q hA _ _ Tryz.underlying201 (by rw [HL2.out];exact infoArr) ?_))
      refine (entries_impl Q _ HL2.out).mono ?_;rintro e w5 ⟨v,rfl,ho,hb5⟩
      go_wp2
      go_ret
      exact ⟨v,rfl,by rw [HM.out];exact owns_mono ho HBB.out.size,by rw [HM.out];exact HWF.out,HBB.out.trans (hb5.mono HBB.out.size)⟩
end Go.Proofs.YtpnjgmgmakmgeaaGreat
