/- Texts of ours that stand together: ConvA, ExLib -/
import Derived.Test.YtpnjgmgmakmgeaaGreatActs
import Derived.StillTailTactics
import Derived.Test.YtpnjgmgmakmgeaaGreatConv
/- The contracts of the laws' own helpers over actions: toAction,toActionS (a copy),eqAction,eqActionS,szActionS. -/
namespace Go.Proofs.YtpnjgmgmakmgeaaGreat
open Go.RowKit
set_option linter.unusedVariables false
theorem infoActC:(Tryz.prog.info? 113).map (fun i=>(i.zero,i.size,i.bytes))=some (some (.agg #[.int .i64 0,.int .i64 0,.int .i64 0,.int .i64 0]),4,32):=by kernel_rfl
def GotAct (p q r t:Int) (w:World) (e:Ending) (w':World):Prop:=e = .returned (.agg #[.int .i64 p,.int .i64 q,.int .i64 r,.int .i64 t])∧Below w.heap.size w w'
theorem toAction_any (p q r t:Int) (w:World) :
  Calls Tryz.prog 152 #[.agg #[.int .i64 p,.int .i64 q,.int .i64 r,.int .i64 t]] w (GotAct p q r t w):=by
 go_enter Tryz.func152,Tryz.ntmps152
 go_wp2
 refine bodyPost_ret (v:=.agg #[.int .i64 p,.int .i64 q,.int .i64 r,.int .i64 t]) ?_ rfl ⟨rfl,?_⟩
 · simp [results,Tryz.results152,go_sem]
 · exact (((Below.refl _ _).alloc (Nat.le_refl _) _).alloc (by simp) _).alloc (by simp;omega) _
theorem eqAction_same (p q r t:Int) (w:World) :
  Calls Tryz.prog 154 #[.agg #[.int .i64 p,.int .i64 q,.int .i64 r,.int .i64 t],.agg #[.int .i64 p,.int .i64 q,.int .i64 r,.int .i64 t]] w fun e w'=>e = .returned (.bool true)∧Below w.heap.size w w':=by
 go_enter Tryz.func154,Tryz.ntmps154
 go_wp2
 go_ret
 exact ⟨rfl,((Below.refl _ _).alloc (Nat.le_refl _) _).alloc (by simp) _⟩
theorem szActionS_any (a:Option Addr) (n cap:Nat) (left:Int) (w:World) (h0:0≤left) (h1:left≤1048576) (hn:n≤maxLen) :
  Calls Tryz.prog 100 #[.slice a n cap,.int .i64 left] w fun e w'=>e = .returned (.int .i64 (if (n:Int)≤left then left - n else -1))∧w=w':=by
 unfold maxLen at hn
 by_cases h:(n:Int)≤left
 · rw [if_pos h]
   go_enter Tryz.func100,Tryz.ntmps100
   go_wp2
   go_ret
   exact ⟨rfl,rfl⟩
 · rw [if_neg h]
   go_enter Tryz.func100,Tryz.ntmps100
   go_wp2
   go_ret
   exact ⟨rfl,rfl⟩
set_option maxRecDepth 100000 in
set_option maxHeartbeats 1000000 in
theorem eqActionS_same (a a':Option Addr) (n cap cap':Nat) (l:List Acn) (w:World) (h:RowA w a n l) (h':RowA w a' n l) :
  Calls Tryz.prog 107 #[.slice a n cap,.slice a' n cap'] w fun e w'=>e = .returned (.bool true)∧Below w.heap.size w w':=by
 obtain ⟨hl,hm,hc,-⟩:=h
 obtain ⟨-,-,hc',-⟩:=h'
 unfold maxLen at hm
 clear hl
 by_cases h0:0 < n
 · obtain ⟨b,off,rfl,hcc⟩:=hc h0;clear hc;have hc:=hcc;clear hcc
   obtain ⟨b',off',rfl,hcc⟩:=hc' h0;clear hc';have hc':=hcc;clear hcc
   have hbB:b < w.heap.size:=World.block_lt_of_cell? w ⟨b,off+0*4,none⟩ (hc 0 h0).1
   have hbB':b' < w.heap.size:=World.block_lt_of_cell? w ⟨b',off'+0*4,none⟩ (hc' 0 h0).1
   go_enter Tryz.func107,Tryz.ntmps107
   go_wp2
   go_loopw [5] (fun i wr=>∃ k:Nat,k≤n∧i = .int .i64 k∧Below w.heap.size w wr) (fun i _=>n - (intOf i).toNat)
   case atStart=>exact ⟨0,Nat.zero_le _,rfl,Below.refl _ _⟩
   case round =>
    obtain ⟨k,hk,rfl,hb⟩:=hrel
    by_cases hlt:k < n
    · obtain ⟨d1,d2,d3,d4⟩:=hc k hlt
      have c1:=(hb.cell (p:=⟨b,off+k*4,none⟩) hbB).trans d1
      have c2:=(hb.cell (p:=⟨b,off+k*4+1,none⟩) hbB).trans d2
      have c3:=(hb.cell (p:=⟨b,off+k*4+2,none⟩) hbB).trans d3
      have c4:=(hb.cell (p:=⟨b,off+k*4+3,none⟩) hbB).trans d4
      clear d1 d2 d3 d4
      obtain ⟨d1,d2,d3,d4⟩:=hc' k hlt
      have e1:=(hb.cell (p:=⟨b',off'+k*4,none⟩) hbB').trans d1
      have e2:=(hb.cell (p:=⟨b',off'+k*4+1,none⟩) hbB').trans d2
      have e3:=(hb.cell (p:=⟨b',off'+k*4+2,none⟩) hbB').trans d3
      have e4:=(hb.cell (p:=⟨b',off'+k*4+3,none⟩) hbB').trans d4
      clear hc hc' d1 d2 d3 d4
      obtain ⟨x,hx⟩:∃ x,x=l.getD k noA:=⟨_,rfl⟩
      rw [← hx] at c1 c2 c3 c4 e1 e2 e3 e4
      clear hx
      obtain ⟨p,q,r,t⟩:=x
      simp only at c1 c2 c3 c4 e1 e2 e3 e4
      go_wp2
      go_still_tail 8,(by kernel_rfl)
      go_wp2_with fail
      refine (eqAction_same _ _ _ _ _).mono ?_;rintro e w1 ⟨rfl,hb1⟩
      go_wp2
      go_roundw
      case rel=>exact ⟨k+1,by omega,by go_num,by first | exact hb.trans (hb1.mono hb.size) | exact hb.drew.trans (hb1.mono hb.size) | exact (below_drewN' hb _).trans (hb1.mono hb.size)⟩
      case measure=>simp [intOf];omega
    · clear hc hc'
      go_wp2
      go_ret
      exact ⟨rfl,hb⟩
 · obtain rfl:n=0:=by omega
   clear hc hc'
   go_enter Tryz.func107,Tryz.ntmps107
   go_wp2
   go_loop [5] (fun i=>i = .int .i64 0) (fun _=>0)
   case atStart=>rfl
   case round =>
    subst hrel
    go_wp2
    go_ret
    exact ⟨rfl,Below.refl _ _⟩
def fillA (l:List Acn) (k:Nat):List Acn:=l.take k++List.replicate (l.length - k) noA
theorem fillA_len (l:List Acn) (k:Nat) (h:k≤l.length):(fillA l k).length=l.length:=by simp [fillA];omega
theorem fillA_all (l:List Acn):fillA l l.length=l:=by simp [fillA]
theorem takeA_snoc (l:List Acn) (k:Nat) (h:k < l.length):l.take (k+1)=l.take k++[l.getD k noA]:=by
 rw [List.take_succ_eq_append_getElem h,List.getD_eq_getElem?_getD,List.getElem?_eq_getElem h];rfl
theorem flatA_set (l:List Acn) (k:Nat) (x:Acn):flatA (l.set k x)=((((flatA l).set (k*4) (.int .i64 x.kind)).set (k*4+1) (.int .i64 x.src)).set (k*4+2) (.int .i64 x.dst)).set (k*4+3) (.int .i64 x.amt):=by
 induction l generalizing k with
 | nil=>simp [flatA]
 | cons e r ih =>
  cases k with
  | zero=>simp [flatA_cons]
  | succ k =>
   rw [show (k+1)*4=k*4+1+1+1+1 by omega,show k*4+1+1+1+1+1=(k*4+1)+1+1+1+1 by omega,show k*4+1+1+1+1+2=(k*4+2)+1+1+1+1 by omega,show k*4+1+1+1+1+3=(k*4+3)+1+1+1+1 by omega]
   simp only [List.set_cons_succ,flatA_cons,ih]
theorem fillA_set (l:List Acn) (k:Nat) (h:k < l.length):(fillA l k).set k (l.getD k noA)=fillA l (k+1):=by
 unfold fillA
 have e:l.length - k=(l.length - (k+1))+1:=by omega
 rw [e,List.replicate_succ,List.set_append_right _ _ (by simp;omega),takeA_snoc l k h]
 simp [Nat.min_eq_left (Nat.le_of_lt h)]
theorem flatA_zeros (n:Nat):flatA (List.replicate n noA)=List.replicate (n*4) (.int .i64 0):=by
 induction n with
 | zero=>rfl
 | succ n ih=>rw [List.replicate_succ,show (n+1)*4=n*4+1+1+1+1 by omega,List.replicate_succ,List.replicate_succ,List.replicate_succ,List.replicate_succ];simp [flatA_cons,noA] at ih ⊢;exact ih
theorem made_zeros4 (n:Nat):(madeCells (Value.agg #[.int .i64 0,.int .i64 0,.int .i64 0,.int .i64 0]).cells (n*4)).toList=List.replicate (n*4) (.int .i64 0):=by
 unfold madeCells
 apply List.ext_getElem
 · simp [Value.cells]
 · intro i h1 h2
   simp [Value.cells] at h1 ⊢
   rcases (by omega:i % 4=0∨i % 4=1∨i % 4=2∨i % 4=3) with h | h | h | h <;> simp [h]
theorem Own.store4 {w:World} {B:Nat} {e:TypeId} {g n cap:Nat} {l:List Acn} (h:Own w B e 4 (.slice (some ⟨g,0,none⟩) n cap) n (flatA l)) (k:Nat) (x:Acn) :
  Own ((((w.setCell ⟨g,k*4,none⟩ (.int .i64 x.kind)).setCell ⟨g,k*4+1,none⟩ (.int .i64 x.src)).setCell ⟨g,k*4+2,none⟩ (.int .i64 x.dst)).setCell ⟨g,k*4+3,none⟩ (.int .i64 x.amt)) B e 4 (.slice (some ⟨g,0,none⟩) n cap) n (flatA (l.set k x)):=by
 rw [flatA_set]
 exact ⟨((((h.1.stored (k*4) _).1.stored (k*4+1) _).1.stored (k*4+2) _).1.stored (k*4+3) _).1,h.2⟩
set_option maxHeartbeats 1000000 in
theorem toActionS_any (a:Option Addr) (n cap:Nat) (l:List Acn) (w:World) (h:RowA w a n l) (hn:n≤1048576) :
  Calls Tryz.prog 104 #[.slice a n cap] w (NewA w 113 l):=by
 have HR:=Lib.hid h
 obtain ⟨hl,-,hc,-⟩:=h
 have HL:=Lib.hid hl;clear hl
 obtain ⟨i0,hi,hz0,hz1,hz2⟩:=info_parts infoActC
 go_enter Tryz.func104,Tryz.ntmps104
 go_wp2_with (first | (at_make;refine wpList_make_full _ rfl (.tmp 6) (.tmp 6) 35 rfl w.heap.size 113 i0 (.agg #[.int .i64 0,.int .i64 0,.int .i64 0,.int .i64 0]) 4 Tryz.underlying35 hi hz0 hz1 .i64 .i64 n n n rfl rfl rfl rfl (by rw [hz2];omega) (by unfold maxLen;omega) (Nat.le_refl _) ?_;intro w1 hown hgrow;clear hi hz0 hz1 hz2))
 rw [made_zeros4,← flatA_zeros] at hown
 have hb1:Below w.heap.size w w1:=(Below.refl _ _).grown hgrow (Nat.le_refl _) (fun k hk=>by simp at hk)
 have hown1:Own w1 w.heap.size 113 4 (.slice (some ⟨w.heap.size,0,none⟩) n n) n (flatA (fillA l 0)):=⟨by rw [show fillA l 0=List.replicate n noA by simp [fillA,HL.out]];exact hown,by simp⟩
 clear hgrow hown
 by_cases h0:0 < n
 · obtain ⟨b,off,rfl,hcc⟩:=hc h0;clear hc;have hc:=hcc;clear hcc
   have hbB:b < w.heap.size:=World.block_lt_of_cell? w ⟨b,off+0*4,none⟩ (hc 0 h0).1
   go_loopw [4] (fun i wr=>∃ k:Nat,k≤n∧i = .int .i64 k∧Own wr w.heap.size 113 4 (.slice (some ⟨w.heap.size,0,none⟩) n n) n (flatA (fillA l k))∧Below w.heap.size w wr) (fun i _=>n - (intOf i).toNat)
   case atStart=>exact ⟨0,Nat.zero_le _,rfl,hown1,hb1⟩
   case round =>
    obtain ⟨k,hk,rfl,hown,hb⟩:=hrel
    clear hown1 hb1
    by_cases hlt:k < n
    · obtain ⟨d1,d2,d3,d4⟩:=hc k hlt
      have c1:=(hb.cell (p:=⟨b,off+k*4,none⟩) hbB).trans d1
      have c2:=(hb.cell (p:=⟨b,off+k*4+1,none⟩) hbB).trans d2
      have c3:=(hb.cell (p:=⟨b,off+k*4+2,none⟩) hbB).trans d3
      have c4:=(hb.cell (p:=⟨b,off+k*4+3,none⟩) hbB).trans d4
      have HF:=Lib.hid (fillA_set l k (by rw [HL.out];exact hlt))
      clear hc d1 d2 d3 d4
      obtain ⟨x,hx⟩:∃ x,x=l.getD k noA:=⟨_,rfl⟩
      rw [← hx] at c1 c2 c3 c4
      have HX:=Lib.hid hx
      clear hx
      obtain ⟨p,q,r,t⟩:=x
      simp only at c1 c2 c3 c4
      go_wp2_with fail
      refine (toAction_any p q r t _).mono ?_;rintro e w2 ⟨rfl,hb2⟩
      have hb3:=hb.trans (hb2.mono hb.size)
      have hown2:Own w2 w.heap.size 113 4 (.slice (some ⟨w.heap.size,0,none⟩) n n) n (flatA (fillA l k)):=hown.below hb2
      have hfl:=fillA_len l k (by rw [HL.out];exact hk)
      have hfr1:=hown2.1.frozenAt (k*4)
      have hfr2:=hown2.1.frozenAt (k*4+1)
      have hfr3:=hown2.1.frozenAt (k*4+2)
      have hfr4:=hown2.1.frozenAt (k*4+3)
      have hce1:=hown2.1.cellAt (k*4) (by omega)
      have hce2:=hown2.1.cellAt (k*4+1) (by omega)
      have hce3:=hown2.1.cellAt (k*4+2) (by omega)
      have hce4:=hown2.1.cellAt (k*4+3) (by omega)
      obtain ⟨f1,f2,f3,f4⟩:=flatA_get (fillA l k) k (by rw [hfl,HL.out];exact hlt)
      rw [f1] at hce1
      rw [f2] at hce2
      rw [f3] at hce3
      rw [f4] at hce4
      clear f1 f2 f3 f4
      have hst:=hown2.store4 k ⟨p,q,r,t⟩
      rw [HX.out,HF.out] at hst
      simp only [← HX.out] at hst
      have HST:=Lib.hid hst
      have HSB:=Lib.hid ((((hb3.setCell (p:=⟨w.heap.size,k*4,none⟩) (Nat.le_refl _) (.int .i64 p)).setCell (p:=⟨w.heap.size,k*4+1,none⟩) (Nat.le_refl _) (.int .i64 q)).setCell (p:=⟨w.heap.size,k*4+2,none⟩) (Nat.le_refl _) (.int .i64 r)).setCell (p:=⟨w.heap.size,k*4+3,none⟩) (Nat.le_refl _) (.int .i64 t))
      clear hst hb hb2 hb3 hown hown2 c1 c2 c3 c4 hfl
      go_wp2
      go_roundw
      case rel=>exact ⟨k+1,by omega,by go_num,HST.out,HSB.out⟩
      case measure=>simp [intOf];omega
    · have e:fillA l k=l:=by rw [show k=l.length by rw [HL.out];omega];exact fillA_all l
      rw [e] at hown
      have HO:=Lib.hid hown
      clear hown e hc
      go_wp2
      go_ret
      exact ⟨_,rfl,by rw [HL.out];exact HO.out,HR.out.2.2.2,hb⟩
 · obtain rfl:n=0:=by omega
   obtain rfl:l=[]:=List.eq_nil_of_length_eq_zero HL.out
   clear hc
   have HO:=Lib.hid hown1
   clear hown1
   go_loopw [4] (fun i wr=>i = .int .i64 0∧wr=w1) (fun _ _=>0)
   case atStart=>exact ⟨rfl,rfl⟩
   case round =>
    obtain ⟨rfl,rfl⟩:=hrel
    go_wp2
    go_ret
    exact ⟨_,rfl,HO.out,fun e he=>(by cases he),hb1⟩
theorem grownBy_transX {a b c:World} {row:Option Nat} (h:a.grownBy b row) (k:b.grownBy c row):a.grownBy c row :=
 ⟨k.os.trans h.os,k.tape.trans h.tape,k.output.trans h.output,Nat.le_trans h.size k.size,fun p hp hn=>(k.block p (Nat.lt_of_lt_of_le hp h.size) hn).trans (h.block p hp hn)⟩
def NewIO (w:World) (l:List Int) (e:Ending) (w':World):Prop :=
 ∃ v,e = .returned v∧Own w' w.heap.size 3 1 v l.length (l.map (Value.int .i64))∧(∀ x∈l,(Lit.int .i64 x).wf=true)∧Below w.heap.size w w'
set_option maxHeartbeats 400000 in
theorem toIntS_own (a:Option Addr) (len cap:Nat) (l:List Int) (w:World) (h:RowI w a len l) (hs:len≤1048576) :
  Calls Tryz.prog 103 #[.slice a len cap] w (NewIO w l):=by
 have HR:=Lib.hid h
 obtain ⟨hl,-,hc,-⟩:=h
 have HL:=Lib.hid hl;clear hl
 obtain ⟨i0,hi,hz0,hz1,hz2⟩:=info_parts infoInt
 go_enter Tryz.func103,Tryz.ntmps103
 go_wp2_with (first | (at_make;refine wpList_make_full _ rfl (.tmp 6) (.tmp 6) 25 rfl w.heap.size 3 i0 (.int .i64 0) 1 Tryz.underlying25 hi hz0 hz1 .i64 .i64 len len len rfl rfl rfl rfl (by rw [hz2];omega) (by unfold maxLen;omega) (Nat.le_refl _) ?_;intro w1 hown hgrow;clear hi hz0 hz1 hz2) | go_in)
 have hcells:(madeCells (Value.int .i64 0).cells (len*1)).toList=(fillI l 0).map (Value.int .i64):=by
  rw [fillI_zero,HL.out,Nat.mul_one];exact (toList_madeCells_one _ _).trans (by simp)
 rw [hcells] at hown;clear hcells
 have hb1:Below w.heap.size w w1:=(Below.refl _ _).grown hgrow (Nat.le_refl _) (fun k hk=>by simp at hk)
 clear hgrow
 by_cases h0:0 < len
 · obtain ⟨b,off,rfl,hcc⟩:=hc h0;clear hc;have hc:=hcc;clear hcc
   have hbB:b < w.heap.size:=World.block_lt_of_cell? w ⟨b,off+0,none⟩ (hc 0 h0)
   go_loopw [4] (fun i wr=>∃ k:Nat,k≤len∧i = .int .i64 k∧wr.ownsRow w.heap.size 3 1 (.slice (some ⟨w.heap.size,0,none⟩) len len) len ((fillI l k).map (Value.int .i64))∧Below w.heap.size w wr) (fun i _=>len - (intOf i).toNat)
   case atStart=>exact ⟨0,Nat.zero_le _,rfl,hown,hb1⟩
   case round =>
    obtain ⟨k,hk,rfl,hown,hb⟩:=hrel
    by_cases hlt:k < len
    · have hck:wr.cell? ⟨b,off+k,none⟩=some (.int .i64 (l.getD k 0)):=(hb.cell (p:=⟨b,off+k,none⟩) hbB).trans (hc k hlt)
      have hst:=(hown.stored k (.int .i64 (l.getD k 0))).1
      have hsb:=hb.setCell (p:=⟨w.heap.size,k,none⟩) (Nat.le_refl _) (.int .i64 (l.getD k 0))
      rw [← List.map_set,fillI_set l k (by rw [HL.out];exact hlt)] at hst
      have HST:=Lib.hid hst
      have HSB:=Lib.hid hsb
      have hfr:=hown.frozenAt k
      have hce:=hown.cellAt k (by omega)
      rw [List.getElem?_map,List.getElem?_eq_getElem (by rw [fillI_len l k (by rw [HL.out];exact hk),HL.out];exact hlt)] at hce
      simp only [Option.map_some] at hce
      clear hst hsb hown hc
      obtain ⟨n,hn'⟩:∃ n,n=l.getD k 0:=⟨_,rfl⟩
      obtain ⟨n2,hn2⟩:∃ n2,n2=(fillI l k)[k]'(by rw [fillI_len l k (by rw [HL.out];exact hk),HL.out];exact hlt):=⟨_,rfl⟩
      rw [← hn'] at hck HST HSB
      rw [← hn2] at hce
      clear hn' hn2 hb1
      go_wp2
      go_roundw
      case rel=>exact ⟨k+1,by omega,by go_num,HST.out,HSB.out⟩
      case measure=>simp [intOf];omega
    · have e:fillI l k=l:=by rw [show k=l.length by rw [HL.out];omega];exact fillI_all l
      rw [e] at hown
      have HO:=Lib.hid hown
      clear hown e hc
      go_wp2
      go_ret
      have hrow:=HR.out
      exact ⟨_,rfl,⟨by rw [hrow.1];exact HO.out,by simp⟩,hrow.2.2.2,hb⟩
 · obtain rfl:len=0:=by omega
   obtain rfl:l=[]:=List.eq_nil_of_length_eq_zero HL.out
   clear hc
   have HO:=Lib.hid hown
   clear hown
   go_loopw [4] (fun i wr=>i = .int .i64 0∧wr=w1) (fun _ _=>0)
   case atStart=>exact ⟨rfl,rfl⟩
   case round =>
    obtain ⟨rfl,rfl⟩:=hrel
    go_wp2
    go_ret
    exact ⟨_,rfl,⟨HO.out,by simp⟩,(fun n hn=>by cases hn),hb1⟩
end Go.Proofs.YtpnjgmgmakmgeaaGreat
