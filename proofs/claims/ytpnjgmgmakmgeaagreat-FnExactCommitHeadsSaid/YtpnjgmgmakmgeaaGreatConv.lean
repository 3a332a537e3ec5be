/- Texts of ours that stand together: EqInts, IntsWalks, ConvE, ConvI, SameInts, InB, InI, InE -/
import Derived.Test.YtpnjgmgmakmgeaaGreatCore
import Derived.Deep.QuietTactic
import Derived.BigQuiet
import Derived.StillTailTactics
import Derived.ProofKit
import Derived.OpenShut
import Derived.Deep.SlicePairs
/- The contract of the laws' own eqIntS. -/
namespace Go.Proofs.YtpnjgmgmakmgeaaGreat
open Go.RowKit
set_option maxHeartbeats 400000 in
theorem eqIntS_same (a a':Option Addr) (len cap cap':Nat) (l:List Int) (w:World) (h:RowI w a len l) (h':RowI w a' len l) :
  Calls Tryz.prog 55 #[.slice a len cap,.slice a' len cap'] w fun e w'=>e = .returned (.bool true)∧Below w.heap.size w w':=by
 obtain ⟨hl,hm,hc,-⟩:=h
 obtain ⟨-,-,hc',-⟩:=h'
 unfold maxLen at hm
 clear hl
 by_cases h0:0 < len
 · obtain ⟨b,off,rfl,hcc⟩:=hc h0;clear hc;have hc:=hcc;clear hcc
   obtain ⟨b',off',rfl,hcc⟩:=hc' h0;clear hc';have hc':=hcc;clear hcc
   have hbB:b < w.heap.size:=World.block_lt_of_cell? w ⟨b,off+0,none⟩ (hc 0 h0)
   have hbB':b' < w.heap.size:=World.block_lt_of_cell? w ⟨b',off'+0,none⟩ (hc' 0 h0)
   go_enter Tryz.func55,Tryz.ntmps55
   go_wp2
   go_loopw [5] (fun i wr=>∃ k:Nat,k≤len∧i = .int .i64 k∧Below w.heap.size w wr) (fun i _=>len - (intOf i).toNat)
   case atStart=>exact ⟨0,Nat.zero_le _,rfl,Below.refl _ _⟩
   case round =>
    obtain ⟨k,hk,rfl,hb⟩:=hrel
    by_cases hlt:k < len
    · have hck:wr.cell? ⟨b,off+k,none⟩=some (.int .i64 (l.getD k 0)):=(hb.cell (p:=⟨b,off+k,none⟩) hbB).trans (hc k hlt)
      have hck':wr.cell? ⟨b',off'+k,none⟩=some (.int .i64 (l.getD k 0)):=(hb.cell (p:=⟨b',off'+k,none⟩) hbB').trans (hc' k hlt)
      clear hc hc'
      obtain ⟨n,hn'⟩:∃ n,n=l.getD k 0:=⟨_,rfl⟩
      rw [← hn'] at hck hck'
      clear hn'
      go_wp2
      go_quiet (fail)
      go_wp2
      go_roundw
      case rel=>exact ⟨k+1,by omega,by go_num,below_drewN' hb _⟩
      case measure=>simp [intOf];omega
    · clear hc hc'
      go_wp2
      go_ret
      exact ⟨rfl,hb⟩
 · obtain rfl:len=0:=by omega
   clear hc hc'
   go_enter Tryz.func55,Tryz.ntmps55
   go_wp2
   go_loop [5] (fun i=>i = .int .i64 0) (fun _=>0)
   case atStart=>rfl
   case round =>
    subst hrel
    go_wp2
    go_ret
    exact ⟨rfl,Below.refl _ _⟩
theorem infoInt:(Tryz.prog.info? 3).map (fun i=>(i.zero,i.size,i.bytes))=some (some (.int .i64 0),1,8):=by kernel_rfl
theorem infoEntC:(Tryz.prog.info? 142).map (fun i=>(i.zero,i.size,i.bytes))=some (some (.agg #[.int .i64 0,.int .i64 0]),2,16):=by kernel_rfl
def GotEnt (x y:Int) (w:World) (e:Ending) (w':World):Prop:=e = .returned (.agg #[.int .i64 x,.int .i64 y])∧Below w.heap.size w w'
theorem toEntry_any (x y:Int) (w:World) :
  Calls Tryz.prog 151 #[.agg #[.int .i64 x,.int .i64 y]] w (GotEnt x y w):=by
 go_enter Tryz.func151,Tryz.ntmps151
 go_wp2
 refine bodyPost_ret (v:=.agg #[.int .i64 x,.int .i64 y]) ?_ rfl ⟨rfl,?_⟩
 · simp [results,Tryz.results151,go_sem]
 · exact (((Below.refl _ _).alloc (Nat.le_refl _) _).alloc (by simp) _).alloc (by simp;omega) _
theorem eqEntry_same (x y:Int) (w:World) :
  Calls Tryz.prog 153 #[.agg #[.int .i64 x,.int .i64 y],.agg #[.int .i64 x,.int .i64 y]] w fun e w'=>e = .returned (.bool true)∧Below w.heap.size w w':=by
 go_enter Tryz.func153,Tryz.ntmps153
 go_wp2
 go_ret
 exact ⟨rfl,((Below.refl _ _).alloc (Nat.le_refl _) _).alloc (by simp) _⟩
theorem szEntryS_any (a:Option Addr) (n cap:Nat) (left:Int) (w:World) (h0:0≤left) (h1:left≤1048576) (hn:n≤maxLen) :
  Calls Tryz.prog 97 #[.slice a n cap,.int .i64 left] w fun e w'=>e = .returned (.int .i64 (if (n:Int)≤left then left - n else -1))∧w=w':=by
 unfold maxLen at hn
 by_cases h:(n:Int)≤left
 · rw [if_pos h]
   go_enter Tryz.func97,Tryz.ntmps97
   go_wp2
   go_ret
   exact ⟨rfl,rfl⟩
 · rw [if_neg h]
   go_enter Tryz.func97,Tryz.ntmps97
   go_wp2
   go_ret
   exact ⟨rfl,rfl⟩
set_option maxRecDepth 100000 in
set_option maxHeartbeats 1000000 in
theorem eqEntryS_same (a a':Option Addr) (n cap cap':Nat) (l:List Ent) (w:World) (h:RowE w a n l) (h':RowE w a' n l) :
  Calls Tryz.prog 105 #[.slice a n cap,.slice a' n cap'] w fun e w'=>e = .returned (.bool true)∧Below w.heap.size w w':=by
 obtain ⟨hl,hm,hc,-⟩:=h
 obtain ⟨-,-,hc',-⟩:=h'
 unfold maxLen at hm
 clear hl
 by_cases h0:0 < n
 · obtain ⟨b,off,rfl,hcc⟩:=hc h0;clear hc;have hc:=hcc;clear hcc
   obtain ⟨b',off',rfl,hcc⟩:=hc' h0;clear hc';have hc':=hcc;clear hcc
   have hbB:b < w.heap.size:=World.block_lt_of_cell? w ⟨b,off+0*2,none⟩ (hc 0 h0).1
   have hbB':b' < w.heap.size:=World.block_lt_of_cell? w ⟨b',off'+0*2,none⟩ (hc' 0 h0).1
   go_enter Tryz.func105,Tryz.ntmps105
   go_wp2
   go_loopw [5] (fun i wr=>∃ k:Nat,k≤n∧i = .int .i64 k∧Below w.heap.size w wr) (fun i _=>n - (intOf i).toNat)
   case atStart=>exact ⟨0,Nat.zero_le _,rfl,Below.refl _ _⟩
   case round =>
    obtain ⟨k,hk,rfl,hb⟩:=hrel
    by_cases hlt:k < n
    · have hc1:=(hb.cell (p:=⟨b,off+k*2,none⟩) hbB).trans (hc k hlt).1
      have hc2:=(hb.cell (p:=⟨b,off+k*2+1,none⟩) hbB).trans (hc k hlt).2
      have hd1:=(hb.cell (p:=⟨b',off'+k*2,none⟩) hbB').trans (hc' k hlt).1
      have hd2:=(hb.cell (p:=⟨b',off'+k*2+1,none⟩) hbB').trans (hc' k hlt).2
      clear hc hc'
      obtain ⟨x,hx⟩:∃ x,x=(l.getD k (0,0)).1:=⟨_,rfl⟩
      obtain ⟨y,hy⟩:∃ y,y=(l.getD k (0,0)).2:=⟨_,rfl⟩
      rw [← hx] at hc1 hd1
      rw [← hy] at hc2 hd2
      clear hx hy
      go_wp2
      go_still_tail 8,(by kernel_rfl)
      go_wp2_with fail
      refine (eqEntry_same _ _ _).mono ?_;rintro e w1 ⟨rfl,hb1⟩
      go_wp2
      go_roundw
      case rel=>exact ⟨k+1,by omega,by go_num,by first | exact hb.trans (hb1.mono hb.size) | exact hb.drew.trans (hb1.mono hb.size) | exact (below_drewN' hb _).trans (hb1.mono hb.size)⟩
      case measure=>simp [intOf];omega
    · clear hc hc'
      go_wp2
      go_ret
      exact ⟨rfl,hb⟩
 · obtain rfl:n=0:=by omega
   clear hc hc'
   go_enter Tryz.func105,Tryz.ntmps105
   go_wp2
   go_loop [5] (fun i=>i = .int .i64 0) (fun _=>0)
   case atStart=>rfl
   case round =>
    subst hrel
    go_wp2
    go_ret
    exact ⟨rfl,Below.refl _ _⟩
def fillE (l:List Ent) (k:Nat):List Ent:=l.take k++List.replicate (l.length - k) (0,0)
theorem fillE_len (l:List Ent) (k:Nat) (h:k≤l.length):(fillE l k).length=l.length:=by simp [fillE];omega
theorem fillE_all (l:List Ent):fillE l l.length=l:=by simp [fillE]
theorem flatE_set (l:List Ent) (k:Nat) (x y:Int):(flatE (l.set k (x,y)))=((flatE l).set (k*2) (.int .i64 x)).set (k*2+1) (.int .i64 y):=by
 induction l generalizing k with
 | nil=>simp [flatE]
 | cons e r ih =>
  cases k with
  | zero=>simp [flatE]
  | succ k =>
   rw [show (k+1)*2=k*2+1+1 by omega]
   simp only [List.set_cons_succ,flatE,ih]
theorem fillE_set (l:List Ent) (k:Nat) (h:k < l.length):(fillE l k).set k (l.getD k (0,0))=fillE l (k+1):=by
 unfold fillE
 have e:l.length - k=(l.length - (k+1))+1:=by omega
 rw [e,List.replicate_succ,List.set_append_right _ _ (by simp;omega),takeE_snoc l k h]
 simp [Nat.min_eq_left (Nat.le_of_lt h)]
theorem flatE_zeros (n:Nat):flatE (List.replicate n (0,0))=List.replicate (n*2) (.int .i64 0):=by
 induction n with
 | zero=>rfl
 | succ n ih=>rw [List.replicate_succ,show (n+1)*2=n*2+1+1 by omega,List.replicate_succ,List.replicate_succ];simp [flatE,ih]
theorem made_zeros (n:Nat):(madeCells (Value.agg #[.int .i64 0,.int .i64 0]).cells (n*2)).toList=List.replicate (n*2) (.int .i64 0):=by
 unfold madeCells
 apply List.ext_getElem
 · simp [Value.cells]
 · intro i h1 h2
   simp [Value.cells] at h1 ⊢
   rcases Nat.mod_two_eq_zero_or_one i with h | h <;> simp [h]
theorem Own.store2 {w:World} {B:Nat} {e:TypeId} {g n cap:Nat} {l:List Ent} (h:Own w B e 2 (.slice (some ⟨g,0,none⟩) n cap) n (flatE l)) (k:Nat) (x y:Int) :
  Own ((w.setCell ⟨g,k*2,none⟩ (.int .i64 x)).setCell ⟨g,k*2+1,none⟩ (.int .i64 y)) B e 2 (.slice (some ⟨g,0,none⟩) n cap) n (flatE (l.set k (x,y))):=by
 rw [flatE_set]
 exact ⟨((h.1.stored (k*2) (.int .i64 x)).1.stored (k*2+1) (.int .i64 y)).1,h.2⟩
set_option maxHeartbeats 1000000 in
theorem toEntryS_any (a:Option Addr) (n cap:Nat) (l:List Ent) (w:World) (h:RowE w a n l) (hn:n≤1048576) :
  Calls Tryz.prog 101 #[.slice a n cap] w (NewE w 142 l):=by
 have HR:=Lib.hid h
 obtain ⟨hl,-,hc,-⟩:=h
 have HL:=Lib.hid hl;clear hl
 obtain ⟨i0,hi,hz0,hz1,hz2⟩:=info_parts infoEntC
 go_enter Tryz.func101,Tryz.ntmps101
 go_wp2_with (first | (at_make;refine wpList_make_full _ rfl (.tmp 6) (.tmp 6) 23 rfl w.heap.size 142 i0 (.agg #[.int .i64 0,.int .i64 0]) 2 Tryz.underlying23 hi hz0 hz1 .i64 .i64 n n n rfl rfl rfl rfl (by rw [hz2];omega) (by unfold maxLen;omega) (Nat.le_refl _) ?_;intro w1 hown hgrow;clear hi hz0 hz1 hz2))
 rw [made_zeros,← flatE_zeros] at hown
 have hb1:Below w.heap.size w w1:=(Below.refl _ _).grown hgrow (Nat.le_refl _) (fun k hk=>by simp at hk)
 have hown1:Own w1 w.heap.size 142 2 (.slice (some ⟨w.heap.size,0,none⟩) n n) n (flatE (fillE l 0)):=⟨by rw [show fillE l 0=List.replicate n (0,0) by simp [fillE,HL.out]];exact hown,by simp⟩
 clear hgrow hown
 by_cases h0:0 < n
 · obtain ⟨b,off,rfl,hcc⟩:=hc h0;clear hc;have hc:=hcc;clear hcc
   have hbB:b < w.heap.size:=World.block_lt_of_cell? w ⟨b,off+0*2,none⟩ (hc 0 h0).1
   go_loopw [4] (fun i wr=>∃ k:Nat,k≤n∧i = .int .i64 k∧Own wr w.heap.size 142 2 (.slice (some ⟨w.heap.size,0,none⟩) n n) n (flatE (fillE l k))∧Below w.heap.size w wr) (fun i _=>n - (intOf i).toNat)
   case atStart=>exact ⟨0,Nat.zero_le _,rfl,hown1,hb1⟩
   case round =>
    obtain ⟨k,hk,rfl,hown,hb⟩:=hrel
    clear hown1 hb1
    by_cases hlt:k < n
    · have hc1:=(hb.cell (p:=⟨b,off+k*2,none⟩) hbB).trans (hc k hlt).1
      have hc2:=(hb.cell (p:=⟨b,off+k*2+1,none⟩) hbB).trans (hc k hlt).2
      have HF:=Lib.hid (fillE_set l k (by rw [HL.out];exact hlt))
      clear hc
      obtain ⟨x,hx⟩:∃ x,x=(l.getD k (0,0)).1:=⟨_,rfl⟩
      obtain ⟨y,hy⟩:∃ y,y=(l.getD k (0,0)).2:=⟨_,rfl⟩
      have HXY:Hid (l.getD k (0,0)=(x,y)):=by rw [hx,hy];exact Lib.hid rfl
      rw [← hx] at hc1
      rw [← hy] at hc2
      clear hx hy
      go_wp2_with fail
      refine (toEntry_any x y _).mono ?_;rintro e w2 ⟨rfl,hb2⟩
      have hb3:=hb.trans (hb2.mono hb.size)
      have hown2:Own w2 w.heap.size 142 2 (.slice (some ⟨w.heap.size,0,none⟩) n n) n (flatE (fillE l k)):=hown.below hb2
      have hfl:=fillE_len l k (by rw [HL.out];exact hk)
      have hfr1:=hown2.1.frozenAt (k*2)
      have hfr2:=hown2.1.frozenAt (k*2+1)
      have hce1:=hown2.1.cellAt (k*2) (by omega)
      have hce2:=hown2.1.cellAt (k*2+1) (by omega)
      obtain ⟨f1,f2⟩:=flatE_get (fillE l k) k (by rw [hfl,HL.out];exact hlt)
      rw [f1] at hce1
      rw [f2] at hce2
      clear f1 f2
      have hst:=hown2.store2 k x y
      rw [← HXY.out,HF.out] at hst
      have HST:=Lib.hid hst
      have HSB:=Lib.hid ((hb3.setCell (p:=⟨w.heap.size,k*2,none⟩) (Nat.le_refl _) (.int .i64 x)).setCell (p:=⟨w.heap.size,k*2+1,none⟩) (Nat.le_refl _) (.int .i64 y))
      clear hst hb hb2 hb3 hown hown2 hc1 hc2 hfl
      go_wp2
      go_roundw
      case rel=>exact ⟨k+1,by omega,by go_num,HST.out,HSB.out⟩
      case measure=>simp [intOf];omega
    · have e:fillE l k=l:=by rw [show k=l.length by rw [HL.out];omega];exact fillE_all l
      rw [e] at hown
      have HO:=Lib.hid hown
      clear hown e hc
      go_wp2
      go_ret
      exact ⟨_,rfl,by rw [HL.out];exact HO.out,HR.out.2.2.2,hb⟩
 · obtain rfl:n=0:=by omega
   obtain rfl:l=[]:=List.eq_nil_of_length_eq_zero HL.out
   clear hc
   have HO:=Lib.hid hown1
   clear hown1
   go_loopw [4] (fun i wr=>i = .int .i64 0∧wr=w1) (fun _ _=>0)
   case atStart=>exact ⟨rfl,rfl⟩
   case round =>
    obtain ⟨rfl,rfl⟩:=hrel
    go_wp2
    go_ret
    exact ⟨_,rfl,HO.out,fun e he=>(by cases he),hb1⟩
def marksE (k:Int) (n:Nat):List Ent:=(List.range n).map fun i:Nat=>(k+2*i,k+2*i+1)
theorem marksE_len (k:Int) (n:Nat):(marksE k n).length=n:=by simp [marksE]
def markTo (k:Int) (l:List Ent) (i:Nat):List Ent:=marksE k i++l.drop i
theorem markTo_set (k:Int) (l:List Ent) (i:Nat) (h:i < l.length):(markTo k l i).set i (k+2*i,k+2*i+1)=markTo k l (i+1):=by
 unfold markTo marksE
 rw [List.set_append_right _ _ (by simp),List.range_succ,List.map_append,List.append_assoc]
 congr 1
 rw [show i - (List.map (fun i:Nat=>(k+2*(i:Int),k+2*(i:Int)+1)) (List.range i)).length=0 by simp,List.drop_eq_getElem_cons h,List.set_cons_zero]
 rfl
theorem markTo_len (k:Int) (l:List Ent) (i:Nat) (h:i≤l.length):(markTo k l i).length=l.length:=by simp [markTo,marksE];omega
theorem markTo_all (k:Int) (l:List Ent):markTo k l l.length=marksE k l.length:=by simp [markTo]
theorem markTo_zero (k:Int) (l:List Ent):markTo k l 0=l:=by simp [markTo,marksE]
def MarkedE (w:World) (e0:TypeId) (B g n cap:Nat) (k:Int) (e:Ending) (w':World):Prop :=
 e = .returned (.int .i64 (k+2*n))∧Own w' B e0 2 (.slice (some ⟨g,0,none⟩) n cap) n (flatE (marksE k n))∧w.grownBy w' (some g)
theorem grownBy_set (w:World) (g o:Nat) (v:Value):w.grownBy (w.setCell ⟨g,o,none⟩ v) (some g) :=
 ⟨rfl,rfl,rfl,by simp [World.setCell],fun k _ hk=>Below.heap_setCell _ _ _ _ (fun e=>hk (by simp [e]))⟩
theorem grownBy_trans {a b c:World} {row:Option Nat} (h:a.grownBy b row) (k:b.grownBy c row):a.grownBy c row :=
 ⟨k.os.trans h.os,k.tape.trans h.tape,k.output.trans h.output,Nat.le_trans h.size k.size,fun i hi hr=>(k.block i (Nat.lt_of_lt_of_le hi h.size) hr).trans (h.block i hi hr)⟩
set_option maxHeartbeats 1000000 in
theorem markEntryS_any (B g n cap:Nat) (l:List Ent) (k:Int) (w:World) (h:Own w B 142 2 (.slice (some ⟨g,0,none⟩) n cap) n (flatE l)) (hl:l.length=n) (hn:n≤4000000) (hk0:0≤k) (hk1:k≤100000000) :
  Calls Tryz.prog 108 #[.slice (some ⟨g,0,none⟩) n cap,.int .i64 k] w (MarkedE w 142 B g n cap k):=by
 have HL:=Lib.hid hl;clear hl
 go_enter Tryz.func108,Tryz.ntmps108
 go_wp2
 go_loopw [1,5] (fun q i wr=>∃ j:Nat,j≤n∧i = .int .i64 j∧q = .int .i64 (k+2*j)∧Own wr B 142 2 (.slice (some ⟨g,0,none⟩) n cap) n (flatE (markTo k l j))∧w.grownBy wr (some g)) (fun _ i _=>n - (intOf i).toNat)
 case atStart=>exact ⟨0,Nat.zero_le _,rfl,by simp,by rw [markTo_zero];exact h,World.grownBy.refl _ _⟩
 case round =>
  obtain ⟨j,hj,rfl,rfl,hown,hg⟩:=hrel
  clear h
  by_cases hlt:j < n
  · have HS:=Lib.hid (markTo_set k l j (by rw [HL.out];exact hlt))
    have hml:=markTo_len k l j (by rw [HL.out];exact hj)
    obtain ⟨f1,f2⟩:=flatE_get (markTo k l j) j (by rw [hml,HL.out];exact hlt)
    have hfr1:=hown.1.frozenAt (j*2)
    have hfr2:=hown.1.frozenAt (j*2+1)
    have hce1:=hown.1.cellAt (j*2) (by omega)
    have hce2:=hown.1.cellAt (j*2+1) (by omega)
    rw [f1] at hce1
    rw [f2] at hce2
    clear f1 f2 hml
    have hst:=hown.store2 j (k+2*j) (k+2*j+1)
    rw [HS.out] at hst
    have HST:=Lib.hid hst
    have HG:=Lib.hid (grownBy_trans hg (grownBy_trans (grownBy_set wr g (j*2) (.int .i64 (k+2*j))) (grownBy_set _ g (j*2+1) (.int .i64 (k+2*j+1)))))
    clear hst hg hown
    go_wp2
    go_roundw
    case rel=>exact ⟨j+1,by omega,by go_num,by congr 1;omega,HST.out,HG.out⟩
    case measure=>simp [intOf];omega
  · obtain rfl:j=n:=by omega
    have e:markTo k l j=marksE k j:=by rw [← HL.out];exact markTo_all k l
    rw [e] at hown
    have HO:=Lib.hid hown
    clear hown e
    go_wp2
    go_ret
    exact ⟨rfl,HO.out,hg⟩
theorem markEntryS_own (B n:Nat) (v:Value) (l:List Ent) (k:Int) (w:World) (h:w.ownsRow B 142 2 v n (flatE l)) (hl:l.length=n) (hn:n≤4000000) (hk0:0≤k) (hk1:k≤100000000) :
  Calls Tryz.prog 108 #[v,.int .i64 k] w fun e w'=>e = .returned (.int .i64 (k+2*n))∧w'.ownsRow B 142 2 v n (flatE (marksE k n))∧w.grownBy w' v.ownBlock:=by
 by_cases hv:v = .slice none 0 0
 · have h0:n=0:=by
    rcases h.2 with ⟨_,h1⟩ | ⟨g,cap,cur,h1,_⟩
    · exact h1
    · rw [hv] at h1;simp at h1
   subst h0;subst hv
   have HO:=Lib.hid (World.ownsRow_nil w B 142 2)
   clear h hl
   go_enter Tryz.func108,Tryz.ntmps108
   go_wp2
   go_loop [1,5] (fun q i=>q = .int .i64 k∧i = .int .i64 0) (fun _ _=>0)
   case atStart=>exact ⟨rfl,rfl⟩
   case round =>
    obtain ⟨rfl,rfl⟩:=hrel
    go_wp2
    go_ret
    exact ⟨ret_int (by simp),HO.out,World.grownBy.refl _ _⟩
 · obtain ⟨g,cap,rfl,_,_⟩:=Own.slice ⟨h,hv⟩
   exact (markEntryS_any B g n cap l k w ⟨h,hv⟩ hl hn hk0 hk1).mono fun e w' ⟨h1,h2,h3⟩=>⟨h1,h2.1,h3⟩
theorem rowI_of_own {w:World} {B:Nat} {e:TypeId} {v:Value} {l:List Int} (h:Own w B e 1 v l.length (l.map (Value.int .i64))) (hm:l.length≤4000000) (hw:∀ x∈l,(Lit.int .i64 x).wf=true) :
  ∃ g cap,v = .slice (some ⟨g,0,none⟩) l.length cap∧B≤g∧g < w.heap.size∧RowI w (some ⟨g,0,none⟩) l.length l:=by
 obtain ⟨g,cap,rfl,hB,hlt⟩:=h.slice
 obtain ⟨a,c,he,hr⟩:=rowI_of_owns h.1 (by unfold maxLen;omega) hw
 simp only [Value.slice.injEq] at he
 obtain ⟨rfl,-,-⟩:=he
 exact ⟨g,cap,rfl,hB,hlt,hr⟩
theorem rowI_owned {w:World} {B:Nat} {e:TypeId} {a:Option Addr} {n cap:Nat} {l:List Int} (h:w.ownsRow B e 1 (.slice a n cap) n (l.map (Value.int .i64))) (hm:n≤4000000) (hw:∀ x∈l,(Lit.int .i64 x).wf=true):RowI w a n l:=by
 obtain ⟨a',c',he,hr⟩:=rowI_of_owns h (by unfold maxLen;omega) hw
 simp only [Value.slice.injEq] at he
 obtain ⟨rfl,-,-⟩:=he
 exact hr
theorem RowI.grown {w w':World} {b n:Nat} {row:Option Nat} {l:List Int} (h:RowI w (some ⟨b,0,none⟩) n l) (hg:w.grownBy w' row) (hne:some b≠row):RowI w' (some ⟨b,0,none⟩) n l:=by
 obtain ⟨h1,h2,h3,h4⟩:=h
 refine ⟨h1,h2,fun hl=>?_,h4⟩
 obtain ⟨b',off,he,hc⟩:=h3 hl
 obtain ⟨rfl,rfl⟩:b=b'∧0=off:=by simpa using he
 exact ⟨b,0,rfl,fun i hi=>World.grownBy.cell hg (hc i hi) hne⟩
def marksI (k:Int) (n:Nat):List Int:=(List.range n).map fun i:Nat=>k+i
theorem marksI_len (k:Int) (n:Nat):(marksI k n).length=n:=by simp [marksI]
theorem marksI_get (k:Int) (n i:Nat) (h:i < n):(marksI k n).getD i 0=k+i:=by
 unfold marksI
 rw [List.getD_eq_getElem?_getD,List.getElem?_map,List.getElem?_range h];rfl
theorem wf_marksI (k:Int) (n:Nat) (h0:0≤k) (h1:k≤100000000) (hn:n≤4000000):∀ x∈marksI k n,(Lit.int .i64 x).wf=true:=by
 intro e he
 obtain ⟨i,hi,rfl⟩:=List.mem_map.1 he
 have:=List.mem_range.1 hi
 exact WalkArith.wf_i64 (by omega)
def markToI (k:Int) (l:List Int) (i:Nat):List Int:=marksI k i++l.drop i
theorem markToI_set (k:Int) (l:List Int) (i:Nat) (h:i < l.length):(markToI k l i).set i (k+i)=markToI k l (i+1):=by
 unfold markToI marksI
 rw [List.set_append_right _ _ (by simp),List.range_succ,List.map_append,List.append_assoc]
 congr 1
 rw [show i - (List.map (fun i:Nat=>k+(i:Int)) (List.range i)).length=0 by simp,List.drop_eq_getElem_cons h,List.set_cons_zero]
 rfl
theorem markToI_len (k:Int) (l:List Int) (i:Nat) (h:i≤l.length):(markToI k l i).length=l.length:=by simp [markToI,marksI];omega
theorem markToI_all (k:Int) (l:List Int):markToI k l l.length=marksI k l.length:=by simp [markToI]
theorem markToI_zero (k:Int) (l:List Int):markToI k l 0=l:=by simp [markToI,marksI]
def MarkedI (w:World) (e0:TypeId) (B g n cap:Nat) (k:Int) (e:Ending) (w':World):Prop :=
 e = .returned (.int .i64 (k+n))∧Own w' B e0 1 (.slice (some ⟨g,0,none⟩) n cap) n ((marksI k n).map (Value.int .i64))∧w.grownBy w' (some g)
set_option maxHeartbeats 1000000 in
theorem markIntS_any (B g n cap:Nat) (l:List Int) (k:Int) (w:World) (h:Own w B 3 1 (.slice (some ⟨g,0,none⟩) n cap) n (l.map (Value.int .i64))) (hl:l.length=n) (hn:n≤4000000) (hk0:0≤k) (hk1:k≤100000000) :
  Calls Tryz.prog 56 #[.slice (some ⟨g,0,none⟩) n cap,.int .i64 k] w (MarkedI w 3 B g n cap k):=by
 have HL:=Lib.hid hl;clear hl
 go_enter Tryz.func56,Tryz.ntmps56
 go_wp2
 go_loopw [1,5] (fun q i wr=>∃ j:Nat,j≤n∧i = .int .i64 j∧q = .int .i64 (k+j)∧Own wr B 3 1 (.slice (some ⟨g,0,none⟩) n cap) n ((markToI k l j).map (Value.int .i64))∧w.grownBy wr (some g)) (fun _ i _=>n - (intOf i).toNat)
 case atStart=>exact ⟨0,Nat.zero_le _,rfl,by simp,by rw [markToI_zero];exact h,World.grownBy.refl _ _⟩
 case round =>
  obtain ⟨j,hj,rfl,rfl,hown,hg⟩:=hrel
  clear h
  by_cases hlt:j < n
  · have HS:=Lib.hid (markToI_set k l j (by rw [HL.out];exact hlt))
    have hml:=markToI_len k l j (by rw [HL.out];exact hj)
    have hfr1:=hown.1.frozenAt j
    have hce1:=hown.1.cellAt j (by omega)
    rw [List.getElem?_map,List.getElem?_eq_getElem (by rw [hml,HL.out];exact hlt)] at hce1
    simp only [Option.map_some] at hce1
    obtain ⟨x,hx⟩:∃ x,x=(markToI k l j)[j]'(by rw [hml,HL.out];exact hlt):=⟨_,rfl⟩
    rw [← hx] at hce1
    clear hx hml
    have hst:Own (wr.setCell ⟨g,j,none⟩ (.int .i64 (k+j))) B 3 1 (.slice (some ⟨g,0,none⟩) n cap) n ((markToI k l (j+1)).map (Value.int .i64)):=by
     rw [← HS.out,List.map_set];exact ⟨(hown.1.stored j (.int .i64 (k+j))).1,hown.2⟩
    have HST:=Lib.hid hst
    have HG:=Lib.hid (grownBy_trans hg (grownBy_set wr g j (.int .i64 (k+j))))
    clear hst hg hown
    go_wp2
    go_roundw
    case rel=>exact ⟨j+1,by omega,by go_num,by congr 1;omega,HST.out,HG.out⟩
    case measure=>simp [intOf];omega
  · obtain rfl:j=n:=by omega
    have e:markToI k l j=marksI k j:=by rw [← HL.out];exact markToI_all k l
    rw [e] at hown
    have HO:=Lib.hid hown
    clear hown e
    go_wp2
    go_ret
    exact ⟨rfl,HO.out,hg⟩
set_option maxHeartbeats 1000000 in
theorem heldIntS_any (a:Option Addr) (n cap:Nat) (k:Int) (w:World) (h:RowI w a n (marksI k n)) (hn:n≤4000000) (hk0:0≤k) (hk1:k≤100000000) :
  Calls Tryz.prog 57 #[.slice a n cap,.int .i64 k] w fun e w'=>e = .returned (.int .i64 (k+n))∧w=w':=by
 obtain ⟨-,hm,hc,-⟩:=h
 clear hm
 by_cases h0:0 < n
 · obtain ⟨b,off,rfl,hcc⟩:=hc h0;clear hc;have hc:=hcc;clear hcc
   go_enter Tryz.func57,Tryz.ntmps57
   go_wp2
   go_loop [1,5] (fun q i=>∃ j:Nat,j≤n∧i = .int .i64 j∧q = .int .i64 (k+j)) (fun _ i=>n - (intOf i).toNat)
   case atStart=>exact ⟨0,Nat.zero_le _,rfl,by simp⟩
   case round =>
    obtain ⟨j,hj,rfl,rfl⟩:=hrel
    by_cases hlt:j < n
    · have hc1:=hc j hlt
      rw [marksI_get k n j hlt] at hc1
      clear hc
      go_wp2
      go_round
      case rel=>exact ⟨j+1,by omega,by go_num,by congr 1;omega⟩
      case measure=>simp [intOf];omega
    · obtain rfl:j=n:=by omega
      clear hc
      go_wp2
      go_ret
      exact ⟨rfl,rfl⟩
 · obtain rfl:n=0:=by omega
   clear hc
   go_enter Tryz.func57,Tryz.ntmps57
   go_wp2
   go_loop [1,5] (fun q i=>q = .int .i64 k∧i = .int .i64 0) (fun _ _=>0)
   case atStart=>exact ⟨rfl,rfl⟩
   case round =>
    obtain ⟨rfl,rfl⟩:=hrel
    go_wp2
    go_ret
    exact ⟨ret_int (by simp),rfl⟩
theorem markIntS_own (B n:Nat) (v:Value) (l:List Int) (k:Int) (w:World) (h:w.ownsRow B 3 1 v n (l.map (Value.int .i64))) (hl:l.length=n) (hn:n≤4000000) (hk0:0≤k) (hk1:k≤100000000) :
  Calls Tryz.prog 56 #[v,.int .i64 k] w fun e w'=>e = .returned (.int .i64 (k+n))∧w'.ownsRow B 3 1 v n ((marksI k n).map (Value.int .i64))∧w.grownBy w' v.ownBlock:=by
 by_cases hv:v = .slice none 0 0
 · have h0:n=0:=by
    rcases h.2 with ⟨_,h1⟩ | ⟨g,cap,cur,h1,_⟩
    · exact h1
    · rw [hv] at h1;simp at h1
   subst h0;subst hv
   have HO:=Lib.hid (World.ownsRow_nil w B 3 1)
   clear h hl
   go_enter Tryz.func56,Tryz.ntmps56
   go_wp2
   go_loop [1,5] (fun q i=>q = .int .i64 k∧i = .int .i64 0) (fun _ _=>0)
   case atStart=>exact ⟨rfl,rfl⟩
   case round =>
    obtain ⟨rfl,rfl⟩:=hrel
    go_wp2
    go_ret
    exact ⟨ret_int (by simp),HO.out,World.grownBy.refl _ _⟩
 · obtain ⟨g,cap,rfl,_,_⟩:=Own.slice ⟨h,hv⟩
   exact (markIntS_any B g n cap l k w ⟨h,hv⟩ hl hn hk0 hk1).mono fun e w' ⟨h1,h2,h3⟩=>⟨h1,h2.1,h3⟩
theorem rowI_marked {w:World} {B:Nat} {e:TypeId} {a:Option Addr} {n cap:Nat} (h:w.ownsRow B e 1 (.slice a n cap) n ((marksI 1 n).map (Value.int .i64))) (hn:n≤4000000):RowI w a n (marksI 1 n) :=
 rowI_owned h hn (wf_marksI 1 n (by omega) (by omega) hn)
open Go.RowKit Go.ChangeShapes
theorem in_rowI {H:Type} {enc:TypeId × Value→H} {w:World} {a:Option Addr} {len cap:Nat} {d:DataW H} {ps:List MemPlace}
  (h:DataW.Trod enc Tryz.prog w 0 (fun _=>true) true 25 (.slice a len cap) d ps):∃ z,RowI w a len z∧(a=none→cap=0)∧len≤cap:=by
 obtain ⟨fuel,hf⟩:=h
 rcases open_ints Tryz.underlying25 Tryz.underlying3 (by kernel_rfl) hf with ⟨hcs,-⟩ | ⟨x,l,c,zs,hcs,-,hl,hm,hz,-,hcell,hwz⟩
 · simp [Value.cells] at hcs
   obtain ⟨rfl,rfl,rfl⟩:=hcs
   exact ⟨[],rowI_of_in (cap:=0) (zs:=[]) (.inl ⟨rfl,rfl,rfl,rfl⟩),fun _=>rfl,Nat.le_refl _⟩
 · simp [Value.cells] at hcs
   obtain ⟨rfl,rfl,rfl⟩:=hcs
   exact ⟨_,rowI_of_in (cap:=cap) (zs:=zs) (.inr ⟨_,rfl,hl,hm,by simpa using hz,hcell,hwz⟩),fun h=>(by cases h),hl⟩
theorem in_rowE {H:Type} {enc:TypeId × Value→H} {w:World} {a:Option Addr} {len cap:Nat} {d:DataW H} {ps:List MemPlace}
  (h:DataW.Trod enc Tryz.prog w 0 (fun _=>true) true 53 (.slice a len cap) d ps):∃ l,RowE w a len l∧(a=none→cap=0)∧len≤cap:=by
 obtain ⟨fuel,hf⟩:=h
 have key:∃ f0 f1:Field,Tryz.prog.underlying 159 = some (.struct #[f0,f1])∧f0.offset=0∧f1.offset=1∧f0.type = 3∧f1.type = 3:=⟨_,_,Tryz.underlying159,rfl,rfl,rfl,rfl⟩
 obtain ⟨f0,f1,hu,o0,o1,t0,t1⟩:=key
 rcases Go.Deep.open_slice_pairs Tryz.underlying53 hu (by kernel_rfl) o0 o1 (by rw [t0];kernel_rfl) (by rw [t1];kernel_rfl) hf with ⟨hcs,-⟩ | ⟨x,l,c,m,n,V0,V1,D0,D1,P0,P1,hcs,-,hl,hm,hmm,-,hx⟩
 · simp [Value.cells] at hcs
   obtain ⟨rfl,rfl,rfl⟩:=hcs
   exact ⟨[],rowE_empty _ _,fun _=>rfl,Nat.le_refl _⟩
 · simp [Value.cells] at hcs
   obtain ⟨rfl,rfl,rfl⟩:=hcs
   simp only [if_true] at hmm
   have hv:∀ i,i < m→∃ e:Ent,V0 i = .int .i64 e.1∧V1 i = .int .i64 e.2∧(Lit.int .i64 e.1).wf=true∧(Lit.int .i64 e.2).wf=true:=by
    intro i hi
    obtain ⟨-,-,g0,g1⟩:=hx i hi
    rw [t0] at g0
    rw [t1] at g1
    obtain ⟨n0,h0,-,w0⟩:=DataW.trod_int Tryz.underlying3 g0
    obtain ⟨n1,h1,-,w1⟩:=DataW.trod_int Tryz.underlying3 g1
    simp only [List.cons.injEq,and_true] at h0 h1
    exact ⟨(n0,n1),h0,h1,w0,w1⟩
   have hv':∀ i,∃ e:Ent,i < m→V0 i = .int .i64 e.1∧V1 i = .int .i64 e.2∧(Lit.int .i64 e.1).wf=true∧(Lit.int .i64 e.2).wf=true:=by
    intro i
    by_cases hi:i < m
    · obtain ⟨e,he⟩:=hv i hi;exact ⟨e,fun _=>he⟩
    · exact ⟨(0,0),fun h=>absurd h hi⟩
   obtain ⟨E,hE⟩:=Classical.axiomOfChoice hv'
   refine ⟨(List.range len).map E,⟨by simp,by omega,fun h0=>?_,?_⟩,fun h=>(by cases h),hl⟩
   · obtain ⟨b,off,spot⟩:=x
     have hs:=(hx 0 (by omega)).1
     have hspot:spot=none:=by
      have:=World.cell?_spot hs
      simpa [Addr.add] using this
     subst hspot
     refine ⟨b,off,rfl,fun i hi=>?_⟩
     obtain ⟨c0,c1,-,-⟩:=hx i (by omega)
     obtain ⟨e0,e1,-,-⟩:=hE i (by omega)
     have hg:((List.range len).map E).getD i (0,0)=E i:=by
      rw [List.getD_eq_getElem?_getD,List.getElem?_map,List.getElem?_range hi];rfl
     have ha:∀ j,(⟨b,off,none⟩:Addr).add j=⟨b,off+j,none⟩:=fun j=>by unfold Addr.add;split <;> simp_all
     rw [hg,← e0,← e1]
     rw [ha] at c0 c1
     exact ⟨c0,by rw [Nat.add_assoc];exact c1⟩
   · intro e he
     obtain ⟨i,hi,rfl⟩:=List.mem_map.1 he
     have:=hE i (by have:=List.mem_range.1 hi;omega)
     exact this.2.2
end Go.Proofs.YtpnjgmgmakmgeaaGreat
