/- Texts of ours that stand together: ConvCts, ConvO -/
import Derived.Test.YtpnjgmgmakmgeaaGreatConvVx
import Derived.StillTailTactics
import Derived.Test.YtpnjgmgmakmgeaaGreatCmI
import Derived.Test.YtpnjgmgmakmgeaaGreatConv
import Derived.Test.YtpnjgmgmakmgeaaGreatConvX
/- The laws' helpers over slices of certificates (gen19/certs.py). -/
namespace Go.Proofs.YtpnjgmgmakmgeaaGreat
open Go.RowKit
set_option linter.unusedVariables false
theorem infoCrtV:(Tryz.prog.info? 29).map (fun i=>(i.zero,i.size,i.bytes))=some (some (.agg #[.int .i64 0,.int .i64 0,.int .i64 0]),3,24):=by kernel_rfl
theorem toCertV_any (p0 p1 p2:Int) (w:World) :
  Calls Tryz.prog 113 #[.agg #[.int .i64 p0,.int .i64 p1,.int .i64 p2]] w fun e w'=>e = .returned (.agg #[.int .i64 p0,.int .i64 p1,.int .i64 p2])∧Below w.heap.size w w':=by
 go_enter Tryz.func113,Tryz.ntmps113
 go_wp2
 refine bodyPost_ret (v:=.agg #[.int .i64 p0,.int .i64 p1,.int .i64 p2]) ?_ rfl ⟨rfl,?_⟩
 · simp [results,Tryz.results113,go_sem]
 · exact ((((Below.refl _ _).alloc (Nat.le_refl _) _).alloc (by simp) _).alloc (by simp;omega) _)
theorem eqCertV_same (p0 p1 p2:Int) (w:World) :
  Calls Tryz.prog 115 #[.agg #[.int .i64 p0,.int .i64 p1,.int .i64 p2],.agg #[.int .i64 p0,.int .i64 p1,.int .i64 p2]] w fun e w'=>e = .returned (.bool true)∧Below w.heap.size w w':=by
 go_enter Tryz.func115,Tryz.ntmps115
 go_wp2
 go_ret
 exact ⟨rfl,(((Below.refl _ _).alloc (Nat.le_refl _) _).alloc (by simp) _)⟩
theorem szCertS_any (a:Option Addr) (n cap:Nat) (left:Int) (w:World) (h0:0≤left) (h1:left≤1048576) (hn:n≤maxLen) :
  Calls Tryz.prog 43 #[.slice a n cap,.int .i64 left] w fun e w'=>e = .returned (.int .i64 (if (n:Int)≤left then left - n else -1))∧w=w':=by
 unfold maxLen at hn
 by_cases h:(n:Int)≤left
 · rw [if_pos h]
   go_enter Tryz.func43,Tryz.ntmps43
   go_wp2
   go_ret
   exact ⟨rfl,rfl⟩
 · rw [if_neg h]
   go_enter Tryz.func43,Tryz.ntmps43
   go_wp2
   go_ret
   exact ⟨rfl,rfl⟩
set_option maxRecDepth 100000 in
set_option maxHeartbeats 1000000 in
theorem eqCertS_same (a a':Option Addr) (n cap cap':Nat) (l:List Ver) (w:World) (h:RowV w a n l) (h':RowV w a' n l) :
  Calls Tryz.prog 48 #[.slice a n cap,.slice a' n cap'] w fun e w'=>e = .returned (.bool true)∧Below w.heap.size w w':=by
 obtain ⟨hl,hm,hc,-⟩:=h
 obtain ⟨-,-,hc',-⟩:=h'
 unfold maxLen at hm
 clear hl
 by_cases h0:0 < n
 · obtain ⟨b,off,rfl,hcc⟩:=hc h0;clear hc;have hc:=hcc;clear hcc
   obtain ⟨b',off',rfl,hcc⟩:=hc' h0;clear hc';have hc':=hcc;clear hcc
   have hbB:b < w.heap.size:=World.block_lt_of_cell? w ⟨b,off+0*3,none⟩ (hc 0 h0).1
   have hbB':b' < w.heap.size:=World.block_lt_of_cell? w ⟨b',off'+0*3,none⟩ (hc' 0 h0).1
   go_enter Tryz.func48,Tryz.ntmps48
   go_wp2
   go_loopw [5] (fun i wr=>∃ k:Nat,k≤n∧i = .int .i64 k∧Below w.heap.size w wr) (fun i _=>n - (intOf i).toNat)
   case atStart=>exact ⟨0,Nat.zero_le _,rfl,Below.refl _ _⟩
   case round =>
    obtain ⟨k,hk,rfl,hb⟩:=hrel
    by_cases hlt:k < n
    · obtain ⟨d1,d2,d3⟩:=hc k hlt
      have c1:=(hb.cell (p:=⟨b,off+k*3,none⟩) hbB).trans d1
      have c2:=(hb.cell (p:=⟨b,off+k*3+1,none⟩) hbB).trans d2
      have c3:=(hb.cell (p:=⟨b,off+k*3+2,none⟩) hbB).trans d3
      clear d1 d2 d3
      obtain ⟨d1,d2,d3⟩:=hc' k hlt
      have e1:=(hb.cell (p:=⟨b',off'+k*3,none⟩) hbB').trans d1
      have e2:=(hb.cell (p:=⟨b',off'+k*3+1,none⟩) hbB').trans d2
      have e3:=(hb.cell (p:=⟨b',off'+k*3+2,none⟩) hbB').trans d3
      clear hc hc' d1 d2 d3
      obtain ⟨x,hx⟩:∃ x,x=l.getD k noV:=⟨_,rfl⟩
      rw [← hx] at c1 c2 c3 e1 e2 e3
      clear hx
      obtain ⟨p0,p1,p2⟩:=x
      simp only at c1 c2 c3 e1 e2 e3
      go_wp2
      go_still_tail 8,(by kernel_rfl)
      go_wp2_with fail
      refine (eqCertV_same _ _ _ _).mono ?_;rintro e w1 ⟨rfl,hb1⟩
      go_wp2
      go_roundw
      case rel=>exact ⟨k+1,by omega,by go_num,by first | exact hb.trans (hb1.mono hb.size) | exact hb.drew.trans (hb1.mono hb.size) | exact (below_drewN' hb _).trans (hb1.mono hb.size)⟩
      case measure=>simp [intOf];omega
    · clear hc hc'
      go_wp2
      go_ret
      exact ⟨rfl,hb⟩
 · obtain rfl:n=0:=by omega
   clear hc hc'
   go_enter Tryz.func48,Tryz.ntmps48
   go_wp2
   go_loop [5] (fun i=>i = .int .i64 0) (fun _=>0)
   case atStart=>rfl
   case round =>
    subst hrel
    go_wp2
    go_ret
    exact ⟨rfl,Below.refl _ _⟩
set_option maxHeartbeats 1000000 in
theorem toCertS_any (a:Option Addr) (n cap:Nat) (l:List Ver) (w:World) (h:RowV w a n l) (hn:n≤1048576) :
  Calls Tryz.prog 45 #[.slice a n cap] w (NewV w 29 l):=by
 have HR:=Lib.hid h
 obtain ⟨hl,-,hc,-⟩:=h
 have HL:=Lib.hid hl;clear hl
 obtain ⟨i0,hi,hz0,hz1,hz2⟩:=info_parts infoCrtV
 go_enter Tryz.func45,Tryz.ntmps45
 go_wp2_with (first | (at_make;refine wpList_make_full _ rfl (.tmp 6) (.tmp 6) 70 rfl w.heap.size 29 i0 (.agg #[.int .i64 0,.int .i64 0,.int .i64 0]) 3 Tryz.underlying70 hi hz0 hz1 .i64 .i64 n n n rfl rfl rfl rfl (by rw [hz2];omega) (by unfold maxLen;omega) (Nat.le_refl _) ?_;intro w1 hown hgrow;clear hi hz0 hz1 hz2))
 rw [made_zerosV,← flatV_zeros] at hown
 have hb1:Below w.heap.size w w1:=(Below.refl _ _).grown hgrow (Nat.le_refl _) (fun k hk=>by simp at hk)
 have hown1:Own w1 w.heap.size 29 3 (.slice (some ⟨w.heap.size,0,none⟩) n n) n (flatV (fillV l 0)):=⟨by rw [show fillV l 0=List.replicate n noV by simp [fillV,HL.out]];exact hown,by simp⟩
 clear hgrow hown
 by_cases h0:0 < n
 · obtain ⟨b,off,rfl,hcc⟩:=hc h0;clear hc;have hc:=hcc;clear hcc
   have hbB:b < w.heap.size:=World.block_lt_of_cell? w ⟨b,off+0*3,none⟩ (hc 0 h0).1
   go_loopw [4] (fun i wr=>∃ k:Nat,k≤n∧i = .int .i64 k∧Own wr w.heap.size 29 3 (.slice (some ⟨w.heap.size,0,none⟩) n n) n (flatV (fillV l k))∧Below w.heap.size w wr) (fun i _=>n - (intOf i).toNat)
   case atStart=>exact ⟨0,Nat.zero_le _,rfl,hown1,hb1⟩
   case round =>
    obtain ⟨k,hk,rfl,hown,hb⟩:=hrel
    clear hown1 hb1
    by_cases hlt:k < n
    · obtain ⟨d1,d2,d3⟩:=hc k hlt
      have c1:=(hb.cell (p:=⟨b,off+k*3,none⟩) hbB).trans d1
      have c2:=(hb.cell (p:=⟨b,off+k*3+1,none⟩) hbB).trans d2
      have c3:=(hb.cell (p:=⟨b,off+k*3+2,none⟩) hbB).trans d3
      have HF:=Lib.hid (fillV_set l k (by rw [HL.out];exact hlt))
      clear hc d1 d2 d3
      obtain ⟨x,hx⟩:∃ x,x=l.getD k noV:=⟨_,rfl⟩
      rw [← hx] at c1 c2 c3
      have HX:=Lib.hid hx
      clear hx
      obtain ⟨p0,p1,p2⟩:=x
      simp only at c1 c2 c3
      go_wp2_with fail
      refine (toCertV_any p0 p1 p2 _).mono ?_;rintro e w2 ⟨rfl,hb2⟩
      have hb3:=hb.trans (hb2.mono hb.size)
      have hown2:Own w2 w.heap.size 29 3 (.slice (some ⟨w.heap.size,0,none⟩) n n) n (flatV (fillV l k)):=hown.below hb2
      have hfl:=fillV_len l k (by rw [HL.out];exact hk)
      have hfr1:=hown2.1.frozenAt (k*3)
      have hfr2:=hown2.1.frozenAt (k*3+1)
      have hfr3:=hown2.1.frozenAt (k*3+2)
      have hce1:=hown2.1.cellAt (k*3) (by omega)
      have hce2:=hown2.1.cellAt (k*3+1) (by omega)
      have hce3:=hown2.1.cellAt (k*3+2) (by omega)
      obtain ⟨f1,f2,f3⟩:=flatV_get (fillV l k) k (by rw [hfl,HL.out];exact hlt)
      rw [f1] at hce1
      rw [f2] at hce2
      rw [f3] at hce3
      clear f1 f2 f3
      have hst:=hown2.storeV k ⟨p0,p1,p2⟩
      rw [HX.out,HF.out] at hst
      simp only [← HX.out] at hst
      have HST:=Lib.hid hst
      have HSB:=Lib.hid (((hb3.setCell (p:=⟨w.heap.size,k*3,none⟩) (Nat.le_refl _) (.int .i64 p0)).setCell (p:=⟨w.heap.size,k*3+1,none⟩) (Nat.le_refl _) (.int .i64 p1)).setCell (p:=⟨w.heap.size,k*3+2,none⟩) (Nat.le_refl _) (.int .i64 p2))
      clear hst hb hb2 hb3 hown hown2 c1 c2 c3 hfl
      go_wp2
      go_roundw
      case rel=>exact ⟨k+1,by omega,by go_num,HST.out,HSB.out⟩
      case measure=>simp [intOf];omega
    · have e:fillV l k=l:=by rw [show k=l.length by rw [HL.out];omega];exact fillV_all l
      rw [e] at hown
      have HO:=Lib.hid hown
      clear hown e hc
      go_wp2
      go_ret
      exact ⟨_,rfl,by rw [HL.out];exact HO.out,HR.out.2.2.2,hb⟩
 · obtain rfl:n=0:=by omega
   obtain rfl:l=[]:=List.eq_nil_of_length_eq_zero HL.out
   clear hc
   have HO:=Lib.hid hown1
   clear hown1
   go_loopw [4] (fun i wr=>i = .int .i64 0∧wr=w1) (fun _ _=>0)
   case atStart=>exact ⟨rfl,rfl⟩
   case round =>
    obtain ⟨rfl,rfl⟩:=hrel
    go_wp2
    go_ret
    exact ⟨_,rfl,HO.out,fun e he=>(by cases he),hb1⟩
set_option maxHeartbeats 1000000 in
theorem markCertS_any (B g n cap:Nat) (l:List Ver) (k:Int) (w:World) (h:Own w B 29 3 (.slice (some ⟨g,0,none⟩) n cap) n (flatV l)) (hl:l.length=n) (hn:n≤4000000) (hk0:0≤k) (hk1:k≤100000000) :
  Calls Tryz.prog 49 #[.slice (some ⟨g,0,none⟩) n cap,.int .i64 k] w (MarkedV w 29 B g n cap k):=by
 have HL:=Lib.hid hl;clear hl
 go_enter Tryz.func49,Tryz.ntmps49
 go_wp2
 go_loopw [1,5] (fun q i wr=>∃ j:Nat,j≤n∧i = .int .i64 j∧q = .int .i64 (k+3*j)∧Own wr B 29 3 (.slice (some ⟨g,0,none⟩) n cap) n (flatV (markToV k l j))∧w.grownBy wr (some g)) (fun _ i _=>n - (intOf i).toNat)
 case atStart=>exact ⟨0,Nat.zero_le _,rfl,by simp,by rw [markToV_zero];exact h,World.grownBy.refl _ _⟩
 case round =>
  obtain ⟨j,hj,rfl,rfl,hown,hg⟩:=hrel
  clear h
  by_cases hlt:j < n
  · have hs0:=markToV_set k l j (by rw [HL.out];exact hlt)
    have hml:=markToV_len k l j (by rw [HL.out];exact hj)
    obtain ⟨f1,f2,f3⟩:=flatV_get (markToV k l j) j (by rw [hml,HL.out];exact hlt)
    have hfr1:=hown.1.frozenAt (j*3)
    have hfr2:=hown.1.frozenAt (j*3+1)
    have hfr3:=hown.1.frozenAt (j*3+2)
    have hce1:=hown.1.cellAt (j*3) (by omega)
    have hce2:=hown.1.cellAt (j*3+1) (by omega)
    have hce3:=hown.1.cellAt (j*3+2) (by omega)
    rw [f1] at hce1
    rw [f2] at hce2
    rw [f3] at hce3
    clear f1 f2 f3 hml
    have hst:=hown.storeV j ⟨k+3*(j:Int),k+3*(j:Int)+1,k+3*(j:Int)+1+1⟩
    have he:(⟨k+3*(j:Int),k+3*(j:Int)+1,k+3*(j:Int)+1+1⟩:Ver)=⟨k+3*(j:Int),k+3*(j:Int)+1,k+3*(j:Int)+2⟩:=by congr 1;all_goals omega
    rw [he,hs0,← he] at hst
    have HST:=Lib.hid hst
    have HG:=Lib.hid (grownBy_transX hg (grownBy_transX (grownBy_set wr g (j*3) (.int .i64 (k+3*j))) (grownBy_transX (grownBy_set _ g (j*3+1) (.int .i64 (k+3*j+1))) (grownBy_set _ g (j*3+2) (.int .i64 (k+3*j+1+1))))))
    clear hst hg hown hs0 he
    go_wp2
    go_roundw
    case rel=>exact ⟨j+1,by omega,by go_num,by congr 1;omega,HST.out,HG.out⟩
    case measure=>simp [intOf];omega
  · obtain rfl:j=n:=by omega
    have e:markToV k l j=marksV k j:=by rw [← HL.out];exact markToV_all k l
    rw [e] at hown
    have HO:=Lib.hid hown
    clear hown e
    go_wp2
    go_ret
    exact ⟨rfl,HO.out,hg⟩
theorem markCertS_own (B n:Nat) (v:Value) (l:List Ver) (k:Int) (w:World) (h:w.ownsRow B 29 3 v n (flatV l)) (hl:l.length=n) (hn:n≤4000000) (hk0:0≤k) (hk1:k≤100000000) :
  Calls Tryz.prog 49 #[v,.int .i64 k] w fun e w'=>e = .returned (.int .i64 (k+3*n))∧w'.ownsRow B 29 3 v n (flatV (marksV k n))∧w.grownBy w' v.ownBlock:=by
 by_cases hv:v = .slice none 0 0
 · have h0:n=0:=by
    rcases h.2 with ⟨_,h1⟩ | ⟨g,cap,cur,h1,_⟩
    · exact h1
    · rw [hv] at h1;simp at h1
   subst h0;subst hv
   have HO:=Lib.hid (World.ownsRow_nil w B 29 3)
   clear h hl
   go_enter Tryz.func49,Tryz.ntmps49
   go_wp2
   go_loop [1,5] (fun q i=>q = .int .i64 k∧i = .int .i64 0) (fun _ _=>0)
   case atStart=>exact ⟨rfl,rfl⟩
   case round =>
    obtain ⟨rfl,rfl⟩:=hrel
    go_wp2
    go_ret
    exact ⟨ret_int (by simp),HO.out,World.grownBy.refl _ _⟩
 · obtain ⟨g,cap,rfl,_,_⟩:=Own.slice ⟨h,hv⟩
   exact (markCertS_any B g n cap l k w ⟨h,hv⟩ hl hn hk0 hk1).mono fun e w' ⟨h1,h2,h3⟩=>⟨h1,h2.1,h3⟩
def marksO (k:Int) (n:Nat):List Bool:=(List.range n).map fun i:Nat=>mk3 (k+i)
theorem marksO_get (k:Int) (n i:Nat) (h:i < n):(marksO k n).getD i false=mk3 (k+i):=by
 unfold marksO
 rw [List.getD_eq_getElem?_getD,List.getElem?_map,List.getElem?_range h];rfl
def markToO (k:Int) (l:List Bool) (i:Nat):List Bool:=marksO k i++l.drop i
theorem markToO_set (k:Int) (l:List Bool) (i:Nat) (h:i < l.length):(markToO k l i).set i (mk3 (k+i))=markToO k l (i+1):=by
 unfold markToO marksO
 rw [List.set_append_right _ _ (by simp),List.range_succ,List.map_append,List.append_assoc]
 congr 1
 rw [show i - (List.map (fun i:Nat=>mk3 (k+(i:Int))) (List.range i)).length=0 by simp,List.drop_eq_getElem_cons h,List.set_cons_zero]
 rfl
theorem markToO_len (k:Int) (l:List Bool) (i:Nat) (h:i≤l.length):(markToO k l i).length=l.length:=by simp [markToO,marksO];omega
theorem markToO_all (k:Int) (l:List Bool):markToO k l l.length=marksO k l.length:=by simp [markToO]
theorem markToO_zero (k:Int) (l:List Bool):markToO k l 0=l:=by simp [markToO,marksO]
def MarkedO (w:World) (e0:TypeId) (B g n cap:Nat) (k:Int) (e:Ending) (w':World):Prop :=
 e = .returned (.int .i64 (k+n))∧Own w' B e0 1 (.slice (some ⟨g,0,none⟩) n cap) n ((marksO k n).map Value.bool)∧w.grownBy w' (some g)
set_option maxHeartbeats 400000 in
theorem eqBoolS_same (a a':Option Addr) (len cap cap':Nat) (l:List Bool) (w:World) (h:RowO w a len l) (h':RowO w a' len l) :
  Calls Tryz.prog 47 #[.slice a len cap,.slice a' len cap'] w fun e w'=>e = .returned (.bool true)∧Below w.heap.size w w':=by
 obtain ⟨hl,hm,hc⟩:=h
 obtain ⟨-,-,hc'⟩:=h'
 unfold maxLen at hm
 clear hl
 by_cases h0:0 < len
 · obtain ⟨b,off,rfl,hcc⟩:=hc h0;clear hc;have hc:=hcc;clear hcc
   obtain ⟨b',off',rfl,hcc⟩:=hc' h0;clear hc';have hc':=hcc;clear hcc
   have hbB:b < w.heap.size:=World.block_lt_of_cell? w ⟨b,off+0,none⟩ (hc 0 h0)
   have hbB':b' < w.heap.size:=World.block_lt_of_cell? w ⟨b',off'+0,none⟩ (hc' 0 h0)
   go_enter Tryz.func47,Tryz.ntmps47
   go_wp2
   go_loopw [5] (fun i wr=>∃ k:Nat,k≤len∧i = .int .i64 k∧Below w.heap.size w wr) (fun i _=>len - (intOf i).toNat)
   case atStart=>exact ⟨0,Nat.zero_le _,rfl,Below.refl _ _⟩
   case round =>
    obtain ⟨k,hk,rfl,hb⟩:=hrel
    by_cases hlt:k < len
    · have hck:wr.cell? ⟨b,off+k,none⟩=some (.bool (l.getD k false)):=(hb.cell (p:=⟨b,off+k,none⟩) hbB).trans (hc k hlt)
      have hck':wr.cell? ⟨b',off'+k,none⟩=some (.bool (l.getD k false)):=(hb.cell (p:=⟨b',off'+k,none⟩) hbB').trans (hc' k hlt)
      clear hc hc'
      obtain ⟨n,hn'⟩:∃ n,n=l.getD k false:=⟨_,rfl⟩
      rw [← hn'] at hck hck'
      clear hn'
      go_wp2
      go_quiet (fail)
      go_wp2
      go_roundw
      case rel=>exact ⟨k+1,by omega,by go_num,below_drewN' hb _⟩
      case measure=>simp [intOf];omega
    · clear hc hc'
      go_wp2
      go_ret
      exact ⟨rfl,hb⟩
 · obtain rfl:len=0:=by omega
   clear hc hc'
   go_enter Tryz.func47,Tryz.ntmps47
   go_wp2
   go_loop [5] (fun i=>i = .int .i64 0) (fun _=>0)
   case atStart=>rfl
   case round =>
    subst hrel
    go_wp2
    go_ret
    exact ⟨rfl,Below.refl _ _⟩
set_option maxHeartbeats 1000000 in
theorem markBoolS_any (B g n cap:Nat) (l:List Bool) (k:Int) (w:World) (h:Own w B 4 1 (.slice (some ⟨g,0,none⟩) n cap) n (l.map Value.bool)) (hl:l.length=n) (hn:n≤4000000) (hk0:0≤k) (hk1:k≤100000000) :
  Calls Tryz.prog 50 #[.slice (some ⟨g,0,none⟩) n cap,.int .i64 k] w (MarkedO w 4 B g n cap k):=by
 have HL:=Lib.hid hl;clear hl
 go_enter Tryz.func50,Tryz.ntmps50
 go_wp2
 go_loopw [1,5] (fun q i wr=>∃ j:Nat,j≤n∧i = .int .i64 j∧q = .int .i64 (k+j)∧Own wr B 4 1 (.slice (some ⟨g,0,none⟩) n cap) n ((markToO k l j).map Value.bool)∧w.grownBy wr (some g)) (fun _ i _=>n - (intOf i).toNat)
 case atStart=>exact ⟨0,Nat.zero_le _,rfl,by simp,by rw [markToO_zero];exact h,World.grownBy.refl _ _⟩
 case round =>
  obtain ⟨j,hj,rfl,rfl,hown,hg⟩:=hrel
  clear h
  by_cases hlt:j < n
  · have HS:=Lib.hid (markToO_set k l j (by rw [HL.out];exact hlt))
    have hml:=markToO_len k l j (by rw [HL.out];exact hj)
    have hfr1:=hown.1.frozenAt j
    have hce1:=hown.1.cellAt j (by omega)
    rw [List.getElem?_map,List.getElem?_eq_getElem (by rw [hml,HL.out];exact hlt)] at hce1
    simp only [Option.map_some] at hce1
    obtain ⟨x,hx⟩:∃ x,x=(markToO k l j)[j]'(by rw [hml,HL.out];exact hlt):=⟨_,rfl⟩
    rw [← hx] at hce1
    clear hx hml
    have hst:Own (wr.setCell ⟨g,j,none⟩ (.bool (mk3 (k+j)))) B 4 1 (.slice (some ⟨g,0,none⟩) n cap) n ((markToO k l (j+1)).map Value.bool):=by
     rw [← HS.out,List.map_set];exact ⟨(hown.1.stored j (.bool (mk3 (k+j)))).1,hown.2⟩
    have HST:=Lib.hid hst
    have HG:=Lib.hid (grownBy_trans hg (grownBy_set wr g j (.bool (mk3 (k+j)))))
    clear hst hg hown
    go_wp2
    go_roundw
    case rel=>exact ⟨j+1,by omega,by go_num,by congr 1;omega,HST.out,HG.out⟩
    case measure=>simp [intOf];omega
  · obtain rfl:j=n:=by omega
    have e:markToO k l j=marksO k j:=by rw [← HL.out];exact markToO_all k l
    rw [e] at hown
    have HO:=Lib.hid hown
    clear hown e
    go_wp2
    go_ret
    exact ⟨rfl,HO.out,hg⟩
set_option maxHeartbeats 1000000 in
theorem heldBoolS_any (a:Option Addr) (n cap:Nat) (k:Int) (w:World) (h:RowO w a n (marksO k n)) (hn:n≤4000000) (hk0:0≤k) (hk1:k≤100000000) :
  Calls Tryz.prog 51 #[.slice a n cap,.int .i64 k] w fun e w'=>e = .returned (.int .i64 (k+n))∧w=w':=by
 obtain ⟨-,hm,hc⟩:=h
 clear hm
 by_cases h0:0 < n
 · obtain ⟨b,off,rfl,hcc⟩:=hc h0;clear hc;have hc:=hcc;clear hcc
   go_enter Tryz.func51,Tryz.ntmps51
   go_wp2
   go_loop [1,5] (fun q i=>∃ j:Nat,j≤n∧i = .int .i64 j∧q = .int .i64 (k+j)) (fun _ i=>n - (intOf i).toNat)
   case atStart=>exact ⟨0,Nat.zero_le _,rfl,by simp⟩
   case round =>
    obtain ⟨j,hj,rfl,rfl⟩:=hrel
    by_cases hlt:j < n
    · have hc1:=hc j hlt
      rw [marksO_get k n j hlt] at hc1
      have t3:=tmod3 (show 0≤k+(j:Int) by omega)
      obtain ⟨db,hdb⟩:∃ db,db=mk3 (k+(j:Int)):=⟨_,rfl⟩
      have m1:((k+(j:Int)) % 3 == 0)=db:=by rw [hdb];rfl
      have m2:((k+(j:Int)).tmod 3 == 0)=db:=by rw [t3];exact m1
      have hdd:(db != db)=false:=by simp
      rw [← hdb] at hc1
      clear hc hdb t3
      go_wp2
      go_round
      case rel=>exact ⟨j+1,by omega,by go_num,by congr 1;omega⟩
      case measure=>simp [intOf];omega
    · obtain rfl:j=n:=by omega
      clear hc
      go_wp2
      go_ret
      exact ⟨rfl,rfl⟩
 · obtain rfl:n=0:=by omega
   clear hc
   go_enter Tryz.func51,Tryz.ntmps51
   go_wp2
   go_loop [1,5] (fun q i=>q = .int .i64 k∧i = .int .i64 0) (fun _ _=>0)
   case atStart=>exact ⟨rfl,rfl⟩
   case round =>
    obtain ⟨rfl,rfl⟩:=hrel
    go_wp2
    go_ret
    exact ⟨ret_int (by simp),rfl⟩
theorem markBoolS_own (B n:Nat) (v:Value) (l:List Bool) (k:Int) (w:World) (h:w.ownsRow B 4 1 v n (l.map Value.bool)) (hl:l.length=n) (hn:n≤4000000) (hk0:0≤k) (hk1:k≤100000000) :
  Calls Tryz.prog 50 #[v,.int .i64 k] w fun e w'=>e = .returned (.int .i64 (k+n))∧w'.ownsRow B 4 1 v n ((marksO k n).map Value.bool)∧w.grownBy w' v.ownBlock:=by
 by_cases hv:v = .slice none 0 0
 · have h0:n=0:=by
    rcases h.2 with ⟨_,h1⟩ | ⟨g,cap,cur,h1,_⟩
    · exact h1
    · rw [hv] at h1;simp at h1
   subst h0;subst hv
   have HO:=Lib.hid (World.ownsRow_nil w B 4 1)
   clear h hl
   go_enter Tryz.func50,Tryz.ntmps50
   go_wp2
   go_loop [1,5] (fun q i=>q = .int .i64 k∧i = .int .i64 0) (fun _ _=>0)
   case atStart=>exact ⟨rfl,rfl⟩
   case round =>
    obtain ⟨rfl,rfl⟩:=hrel
    go_wp2
    go_ret
    exact ⟨ret_int (by simp),HO.out,World.grownBy.refl _ _⟩
 · obtain ⟨g,cap,rfl,_,_⟩:=Own.slice ⟨h,hv⟩
   exact (markBoolS_any B g n cap l k w ⟨h,hv⟩ hl hn hk0 hk1).mono fun e w' ⟨h1,h2,h3⟩=>⟨h1,h2.1,h3⟩
end Go.Proofs.YtpnjgmgmakmgeaaGreat
