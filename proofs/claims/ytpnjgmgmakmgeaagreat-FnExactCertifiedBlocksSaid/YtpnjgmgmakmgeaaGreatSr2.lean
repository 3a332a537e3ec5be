/- Texts of ours that stand together: SpecSer2, ImplSer2 -/
import Derived.Test.YtpnjgmgmakmgeaaGreatSpecXb
import Derived.Test.YtpnjgmgmakmgeaaGreatSpecEff4
import Derived.Test.YtpnjgmgmakmgeaaGreatImplNum
import Derived.Test.YtpnjgmgmakmgeaaGreatFive
import Derived.Lib.BufferMore
/- The contracts of the model's DoneCount and EffectsSum. -/
namespace Go.Proofs.YtpnjgmgmakmgeaaGreat
open Go.RowKit
set_option linter.unusedVariables false
theorem infoIntX:(Tryz.prog.info? 3).map (fun i=>(i.zero,i.size,i.bytes))=some (some (.int .i64 0),1,8):=by kernel_rfl
def sumsV (L:List Eff) (k:Nat):List Value:=((L.take k).map effSumM).map (Value.int .i64)
theorem sumsV_next (L:List Eff) (k:Nat) (h:k < L.length):sumsV L k++[.int .i64 (effSumM (L.getD k noEff))]=sumsV L (k+1):=by
 unfold sumsV;rw [takeF_one L k h];simp
theorem sumsV_all (L:List Eff):sumsV L L.length=(L.map effSumM).map (Value.int .i64):=by unfold sumsV;rw [List.take_length]
set_option maxHeartbeats 4000000 in
theorem effectsSum_spec (a:Option Addr) (n cap:Nat) (L:List Eff) (w:World) (h:RowFs w a n L) (hs:∀ x∈L,x.rds.length+x.wrs.length≤1500000) (hn:n≤2000000) :
  Calls Tryz.prog 146 #[.slice a n cap] w (IntB (effsSumM L) w):=by
 obtain ⟨hl,-,hc⟩:=h
 have HN:=Lib.hid hl;clear hl
 have HSZ:Hid (∀ k,k < n→(L.getD k noEff).rds.length+(L.getD k noEff).wrs.length≤1500000):=Lib.hid (fun k hk=>hs _ (getD_memF L k (by rw [HN.out];exact hk)))
 have HNX:Hid (∀ k,k < n→sumsV L k++[.int .i64 (effSumM (L.getD k noEff))]=sumsV L (k+1)):=Lib.hid (fun k hk=>sumsV_next L k (by rw [HN.out];exact hk))
 have HWF:Hid (∀ x∈L.map effSumM,(Lit.int .i64 x).wf=true):=Lib.hid (fun x hx=>by
  obtain ⟨y,-,rfl⟩:=List.mem_map.1 hx
  rcases sumOfM_cases 3 (numsM y) with h1 | ⟨h1,h2,-⟩
  · exact WalkArith.wf_i64 (by unfold effSumM;omega)
  · exact WalkArith.wf_i64 (by unfold effSumM;omega))
 have HFIN:Hid (n≤10→sumOfM 4 (L.map effSumM)=effsSumM L):=Lib.hid (fun h=>by unfold effsSumM;rw [if_pos (by rw [HN.out];exact h)])
 have HBAD:Hid (¬ n≤10→effsSumM L = -1):=Lib.hid (fun h=>by unfold effsSumM;rw [if_neg (by rw [HN.out];exact h)])
 have hnil:Own (w.alloc (.cells #[] 3)) w.heap.size 3 1 (.slice (some ⟨w.heap.size,0,none⟩) 0 0) 0 []:=own_lit 3 1 #[] 0 (Nat.le_refl _) (by simp) rfl
 have hb0:=(Below.refl w.heap.size w).alloc (Nat.le_refl _) (.cells #[] 3)
 clear hs
 go_enter Tryz.func146,Tryz.ntmps146
 go_wp2_with fail
 go_loopw [3,4] (fun v i wr=>∃ k:Nat,k≤n∧i = .int .i64 k∧Own wr w.heap.size 3 1 v k (sumsV L k)∧Below w.heap.size w wr) (fun _ i _=>n - (intOf i).toNat)
 case atStart=>exact ⟨0,Nat.zero_le _,rfl,hnil,hb0⟩
 case round =>
  clear hnil hb0
  obtain ⟨k,hk,rfl,ho,hb⟩:=hrel
  by_cases hlt:k < n
  · obtain ⟨b,off,rfl,hcc⟩:=hc (by omega)
    obtain ⟨c1,⟨x,c2,hs⟩,y,c3,hs2⟩:=hcc k hlt
    have hbB:b < w.heap.size:=World.block_lt_of_cell? w ⟨b,off+k*3,none⟩ c1
    have hc1:=(hb.cell (p:=⟨b,off+k*3,none⟩) hbB).trans c1
    have hc2:=(hb.cell (p:=⟨b,off+k*3+1,none⟩) hbB).trans c2
    have hc3:=(hb.cell (p:=⟨b,off+k*3+2,none⟩) hbB).trans c3
    obtain ⟨a',n',cap',rfl,hre,-,-⟩:=hs
    obtain ⟨a2,n2,cap2,rfl,hre2,-,-⟩:=hs2
    have hsz:=HSZ.out k hlt
    have e1:=hre.1
    have e2:=hre2.1
    have hsz':n'+n2≤1500000:=by omega
    have HRE:=Lib.hid (show RowF wr a' n' a2 n2 (L.getD k noEff) from ⟨hre.below hb,hre2.below hb⟩)
    have HNK:=Lib.hid (HNX.out k hlt)
    clear hc hcc c1 c2 c3 hre hre2 hsz e1 e2
    obtain ⟨z,hz⟩:∃ z,z=L.getD k noEff:=⟨_,rfl⟩
    rw [← hz] at hc1 HRE HNK
    clear hz
    go_wp2_with fail
    refine (effectSum_spec a' n' cap' a2 n2 cap2 z _ HRE.out hsz').mono ?_;rintro e w2 ⟨rfl,hb2⟩
    have ho2:=ho.below hb2
    have hb3:=hb.trans (hb2.mono hb.size)
    have hs3:=hb3.size
    obtain ⟨q,hq⟩:∃ q,q=effSumM z:=⟨_,rfl⟩
    rw [← hq] at HNK ⊢
    clear ho hb hb2 hq
    go_wp2_with (at_builtin;refine wpList_append_one rfl _ _ 25 rfl w.heap.size 3 _ (.int .i64 0) 1 8 Tryz.underlying25 infoIntX rfl (by decide) _ _ _ [.int .i64 q] (by rfl) ho2 (by rfl) rfl ?c1 ?c2 (by decide) ?c3 ?_)
    case c1=>intro u hu;simp at hu;subst hu;rfl
    case c2=>omega
    case c3=>exact hs3
    intro v3 w3 ho3 hg3
    rw [HNK.out] at ho3
    have HO:=Lib.hid ho3
    have HB:=Lib.hid ((hb3.alloc hs3 _).grown hg3 (by simp;omega) (fun p hp=>(ho2.1.lt p hp).1))
    clear ho2 ho3 hg3 hb3
    go_wp2
    go_roundw
    case rel=>exact ⟨k+1,by omega,by go_num,HO.out,HB.out⟩
    case measure=>simp [intOf];omega
  · obtain rfl:k=n:=by omega
    have e:sumsV L k=(L.map effSumM).map (Value.int .i64):=by rw [← HN.out];exact sumsV_all L
    rw [e] at ho
    clear hc e
    by_cases h10:k≤10
    · have h10':¬ (10:Int) < (k:Int):=by omega
      have HF:=Lib.hid (HFIN.out h10)
      obtain ⟨a3,c3,rfl,hri⟩:=rowI_of_owns ho.1 (by unfold maxLen;omega) HWF.out
      clear ho
      go_wp2_with fail
      refine (sumOf_spec 4 _ k c3 (L.map effSumM) _ hri).mono ?_;rintro e w' ⟨rfl,rfl⟩
      rw [HF.out]
      go_wp2
      go_ret
      exact ⟨rfl,hb⟩
    · have h10':(10:Int) < (k:Int):=by omega
      have HF:=Lib.hid (HBAD.out h10)
      clear ho
      go_wp2
      go_ret
      exact ⟨by rw [HF.out];rfl,hb⟩
set_option maxHeartbeats 4000000 in
theorem effectsSum_impl (a:Option Addr) (n cap:Nat) (L:List Eff) (w:World) (h:RowFs w a n L) (hs:∀ x∈L,x.rds.length+x.wrs.length≤1500000) (hn:n≤2000000) :
  Calls Tryz.prog 186 #[.slice a n cap] w (IntB (effsSumM L) w):=by
 obtain ⟨hl,-,hc⟩:=h
 have HN:=Lib.hid hl;clear hl
 by_cases h10:n≤10
 · have h10':¬ (10:Int) < (n:Int):=by omega
   have HSZ:Hid (∀ k,k < n→(L.getD k noEff).rds.length+(L.getD k noEff).wrs.length≤1500000):=Lib.hid (fun k hk=>hs _ (getD_memF L k (by rw [HN.out];exact hk)))
   obtain ⟨l,hll⟩:∃ l,l=L.map effSumM:=⟨_,rfl⟩
   have HML:Hid (l.length=n):=Lib.hid (by rw [hll,List.length_map];exact HN.out)
   have HGE:Hid (∀ k,k < n→l.getD k 0=effSumM (L.getD k noEff)):=Lib.hid (fun k hk=>by
    rw [hll,List.getD_eq_getElem?_getD,List.getD_eq_getElem?_getD,List.getElem?_map,List.getElem?_eq_getElem (by rw [HN.out];exact hk)];rfl)
   have HWF:Hid (∀ x∈l,(Lit.int .i64 x).wf=true):=Lib.hid (fun x hx=>by
    rw [hll] at hx
    obtain ⟨y,-,rfl⟩:=List.mem_map.1 hx
    rcases sumOfM_cases 3 (numsM y) with h1 | ⟨h1,h2,-⟩
    · exact WalkArith.wf_i64 (by unfold effSumM;omega)
    · exact WalkArith.wf_i64 (by unfold effSumM;omega))
   have HFIN:Hid (sumOfM 4 l=effsSumM L):=Lib.hid (by unfold effsSumM;rw [hll,if_pos (by rw [HN.out];exact h10)])
   clear hs hll
   obtain ⟨i0,hi,hz0,hz1,hz2⟩:=info_parts infoIntX
   go_enter Tryz.func186,Tryz.ntmps186
   go_wp2_with (first | (at_make;refine wpList_make_full _ rfl (.tmp 10) (.tmp 10) 25 rfl w.heap.size 3 i0 (.int .i64 0) 1 Tryz.underlying25 hi hz0 hz1 .i64 .i64 n n n rfl rfl rfl rfl (by rw [hz2];omega) (by unfold maxLen;omega) (Nat.le_refl _) ?_;intro w1 hown hgrow;clear hi hz0 hz1 hz2))
   have hcells:(madeCells (Value.int .i64 0).cells (n*1)).toList=(fillI l 0).map (Value.int .i64):=by
    rw [fillI_zero,HML.out,Nat.mul_one];exact (toList_madeCells_one _ _).trans (by simp)
   rw [hcells] at hown;clear hcells
   have hb1:Below w.heap.size w w1:=(Below.refl _ _).grown hgrow (Nat.le_refl _) (fun k hk=>by simp at hk)
   clear hgrow
   by_cases h0:0 < n
   · obtain ⟨b,off,rfl,hcc⟩:=hc h0;clear hc;have hc:=hcc;clear hcc
     have hbB:b < w.heap.size:=World.block_lt_of_cell? w ⟨b,off+0*3,none⟩ (hc 0 h0).1
     go_loopw [14] (fun i wr=>∃ k:Nat,k≤n∧i = .int .i64 k∧wr.ownsRow w.heap.size 3 1 (.slice (some ⟨w.heap.size,0,none⟩) n n) n ((fillI l k).map (Value.int .i64))∧Below w.heap.size w wr) (fun i _=>n - (intOf i).toNat)
     case atStart=>exact ⟨0,Nat.zero_le _,rfl,hown,hb1⟩
     case round =>
      clear hown hb1
      obtain ⟨k,hk,rfl,hown,hb⟩:=hrel
      by_cases hlt:k < n
      · obtain ⟨c1,⟨x,c2,hs⟩,y,c3,hs2⟩:=hc k hlt
        have hc1:=(hb.cell (p:=⟨b,off+k*3,none⟩) hbB).trans c1
        have hc2:=(hb.cell (p:=⟨b,off+k*3+1,none⟩) hbB).trans c2
        have hc3:=(hb.cell (p:=⟨b,off+k*3+2,none⟩) hbB).trans c3
        obtain ⟨a',n',cap',rfl,hre,z1,-⟩:=hs
        obtain ⟨a2,n2,cap2,rfl,hre2,z2,-⟩:=hs2
        have HZ1:=Lib.hid z1
        have HZ2:=Lib.hid z2
        clear z1 z2
        have hsz:=HSZ.out k hlt
        have e1:=hre.1
        have e2:=hre2.1
        have hsz':n'+n2≤1500000:=by omega
        obtain ⟨z,hz⟩:∃ z,z=L.getD k noEff:=⟨_,rfl⟩
        have hq:l.getD k 0=effSumM z:=by rw [hz];exact HGE.out k hlt
        have hb2:=hb.alloc hb.size (.cells #[.bool z.done,.slice a' n' cap',.slice a2 n2 cap2] 178)
        have hbq:=(Below.refl wr.heap.size wr).alloc (Nat.le_refl _) (.cells #[.bool z.done,.slice a' n' cap',.slice a2 n2 cap2] 178)
        have ho2:=owns_below hown hbq
        have hrf:RowF wr a' n' a2 n2 (L.getD k noEff):=⟨hre.below hb,hre2.below hb⟩
        rw [← hz] at hc1 hrf
        have HRE:=Lib.hid (hrf.below hbq)
        have HFS:=Lib.hid (fillI_set l k (by rw [HML.out];exact hlt))
        have hfl:=fillI_len l k (by rw [HML.out];exact hk)
        clear hc c1 c2 c3 hre hre2 hsz e1 e2 hz hown hb hbq hrf
        go_wp2_with fail
        refine (effectSum_impl a' n' cap' a2 n2 cap2 z _ HRE.out HZ1.out HZ2.out hsz').mono ?_;rintro e w2 ⟨rfl,hb3⟩
        have ho3:=owns_below ho2 hb3
        have hb4:=hb2.trans (hb3.mono hb2.size)
        have hst:=(ho3.stored k (.int .i64 (l.getD k 0))).1
        have hsb:=hb4.setCell (p:=⟨w.heap.size,k,none⟩) (Nat.le_refl _) (.int .i64 (l.getD k 0))
        rw [← List.map_set,HFS.out,hq] at hst
        rw [hq] at hsb
        have HST:=Lib.hid hst
        have HSB:=Lib.hid hsb
        have hfr:=ho3.frozenAt k
        have hce:=ho3.cellAt k (by omega)
        rw [List.getElem?_map,List.getElem?_eq_getElem (by rw [hfl,HML.out];exact hlt)] at hce
        simp only [Option.map_some] at hce
        obtain ⟨q,hq'⟩:∃ q,q=effSumM z:=⟨_,rfl⟩
        rw [← hq'] at HST HSB ⊢
        obtain ⟨q2,hq2⟩:∃ q2,q2=(fillI l k)[k]'(by rw [hfl,HML.out];exact hlt):=⟨_,rfl⟩
        rw [← hq2] at hce
        clear ho2 hb2 ho3 hb3 hb4 hst hsb hq hq' hq2 hfl hc1 hc2 hc3
        go_wp2
        go_roundw
        case rel=>exact ⟨k+1,by omega,by go_num,HST.out,HSB.out⟩
        case measure=>simp [intOf];omega
      · obtain rfl:k=n:=by omega
        have e:fillI l k=l:=by rw [← HML.out];exact fillI_all l
        rw [e] at hown
        clear hc e
        obtain ⟨a3,c3,hv,hri⟩:=rowI_of_owns hown (by unfold maxLen;omega) HWF.out
        simp only [Value.slice.injEq] at hv
        obtain ⟨rfl,-,rfl⟩:=hv
        clear hown
        go_wp2_with fail
        refine (sumOf_impl 4 _ k k l _ hri).mono ?_;rintro e w' ⟨rfl,rfl⟩
        rw [HFIN.out]
        go_wp2
        go_ret
        exact ⟨rfl,hb⟩
   · obtain rfl:n=0:=by omega
     have hl0:l=[]:=List.eq_nil_of_length_eq_zero HML.out
     obtain ⟨a3,c3,hv,hri⟩:=rowI_of_owns hown (by unfold maxLen;omega) (by rw [hl0];simp [fillI])
     rw [show fillI l 0=l by rw [hl0];rfl] at hri
     simp only [Value.slice.injEq] at hv
     obtain ⟨rfl,-,rfl⟩:=hv
     clear hc hown hl0
     go_loopw [14] (fun i wr=>i = .int .i64 0∧wr=w1) (fun _ _=>0)
     case atStart=>exact ⟨rfl,rfl⟩
     case round =>
      obtain ⟨rfl,rfl⟩:=hrel
      go_wp2_with fail
      refine (sumOf_impl 4 _ 0 0 l _ hri).mono ?_;rintro e w' ⟨rfl,rfl⟩
      rw [HFIN.out]
      go_wp2
      go_ret
      exact ⟨rfl,hb1⟩
 · have h10':(10:Int) < (n:Int):=by omega
   have HF:Hid (effsSumM L = -1):=Lib.hid (by unfold effsSumM;rw [if_neg (by rw [HN.out];exact h10)])
   clear hc hs
   go_enter Tryz.func186,Tryz.ntmps186
   go_wp2
   go_ret
   exact ⟨by rw [HF.out];rfl,Below.refl _ _⟩
end Go.Proofs.YtpnjgmgmakmgeaaGreat
