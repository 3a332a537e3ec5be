/- Texts of ours that stand together: SpecSer2, ImplSer2 -/
import Derived.Test.YtpnjgmgmakmgeaaGreatSpecXb
import Derived.Test.YtpnjgmgmakmgeaaGreatSpecEff4
import Derived.Test.YtpnjgmgmakmgeaaGreatImplNum
import Derived.Test.YtpnjgmgmakmgeaaGreatFive
import Derived.Lib.BufferMore
/- The contracts of the model's DoneCount and EffectsSum. -/
namespace Go.Proofs.YtpnjgmgmakmgeaaGreat
open Go.RowKit
set_option linter.unusedVariables false
theorem infoIntX:(Tryz.prog.info? 3).map (fun i=>(i.zero,i.size,i.bytes))=some (some (.int .i64 0),1,8):=by kernel_rfl
def sumsV (L:List Eff) (k:Nat):List Value:=((L.take k).map effSumM).map (Value.int .i64)
theorem sumsV_next (L:List Eff) (k:Nat) (h:k < L.length):sumsV L k++[.int .i64 (effSumM (L.getD k noEff))]=sumsV L (k+1):=by
 unfold sumsV;rw [takeF_one L k h];simp
theorem sumsV_all (L:List Eff):sumsV L L.length=(L.map effSumM).map (Value.int .i64):=by unfold sumsV;rw [List.take_length]
set_option maxHeartbeats 4000000 in
theorem effectsSum_spec (a:Option Addr) (n cap:Nat) (L:List Eff) (w:World) (h:RowFs w a n L) (hs:∀ x∈L,x.rds.length+x.wrs.length≤1500000) (hn:n≤2000000) :
  Calls Tryz.prog 146 #[.slice a n cap] w (IntB (effsSumM L) w):=by
 obtain ⟨hl,-,hc⟩:=h
 have HN:=Lib.hid hl;clear hl
 have HSZ:Hid (∀ k,k < n→(L.getD k noEff).rds.length+(L.getD k noEff).wrs.length≤1500000):=Lib.hid (fun k hk=>hs _ (getD_memF L k (by rw [HN.out];exact hk)))
 have HNX:Hid (∀ k,k < n→sumsV L k++[.int .i64 (effSumM (L.getD k noEff))]=sumsV L (k+1)):=Lib.hid (fun k hk=>sumsV_next L k (by rw [HN.out];exact hk))
 have HWF:Hid (∀ x∈L.map effSumM,(Lit.int .i64 x).wf=true):=Lib.hid (fun x hx=>by
  obtain ⟨y,-,rfl⟩:=List.mem_map.1 hx
  rcases sumOfM_cases 3 (numsM y) with h1 | ⟨h1,h2,-⟩
  · exact WalkArith.wf_i64 (by unfold effSumM;omega)
  · exact WalkArith.wf_i64 (by unfold effSumM;omega))
 have HFIN:Hid (n≤10→sumOfM 4 (L.map effSumM)=effsSumM L):=Lib.hid (fun h=>by unfold effsSumM;rw [if_pos (by rw [HN.out];exact h)])
 have HBAD:Hid (¬ n≤10→effsSumM L = -1):=Lib.hid (fun h=>by unfold effsSumM;rw [if_neg (by rw [HN.out];exact h)])
 have hnil:Own (w.alloc (.cells #[] 3)) w.heap.size 3 1 (.slice (some ⟨w.heap.size,0,none⟩) 0 0) 0 []:=own_lit 3 1 #[] 0 (Nat.le_refl _) (by simp) rfl
 have hb0:=(Below.refl w.heap.size w).alloc (Nat.le_refl _) (.cells #[] 3)
 clear hs
 go_enter Tryz.func146,Tryz.ntmps146
 go_wp2_with fail
 go_loopw [3,4] (fun v i wr=>∃ k:Nat,k≤n∧i = .int .i64 k∧Own wr w.heap.size 3 1 v k (sumsV L k)∧Below w.heap.size w wr) (fun _ i _=>n - (intOf i).toNat)
 case atStart=>exact ⟨0,Nat.zero_le _,rfl,hnil,hb0⟩
 case round =>
  clear hnil hb0
  obtain ⟨k,hk,rfl,ho,hb⟩:=hrel
  by_cases hlt:k < n
  · obtain ⟨b,off,rfl,hcc⟩:=hc (by omega)
    obtain ⟨c1,⟨x,c2,hs⟩,y,c3,hs2⟩:=hcc k hlt
    have hbB:b < w.heap.size:=World.block_lt_of_cell? w ⟨b,off+k*3,none⟩ c1
    have hc1:=(hb.cell (p:=⟨b,off+k*3,none⟩) hbB).trans c1
    have hc2:=(hb.cell (p:=⟨b,off+k*3+1,none⟩) hbB).trans c2
    have hc3:=(hb.cell (p:=⟨b,off+k*3+2,none⟩) hbB).trans c3
    obtain ⟨a',n',cap',rfl,hre,-,-⟩:=hs
    obtain ⟨a2,n2,cap2,rfl,hre2,-,-⟩:=hs2
    have hsz:=HSZ.out k hlt
    have e1:=hre.1
    have e2:=hre2.1
    have hsz':n'+n2≤1500000:=by omega
    have HRE:=Lib.hid (show RowF wr a' n' a2 n2 (L.getD k noEff) from ⟨hre.below hb,hre2.below hb⟩)
    have HNK:=Lib.hid (HNX.out k hlt)
    clear hc hcc c1 c2 c3 hre hre2 hsz e1 e2
    obtain ⟨z,hz⟩:∃ z,z=L.getD k noEff:=⟨_,rfl⟩
    rw [← hz] at hc1 HRE HNK
    clear hz
    go_wp2_with fail
    refine (effectSum_spec a' n' cap' a2 n2 cap2 z _ HRE.out hsz').mono ?_;rintro e w2 ⟨rfl,hb2⟩
    have ho2:=ho.below hb2
    have hb3:=hb.trans (hb2.mono hb.size)
    have hs3:=hb3.size
    obtain ⟨q,hq⟩:∃ q,q=effSumM z:=⟨_,rfl⟩
    rw [← hq] at HNK ⊢
    clear ho hb hb2 hq
    go_wp2_with (at_builtin;refine wpList_append_one rfl _ _ 25 rfl w.heap.size 3 _ (.int .i64 0) 1 8 Tryz.underlying25 infoIntX rfl (by decide) _ _ _ [.int .i64 q] (by rfl) ho2 (by rfl) rfl ?c1 ?c2 (by decide) ?c3 ?_)
    case c1=>intro u hu;simp at hu;subst hu;rfl
    case c2=>omega
    case c3=>exact hs3
    intro v3 w3 ho3 hg3
    rw [HNK.out] at ho3
    have HO:=Lib.hid ho3
    have HB:=Lib.hid ((hb3.alloc hs3 _).grown hg3 (by simp;omega) (fun p hp=>(ho2.1.lt p hp).1))
    clear ho2 ho3 hg3 hb3
    go_wp2
    go_roundw
    case rel=>exact ⟨k+1,by omega,by go_num,HO.out,HB.out⟩
    case measure=>simp [intOf];omega
  · obtain rfl:k=n:=by omega
    have e:sumsV L k=(L.map effSumM).map (Value.int .i64):=by rw [← HN.out];exact sumsV_all L
    rw [e] at ho
    clear hc e
    by_cases h10:k≤10
    · have h10':¬ (10:Int) < (k:Int):=by omega
      have HF:=Lib.hid (HFIN.out h10)
      obtain ⟨a3,c3,rfl,hri⟩:=rowI_of_owns ho.1 (by unfold maxLen;omega) HWF.out
      clear ho
      go_wp2_with fail
      refine (sumOf_spec 4 _ k c3 (L.map effSumM) _ hri).mono ?_;rintro e w' ⟨rfl,rfl⟩
      rw [HF.out]
      go_wp2
      go_ret
      exact ⟨rfl,hb⟩
    · have h10':(10:Int) < (k:Int):=by omega
      have HF:=Lib.hid (HBAD.out h10)
      clear ho
      go_wp2
      go_ret
      exact ⟨by rw [HF.out];rfl,hb⟩
end Go.Proofs.YtpnjgmgmakmgeaaGreat
