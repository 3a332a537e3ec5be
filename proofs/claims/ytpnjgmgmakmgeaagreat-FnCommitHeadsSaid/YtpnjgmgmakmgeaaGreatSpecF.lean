/- Texts of ours that stand together: SpecLay, SpecLay2, SpecLay3, SpecLay4, SpecLay5 -/
import Derived.Test.YtpnjgmgmakmgeaaGreatSpecS
import Derived.Test.YtpnjgmgmakmgeaaGreatLay
import Derived.Deep.RegionLaw
/- The contracts of the model's l4Writes,LayersValid,l4Find,l4Read,LayerRead,LayerStore. -/
namespace Go.Proofs.YtpnjgmgmakmgeaaGreat
open Go.RowKit
set_option linter.unusedVariables false
set_option maxHeartbeats 1000000 in
theorem l4Writes_spec (a:Option Addr) (n cap:Nat) (l:List Ent) (w:World) (h:RowE w a n l) :
  Calls Tryz.prog 183 #[.slice a n cap] w (BoolQ (writesB l) w):=by
 obtain ⟨hl,hm,hc,-⟩:=h
 unfold maxLen at hm
 have HL:=Lib.hid hl;clear hl
 by_cases h0:0 < n
 · obtain ⟨b,off,rfl,hcc⟩:=hc h0;clear hc;have hc:=hcc;clear hcc
   go_enter Tryz.func183,Tryz.ntmps183
   go_wp2
   go_loopw [3] (fun i wr=>∃ k:Nat,k≤n∧i = .int .i64 k∧WrTo l k∧Drawn w wr) (fun i _=>n - (intOf i).toNat)
   case atStart=>exact ⟨0,Nat.zero_le _,rfl,fun j hj=>absurd hj (Nat.not_lt_zero j),Drawn.refl _⟩
   case round =>
    obtain ⟨k,hk,rfl,hok,hd⟩:=hrel
    have HOK:=Lib.hid hok;clear hok
    by_cases hlt:k < n
    · have hc1:=(hd.cell _).trans (hc k hlt).1
      have hc2:=(hd.cell _).trans (hc k hlt).2
      have hcp:0 < k→wr.cell? ⟨b,off+(k - 1)*2,none⟩=some (.int .i64 (l.getD (k - 1) (0,0)).1):=fun _=>(hd.cell _).trans (hc (k - 1) (by omega)).1
      have HE:Hid (wrAt l k=(inB (l.getD k (0,0)).1 0 31 && inB (l.getD k (0,0)).2 0 1000000 && (k == 0 || decide ((l.getD (k - 1) (0,0)).1 < (l.getD k (0,0)).1)))):=Lib.hid rfl
      have HB:=Lib.hid (writesB_bad l k (by rw [HL.out];exact hlt))
      clear hc
      obtain ⟨x,hx⟩:∃ x,x=(l.getD k (0,0)).1:=⟨_,rfl⟩
      obtain ⟨y,hy⟩:∃ y,y=(l.getD k (0,0)).2:=⟨_,rfl⟩
      obtain ⟨z,hz⟩:∃ z,z=(l.getD (k - 1) (0,0)).1:=⟨_,rfl⟩
      rw [← hx] at hc1
      rw [← hy] at hc2
      rw [← hx,← hy] at HE
      rw [← hz] at hcp HE
      clear hx hy hz
      cases e1:inB x 0 31 with
      | false =>
       have HF:=Lib.hid (HB.out (by rw [HE.out,e1];rfl))
       clear HE HB hcp hc2
       go_wp2
       go_quiet ((go_at_call 84;exact Calls.quiet_of_same (l1In_spec _ _ _ _)))
       go_wp2
       go_ret
       exact ⟨by rw [HF.out];rfl,hd.drewN _⟩
      | true =>
       cases e2:inB y 0 1000000 with
       | false =>
        have HF:=Lib.hid (HB.out (by rw [HE.out,e1,e2];rfl))
        clear HE HB hcp
        go_wp2
        go_quiet ((go_at_call 84;exact Calls.quiet_of_same (l1In_spec _ _ _ _)))
        go_wp2
        go_ret
        exact ⟨by rw [HF.out];rfl,hd.drewN _⟩
       | true =>
        by_cases hk0:0 < k
        · have hcp:=hcp hk0
          have hk1:(k == 0)=false:=by simp;omega
          have ek:IntKind.i64.wrap ((k:Int) - 1)=((k - 1:Nat):Int):=by rw [IntWalk.i64_in _ (by omega)];omega
          have hkz:decide ((0:Int) < (k:Int))=true:=by simp;omega
          by_cases hle:x≤z
          · have hle':decide (x≤z)=true:=by simpa using hle
            have HF:=Lib.hid (HB.out (by rw [HE.out,e1,e2,hk1];simp;omega))
            clear HE HB hk1 hle
            go_wp2
            go_quiet ((go_at_call 84;exact Calls.quiet_of_same (l1In_spec _ _ _ _)))
            go_wp2
            go_ret
            exact ⟨by rw [HF.out];rfl,hd.drewN _⟩
          · have hle':decide (x≤z)=false:=by simpa using hle
            have HF:=Lib.hid (HOK.out.next (by rw [HE.out,e1,e2,hk1];simp;omega))
            clear HE HB hk1 hle
            go_wp2
            go_quiet ((go_at_call 84;exact Calls.quiet_of_same (l1In_spec _ _ _ _)))
            go_wp2
            go_roundw
            case rel=>exact ⟨k+1,by omega,by go_num,HF.out,hd.drewN _⟩
            case measure=>simp [intOf];omega
        · obtain rfl:k=0:=by omega
          have HF:=Lib.hid (HOK.out.next (by rw [HE.out,e1,e2];rfl))
          clear HE HB hcp
          simp only [Nat.zero_mul,Nat.add_zero] at hc1 hc2
          go_wp2
          go_quiet ((go_at_call 84;exact Calls.quiet_of_same (l1In_spec _ _ _ _)))
          go_wp2
          go_roundw
          case rel=>exact ⟨1,by omega,by go_num,HF.out,hd.drewN _⟩
          case measure=>simp [intOf];omega
    · have hs:writesB l=true:=(writesB_iff l).2 (fun j hj=>HOK.out j (by rw [HL.out] at hj;omega))
      have HF:=Lib.hid hs
      clear hc hs
      go_wp2
      go_ret
      exact ⟨by rw [HF.out];rfl,hd⟩
 · obtain rfl:n=0:=by omega
   obtain rfl:l=[]:=List.eq_nil_of_length_eq_zero HL.out
   clear hc
   go_enter Tryz.func183,Tryz.ntmps183
   go_wp2
   go_loop [3] (fun i=>i = .int .i64 0) (fun _=>0)
   case atStart=>rfl
   case round =>
    subst hrel
    go_wp2
    go_ret
    exact ⟨rfl,Drawn.refl _⟩
set_option maxHeartbeats 2000000 in
theorem l4Put_raw (a:Option Addr) (n cap:Nat) (l:List Ent) (key val:Int) (w:World) (h:RowE w a n l) (hn:n≤1000) (hk:(Lit.int .i64 key).wf=true) (hv:(Lit.int .i64 val).wf=true) :
  Calls Tryz.prog 189 #[.slice a n cap,.int .i64 key,.int .i64 val] w (NewE w 142 (pwRaw key val l)):=by
 have hbd:=fun k hk=>h.bd k hk
 have HW:=Lib.hid h.2.2.2
 obtain ⟨hl,hm,hc,-⟩:=h
 unfold maxLen at hm
 have HL:=Lib.hid hl;clear hl
 have HK:=Lib.hid hk;clear hk
 have HV:=Lib.hid hv;clear hv
 have hnil:Own (w.alloc (.cells #[] 142)) w.heap.size 142 2 (.slice (some ⟨w.heap.size,0,none⟩) 0 0) 0 []:=own_lit 142 2 #[] 0 (Nat.le_refl _) (by simp) rfl
 have hb0:=(Below.refl w.heap.size w).alloc (Nat.le_refl _) (.cells #[] 142)
 by_cases h0:0 < n
 · obtain ⟨b,off,rfl,hcc⟩:=hc h0;clear hc;have hc:=hcc;clear hcc
   have hbB:b < w.heap.size:=World.block_lt_of_cell? w ⟨b,off+0*2,none⟩ (hc 0 h0).1
   go_enter Tryz.func189,Tryz.ntmps189
   go_wp2
   go_loopw [7,8,9] (fun v p i wr=>∃ k:Nat,k≤n∧i = .int .i64 k∧p = .bool (pwFold key val (l.take k)).2∧Own wr w.heap.size 142 2 v (pwFold key val (l.take k)).1.length (flatE (pwFold key val (l.take k)).1)∧WfE (pwFold key val (l.take k)).1∧Below w.heap.size w wr) (fun _ _ i _=>n - (intOf i).toNat)
   case atStart=>exact ⟨0,Nat.zero_le _,rfl,rfl,hnil,fun e he=>by simp [pwFold] at he,hb0⟩
   case round =>
    obtain ⟨k,hk,rfl,rfl,hown,hwf,hb⟩:=hrel
    clear hnil hb0
    have hlen:=pwFold_len key val (l.take k)
    have htl:(l.take k).length≤k:=List.length_take_le _ _
    obtain ⟨st,hst⟩:∃ st,st=pwFold key val (l.take k):=⟨_,rfl⟩
    rw [← hst] at hown hwf hlen ⊢
    by_cases hlt:k < n
    · have hc1:=(hb.cell (p:=⟨b,off+k*2,none⟩) hbB).trans (hc k hlt).1
      have hc2:=(hb.cell (p:=⟨b,off+k*2+1,none⟩) hbB).trans (hc k hlt).2
      have hwe:=HW.out _ (getD_memE l k (by rw [HL.out];exact hlt))
      have HT:Hid (pwFold key val (l.take (k+1))=putStep key val st (l.getD k (0,0))):=by
       rw [hst,takeE_snoc l k (by rw [HL.out];exact hlt),pwFold_snoc];exact Lib.hid rfl
      clear hc hbd hst
      obtain ⟨x,hx⟩:∃ x,x=(l.getD k (0,0)).1:=⟨_,rfl⟩
      obtain ⟨y,hy⟩:∃ y,y=(l.getD k (0,0)).2:=⟨_,rfl⟩
      have HXY:Hid (l.getD k (0,0)=(x,y)):=by rw [hx,hy];exact Lib.hid rfl
      rw [← hx] at hc1 hwe
      rw [← hy] at hc2 hwe
      clear hx hy
      obtain ⟨out,pl⟩:=st
      have HWE:=Lib.hid hwe;clear hwe
      have HWF:=Lib.hid hwf;clear hwf
      simp only at hown hlen HWF ⊢
      have hlen2:out.length≤2*k:=by omega
      clear hlen htl
      cases pl with
      | true =>
       by_cases he:x=key
       · have HS:Hid (pwFold key val (l.take (k+1))=(out,true)):=by rw [HT.out,HXY.out];exact Lib.hid (by simp [putStep,he])
         have hne:(x != key)=false:=by simpa using he
         clear he HT HXY
         go_wp2
         go_roundw
         case rel=>exact ⟨k+1,by omega,by go_num,by rw [HS.out],by rw [HS.out];exact hown,by rw [HS.out];exact HWF.out,hb⟩
         case measure=>simp [intOf];omega
       · have HS:Hid (pwFold key val (l.take (k+1))=(out++[(x,y)],true)):=by rw [HT.out,HXY.out];exact Lib.hid (by simp [putStep,he])
         have hne:(x != key)=true:=by simpa using he
         clear he HT HXY
         go_wp2_with (at_builtin;refine wpList_append_one rfl _ _ 23 rfl w.heap.size 142 _ (.agg #[.int .i64 0,.int .i64 0]) 2 16 Tryz.underlying23 infoEnt rfl (by decide) _ _ _ [.int .i64 x,.int .i64 y] (by rfl) hown (by rfl) rfl ?c11 ?c21 (by decide) ?c31 ?_)
         case c11=>intro u hu;simp at hu;rcases hu with rfl | rfl <;> rfl
         case c21=>omega
         case c31=>exact hb.size
         intro v1 w1 ho1' hg1
         have ho1:Own w1 w.heap.size 142 2 v1 (out++[(x,y)]).length (flatE (out++[(x,y)])):=by rw [flatE_append,List.length_append];exact ho1'
         have hb1:Below w.heap.size w w1:=(hb.alloc hb.size _).grown hg1 (by have:=hb.size;simp;omega) (fun k hk=>(hown.1.lt k hk).1)
         clear hg1 ho1'
         go_wp2
         go_roundw
         case rel=>exact ⟨k+1,by omega,by go_num,by rw [HS.out],by rw [HS.out];exact ho1,by rw [HS.out];exact HWF.out.snoc HWE.out.1 HWE.out.2,hb1⟩
         case measure=>simp [intOf];omega
      | false =>
       by_cases hle:key≤x
       · have hle':decide (key≤x)=true:=by simpa using hle
         by_cases he:x=key
         · have HS:Hid (pwFold key val (l.take (k+1))=(out++[(key,val)],true)):=by rw [HT.out,HXY.out];exact Lib.hid (by simp [putStep,he])
           have hne:(x != key)=false:=by simpa using he
           clear he HT HXY hle
           go_wp2_with (at_builtin;refine wpList_append_one rfl _ _ 23 rfl w.heap.size 142 _ (.agg #[.int .i64 0,.int .i64 0]) 2 16 Tryz.underlying23 infoEnt rfl (by decide) _ _ _ [.int .i64 key,.int .i64 val] (by rfl) hown (by rfl) rfl ?c11 ?c21 (by decide) ?c31 ?_)
           case c11=>intro u hu;simp at hu;rcases hu with rfl | rfl <;> rfl
           case c21=>omega
           case c31=>exact hb.size
           intro v1 w1 ho1' hg1
           have ho1:Own w1 w.heap.size 142 2 v1 (out++[(key,val)]).length (flatE (out++[(key,val)])):=by rw [flatE_append,List.length_append];exact ho1'
           have hb1:Below w.heap.size w w1:=(hb.alloc hb.size _).grown hg1 (by have:=hb.size;simp;omega) (fun k hk=>(hown.1.lt k hk).1)
           clear hg1 ho1'
           have hc1':=(bcell hb1).1 b (off+k*2) hbB
           have hc1b:=(hb.cell (p:=⟨b,off+k*2,none⟩) hbB).symm.trans hc1
           rw [hc1b] at hc1'
           clear hc1b hc1 hc2
           go_wp2
           go_roundw
           case rel=>exact ⟨k+1,by omega,by go_num,by rw [HS.out],by rw [HS.out];exact ho1,by rw [HS.out];exact HWF.out.snoc HK.out HV.out,hb1⟩
           case measure=>simp [intOf];omega
         · have HS:Hid (pwFold key val (l.take (k+1))=(out++[(key,val)]++[(x,y)],true)):=by rw [HT.out,HXY.out];exact Lib.hid (by simp [putStep,he,hle])
           have hne:(x != key)=true:=by simpa using he
           clear he HT HXY hle
           go_wp2_with (at_builtin;refine wpList_append_one rfl _ _ 23 rfl w.heap.size 142 _ (.agg #[.int .i64 0,.int .i64 0]) 2 16 Tryz.underlying23 infoEnt rfl (by decide) _ _ _ [.int .i64 key,.int .i64 val] (by rfl) hown (by rfl) rfl ?c11 ?c21 (by decide) ?c31 ?_)
           case c11=>intro u hu;simp at hu;rcases hu with rfl | rfl <;> rfl
           case c21=>omega
           case c31=>exact hb.size
           intro v1 w1 ho1' hg1
           have ho1:Own w1 w.heap.size 142 2 v1 (out++[(key,val)]).length (flatE (out++[(key,val)])):=by rw [flatE_append,List.length_append];exact ho1'
           have hb1:Below w.heap.size w w1:=(hb.alloc hb.size _).grown hg1 (by have:=hb.size;simp;omega) (fun k hk=>(hown.1.lt k hk).1)
           clear hg1 ho1'
           have hc1':=(bcell hb1).1 b (off+k*2) hbB
           have hc2':=(bcell hb1).1 b (off+k*2+1) hbB
           rw [(hb.cell (p:=⟨b,off+k*2,none⟩) hbB).symm.trans hc1] at hc1'
           rw [(hb.cell (p:=⟨b,off+k*2+1,none⟩) hbB).symm.trans hc2] at hc2'
           have hl1:(out++[(key,val)]).length=out.length+1:=by simp
           clear hc1 hc2
           go_wp2_with (at_builtin;refine wpList_append_one rfl _ _ 23 rfl w.heap.size 142 _ (.agg #[.int .i64 0,.int .i64 0]) 2 16 Tryz.underlying23 infoEnt rfl (by decide) _ _ _ [.int .i64 x,.int .i64 y] (by rfl) ho1 (by rfl) rfl ?c12 ?c22 (by decide) ?c32 ?_)
           case c12=>intro u hu;simp at hu;rcases hu with rfl | rfl <;> rfl
           case c22=>omega
           case c32=>exact hb1.size
           intro v2 w2 ho2' hg2
           have ho2:Own w2 w.heap.size 142 2 v2 ((out++[(key,val)])++[(x,y)]).length (flatE ((out++[(key,val)])++[(x,y)])):=by rw [flatE_append,List.length_append,hl1];exact ho2'
           have hb2:Below w.heap.size w w2:=(hb1.alloc hb1.size _).grown hg2 (by have:=hb1.size;simp;omega) (fun k hk=>(ho1.1.lt k hk).1)
           clear hg2 ho2'
           go_wp2
           go_roundw
           case rel=>exact ⟨k+1,by omega,by go_num,by rw [HS.out],by rw [HS.out];exact ho2,by rw [HS.out];exact (HWF.out.snoc HK.out HV.out).snoc HWE.out.1 HWE.out.2,hb2⟩
           case measure=>simp [intOf];omega
       · have hle':decide (key≤x)=false:=by simpa using hle
         have HS:Hid (pwFold key val (l.take (k+1))=(out++[(x,y)],false)):=by rw [HT.out,HXY.out];exact Lib.hid (by simp [putStep,hle];omega)
         have hne:(x != key)=true:=by simp;omega
         clear HT HXY hle
         go_wp2_with (at_builtin;refine wpList_append_one rfl _ _ 23 rfl w.heap.size 142 _ (.agg #[.int .i64 0,.int .i64 0]) 2 16 Tryz.underlying23 infoEnt rfl (by decide) _ _ _ [.int .i64 x,.int .i64 y] (by rfl) hown (by rfl) rfl ?c11 ?c21 (by decide) ?c31 ?_)
         case c11=>intro u hu;simp at hu;rcases hu with rfl | rfl <;> rfl
         case c21=>omega
         case c31=>exact hb.size
         intro v1 w1 ho1' hg1
         have ho1:Own w1 w.heap.size 142 2 v1 (out++[(x,y)]).length (flatE (out++[(x,y)])):=by rw [flatE_append,List.length_append];exact ho1'
         have hb1:Below w.heap.size w w1:=(hb.alloc hb.size _).grown hg1 (by have:=hb.size;simp;omega) (fun k hk=>(hown.1.lt k hk).1)
         clear hg1 ho1'
         go_wp2
         go_roundw
         case rel=>exact ⟨k+1,by omega,by go_num,by rw [HS.out],by rw [HS.out];exact ho1,by rw [HS.out];exact HWF.out.snoc HWE.out.1 HWE.out.2,hb1⟩
         case measure=>simp [intOf];omega
    · have HKT:Hid (l.take k=l):=Lib.hid (List.take_of_length_le (by rw [HL.out];omega))
      clear hc hbd
      obtain ⟨pb,hpb⟩:∃ pb,pb=st.2:=⟨_,rfl⟩
      rw [← hpb]
      cases hp:st.2 with
      | true =>
       have HP:Hid (pwRaw key val l=st.1):=by unfold pwRaw;rw [← HKT.out,← hst,hp];exact Lib.hid rfl
       rw [hp] at hpb
       clear hp hst
       obtain ⟨out,pl⟩:=st
       simp only at hown hwf hlen HP hpb ⊢
       subst hpb
       go_wp2
       go_ret
       exact ⟨_,rfl,by rw [HP.out];exact hown,by rw [HP.out];exact hwf,hb⟩
      | false =>
       have HP:Hid (pwRaw key val l=st.1++[(key,val)]):=by unfold pwRaw;rw [← HKT.out,← hst,hp];exact Lib.hid rfl
       rw [hp] at hpb
       clear hp hst
       obtain ⟨out,pl⟩:=st
       simp only at hown hwf hlen HP hpb ⊢
       subst hpb
       go_wp2_with (at_builtin;refine wpList_append_one rfl _ _ 23 rfl w.heap.size 142 _ (.agg #[.int .i64 0,.int .i64 0]) 2 16 Tryz.underlying23 infoEnt rfl (by decide) _ _ _ [.int .i64 key,.int .i64 val] (by rfl) hown (by rfl) rfl ?c11 ?c21 (by decide) ?c31 ?_)
       case c11=>intro u hu;simp at hu;rcases hu with rfl | rfl <;> rfl
       case c21=>omega
       case c31=>exact hb.size
       intro v1 w1 ho1' hg1
       have hb1:Below w.heap.size w w1:=(hb.alloc hb.size _).grown hg1 (by have:=hb.size;simp;omega) (fun k hk=>(hown.1.lt k hk).1)
       clear hg1
       go_wp2
       go_ret
       exact ⟨_,rfl,by rw [HP.out,flatE_append,List.length_append];exact ho1',by rw [HP.out];exact hwf.snoc HK.out HV.out,hb1⟩
 · obtain rfl:n=0:=by omega
   obtain rfl:l=[]:=List.eq_nil_of_length_eq_zero HL.out
   clear hc hbd
   have HP:Hid (pwRaw key val []=[(key,val)]):=Lib.hid rfl
   go_enter Tryz.func189,Tryz.ntmps189
   go_wp2
   go_loopw [7,8,9] (fun v p i wr=>p = .bool false∧i = .int .i64 0∧Own wr w.heap.size 142 2 v 0 []∧Below w.heap.size w wr) (fun _ _ _ _=>0)
   case atStart=>exact ⟨rfl,rfl,hnil,hb0⟩
   case round =>
    obtain ⟨rfl,rfl,hown,hb⟩:=hrel
    clear hnil hb0
    go_wp2_with (at_builtin;refine wpList_append_one rfl _ _ 23 rfl w.heap.size 142 _ (.agg #[.int .i64 0,.int .i64 0]) 2 16 Tryz.underlying23 infoEnt rfl (by decide) _ _ _ [.int .i64 key,.int .i64 val] (by rfl) hown (by rfl) rfl ?c11 ?c21 (by decide) ?c31 ?_)
    case c11=>intro u hu;simp at hu;rcases hu with rfl | rfl <;> rfl
    case c21=>omega
    case c31=>exact hb.size
    intro v1 w1 ho1' hg1
    have hb1:Below w.heap.size w w1:=(hb.alloc hb.size _).grown hg1 (by have:=hb.size;simp;omega) (fun k hk=>(hown.1.lt k hk).1)
    clear hg1
    go_wp2
    go_ret
    exact ⟨_,rfl,by rw [HP.out];exact ho1',by rw [HP.out];intro e he;simp at he;subst he;exact ⟨HK.out,HV.out⟩,hb1⟩
theorem l4Put_spec (a:Option Addr) (n cap:Nat) (l:List Ent) (key val:Int) (w:World) (h:RowE w a n l) (hn:n≤1000) (hk:(Lit.int .i64 key).wf=true) (hv:(Lit.int .i64 val).wf=true) :
  Calls Tryz.prog 189 #[.slice a n cap,.int .i64 key,.int .i64 val] w (NewE w 142 (pm key val l)):=by
 rw [← pwRaw_eq];exact l4Put_raw a n cap l key val w h hn hk hv
end Go.Proofs.YtpnjgmgmakmgeaaGreat
