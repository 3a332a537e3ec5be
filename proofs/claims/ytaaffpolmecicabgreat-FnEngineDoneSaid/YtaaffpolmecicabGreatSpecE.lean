/- Texts of ours that stand together: SpecEng3, SpecEng4, SpecEng5, SpecEng6, SpecEng7 -/
import Derived.Test.YtaaffpolmecicabGreatSpecE0
import Derived.BigQuiet
import Derived.Test.YtaaffpolmecicabGreatSpecV
import Derived.Test.YtaaffpolmecicabGreatEngM
/- The contract of the model's l10Same. -/
namespace Go.Proofs.YtaaffpolmecicabGreat
open Go.RowKit
set_option linter.unusedVariables false
set_option linter.unusedSimpArgs false
def sameAt (e:Eng) (n k:Nat):Bool:=decide (readL e.base e.vers ((e.slots.getD n noSlt).res.rds.getD k (0,0)).1 n=(((e.slots.getD n noSlt).res.rds.getD k (0,0)).2,(e.slots.getD n noSlt).from_.getD k 0))
def SameTo (e:Eng) (n k:Nat):Prop:=∀ j,j < k→sameAt e n j=true
theorem SameTo.next {e:Eng} {n k:Nat} (h:SameTo e n k) (hk:sameAt e n k=true):SameTo e n (k+1):=by
 intro j hj
 by_cases e1:j=k
 · rw [e1];exact hk
 · exact h j (by omega)
theorem sameB_bad {e:Eng} {n k:Nat} (hk:k < (e.slots.getD n noSlt).res.rds.length) (h:sameAt e n k=false):sameB e n=false:=by
 rw [Bool.eq_false_iff]
 intro hh
 unfold sameB at hh
 have:=List.all_eq_true.1 hh k (List.mem_range.2 hk)
 unfold sameAt at h
 rw [this] at h;cases h
theorem sameB_all {e:Eng} {n:Nat} (h:SameTo e n (e.slots.getD n noSlt).res.rds.length):sameB e n=true:=by
 unfold sameB
 exact List.all_eq_true.2 fun k hk=>h k (List.mem_range.1 hk)
set_option maxRecDepth 100000 in
set_option maxHeartbeats 4000000 in
theorem l10Same_spec (v1 v2 v3 v4:Value) (e:Eng) (n:Nat) (w:World) (h:EngRd w v1 v2 v3 v4 e) (hn:n < e.slots.length) (hf:(e.slots.getD n noSlt).res.rds.length≤(e.slots.getD n noSlt).from_.length) :
  Calls Tryz.prog 118 #[.agg #[v1,v2,v3,v4],.int .i64 n] w (BoolS (sameB e n) w):=by
 obtain ⟨⟨a1,n1,c1,rfl,hr1,-,-⟩,⟨a2,n2,c2,rfl,-⟩,⟨a3,n3,c3,rfl,hr3,-,-⟩,a4,n4,c4,rfl,hr4,-,hc4⟩:=h
 have hn4:n < n4:=by rw [← hr4.1];exact hn
 have hm4:=hr4.2.1
 unfold maxLen at hm4
 obtain ⟨b,o,rfl,hsl⟩:=hr4.at n hn4
 obtain ⟨s0,s1,⟨vf,s2,af,nf,cf,rfl,hrf,-,-⟩,s3,⟨vr,s4,ar,nr,cr,rfl,hrr,-,-⟩,vw,s5,aw,nw,cw,rfl,-⟩:=hsl
 have hHB:=Lib.hid (fun (k:Nat) (hk:k < (e.slots.getD n noSlt).res.rds.length) (h:sameAt e n k=false)=>sameB_bad hk h)
 have hHA:=Lib.hid (fun (h:SameTo e n (e.slots.getD n noSlt).res.rds.length)=>sameB_all h)
 have hST:Hid (∀ k,sameAt e n k=decide (readL e.base e.vers ((e.slots.getD n noSlt).res.rds.getD k (0,0)).1 n=(((e.slots.getD n noSlt).res.rds.getD k (0,0)).2,(e.slots.getD n noSlt).from_.getD k 0))):=Lib.hid (fun k=>rfl)
 obtain ⟨s,hs⟩:∃ s,s=e.slots.getD n noSlt:=⟨_,rfl⟩
 rw [← hs] at s0 s1 s3 hrf hrr hHB hHA hST hf
 clear hs hr4
 have hrl:=hrr.1
 have hrm:=hrr.2.1
 unfold maxLen at hrm
 have hfl:=hrf.1
 rw [hrl] at hf hHB hHA
 rw [hfl] at hf
 have hbl:b < w.heap.size:=World.block_lt_of_cell? w ⟨b,o+n*6,none⟩ s0
 have hb0:=(Below.refl w.heap.size w).alloc (Nat.le_refl _) (.cells #[.slice a1 n1 c1,.slice a2 n2 c2,.slice a3 n3 c3,.slice (some ⟨b,o,none⟩) n4 c4] 57)
 have al:∀ o',(w.alloc o').cell? ⟨b,o+n*6,none⟩=some (.int .i64 s.stage)∧(w.alloc o').cell? ⟨b,o+n*6+1,none⟩=some (.int .i64 s.tries)∧(w.alloc o').cell? ⟨b,o+n*6+2,none⟩=some (.slice af nf cf)∧(w.alloc o').cell? ⟨b,o+n*6+3,none⟩=some (.bool s.res.done)∧(w.alloc o').cell? ⟨b,o+n*6+4,none⟩=some (.slice ar nr cr)∧(w.alloc o').cell? ⟨b,o+n*6+5,none⟩=some (.slice aw nw cw):=fun o'=>by
  have hb:=(Below.refl w.heap.size w).alloc (Nat.le_refl _) o'
  exact ⟨(hb.cell (p:=⟨b,o+n*6,none⟩) hbl).trans s0,(hb.cell (p:=⟨b,o+n*6+1,none⟩) hbl).trans s1,(hb.cell (p:=⟨b,o+n*6+2,none⟩) hbl).trans s2,(hb.cell (p:=⟨b,o+n*6+3,none⟩) hbl).trans s3,(hb.cell (p:=⟨b,o+n*6+4,none⟩) hbl).trans s4,(hb.cell (p:=⟨b,o+n*6+5,none⟩) hbl).trans s5⟩
 obtain ⟨e0,e1,e2,e3,e4,e5⟩:=al (.cells #[.slice a1 n1 c1,.slice a2 n2 c2,.slice a3 n3 c3,.slice (some ⟨b,o,none⟩) n4 c4] 57)
 have q1:(0:Int)≤(n:Int):=by omega
 have q2:(n:Int) < (n4:Int):=by omega
 clear al s0 s1 s2 s3 s4 s5
 go_enter Tryz.func118,Tryz.ntmps118
 go_upto_region 2 with (fail)
 obtain ⟨W1,hW1⟩:∃ W1,W1=((w.alloc (.cells #[.slice a1 n1 c1,.slice a2 n2 c2,.slice a3 n3 c3,.slice (some ⟨b,o,none⟩) n4 c4] 57)).alloc (.cells #[.int .i64 s.stage,.int .i64 s.tries,.slice af nf cf,.bool s.res.done,.slice ar nr cr,.slice aw nw cw] 75)):=⟨_,rfl⟩
 have hb1:Below w.heap.size w W1:=by rw [hW1];exact hb0.alloc hb0.size _
 have g0:W1.cell? ⟨w.heap.size,0,none⟩=some (.slice a1 n1 c1):=by rw [hW1];simp [go_sem]
 have g2:W1.cell? ⟨w.heap.size,2,none⟩=some (.slice a3 n3 c3):=by rw [hW1];simp [go_sem]
 have k2:W1.cell? ⟨w.heap.size+1,2,none⟩=some (.slice af nf cf):=by rw [hW1];simp [go_sem]
 have k4:W1.cell? ⟨w.heap.size+1,4,none⟩=some (.slice ar nr cr):=by rw [hW1];simp [go_sem]
 have h1w:=hr1.below hb1
 have h3w:=hr3.below hb1
 have hfw:=hrf.below hb1
 have hrw:=hrr.below hb1
 have HB1:=Lib.hid hb1
 rw [← hW1]
 clear hW1 hb1 hb0 hr1 hr3 hrf hrr e0 e1 e2 e3 e4 e5 hrl hfl q1 q2 hbl hc4
 go_wp2_with fail
 go_loopw [6] (fun i wr=>∃ k:Nat,k≤nr∧i = .int .i64 k∧SameTo e n k∧Drawn W1 wr) (fun i _=>nr - (intOf i).toNat)
 case atStart=>exact ⟨0,Nat.zero_le _,rfl,fun j hj=>absurd hj (by omega),Drawn.refl _⟩
 case round =>
  obtain ⟨k,hk,rfl,hto,hd⟩:=hrel
  have HTO:=Lib.hid hto;clear hto
  have HD:=Lib.hid hd
  have hbz:=HB1.out.trans ((hd.below W1.heap.size).mono HB1.out.size)
  have g0:=(hd.cell _).trans g0
  have g2:=(hd.cell _).trans g2
  have k2:=(hd.cell _).trans k2
  have k4:=(hd.cell _).trans k4
  by_cases hlt:k < nr
  · obtain ⟨br,ob,rfl,hcr⟩:=hrw.2.2.1 (by omega)
    obtain ⟨bf,of,rfl,hcf⟩:=hfw.2.2.1 (by omega)
    obtain ⟨hx,hy⟩:=hcr k hlt
    have hx:=(hd.cell _).trans hx
    have hy:=(hd.cell _).trans hy
    have hff:=(hd.cell _).trans (hcf k (by omega))
    have h1k:=h1w.below (hd.below W1.heap.size)
    have h3k:=h3w.below (hd.below W1.heap.size)
    have HBB:=Lib.hid hbz
    have HBK:=Lib.hid (hHB.out k hlt)
    have HK:=hST.out k
    have HN:=Lib.hid (fun hh=>SameTo.next (k:=k) HTO.out hh)
    have hb2:=HBB.out
    clear hcr hcf hrw hfw h1w h3w hST hHB hHA hb2
    obtain ⟨x,hx0⟩:∃ x,x=(s.res.rds.getD k (0,0)).1:=⟨_,rfl⟩
    obtain ⟨y,hy0⟩:∃ y,y=(s.res.rds.getD k (0,0)).2:=⟨_,rfl⟩
    obtain ⟨f,hf0⟩:∃ f,f=s.from_.getD k 0:=⟨_,rfl⟩
    rw [← hx0] at hx
    rw [← hy0] at hy
    rw [← hf0] at hff
    rw [← hx0,← hy0,← hf0] at HK
    clear hx0 hy0 hf0
    obtain ⟨z,hz⟩:∃ z,z=readL e.base e.vers x n:=⟨_,rfl⟩
    have HL:=Lib.hid (fun (q:Nat)=>(l9Read_spec a1 n1 c1 e.base a3 n3 c3 e.vers x n (wr.drewN q) h1k h3k).mono (fun ee ww (h:IntsS2 (readL e.base e.vers x n) (wr.drewN q) ee ww)=>(⟨h.1,h.2.symm⟩:ee = _∧ww=wr.drewN q)))
    rw [← hz] at HK HL
    clear hz h1k h3k hd hbz
    obtain ⟨z1,z2⟩:=z
    have HK:=Lib.hid HK
    have i1:(0:Int)≤(k:Int):=by omega
    have i2:(k:Int) < (nr:Int):=by omega
    have i3:(k:Int) < (nf:Int):=by omega
    cases e1:(z1 != y) with
    | true =>
     have HF:=Lib.hid (HBK.out (by rw [HK.out];simp at e1;simp [e1]))
     clear HBK HK HN
     go_wp2
     go_quiet ((go_at_call 149;exact Calls.quiet_of_same (HL.out _)))
     go_wp2
     go_ret
     exact ⟨by rw [HF.out];rfl,below_drewN' HBB.out _⟩
    | false =>
     cases e2:(z2 != f) with
     | true =>
      have HF:=Lib.hid (HBK.out (by rw [HK.out];simp at e1 e2;simp [e1,e2]))
      clear HBK HK HN
      go_wp2
      go_quiet ((go_at_call 149;exact Calls.quiet_of_same (HL.out _)))
      go_wp2
      go_ret
      exact ⟨by rw [HF.out];rfl,below_drewN' HBB.out _⟩
     | false =>
      have HF:=Lib.hid (HN.out (by rw [HK.out];simp at e1 e2;simp [e1,e2]))
      clear HBK HK HN
      go_wp2
      go_quiet ((go_at_call 149;exact Calls.quiet_of_same (HL.out _)))
      go_wp2
      go_roundw
      case rel=>exact ⟨k+1,by omega,by go_num,HF.out,HD.out.drewN _⟩
      case measure=>simp [intOf];omega
  · obtain rfl:k=nr:=by omega
    have HF:=Lib.hid (hHA.out HTO.out)
    clear hHA hHB hST h1w h3w hfw hrw hd
    go_wp2
    go_ret
    exact ⟨by rw [HF.out];rfl,hbz⟩
end Go.Proofs.YtaaffpolmecicabGreat
/- The contract of the model's l10SameEntries. -/
namespace Go.Proofs.YtaaffpolmecicabGreat
open Go.RowKit
set_option linter.unusedVariables false
set_option linter.unusedSimpArgs false
def SameE (l l':List Ent) (k:Nat):Prop:=∀ j,j < k→l.getD j (0,0)=l'.getD j (0,0)
theorem SameE.next {l l':List Ent} {k:Nat} (h:SameE l l' k) (hk:l.getD k (0,0)=l'.getD k (0,0)):SameE l l' (k+1):=by
 intro j hj
 by_cases e1:j=k
 · rw [e1];exact hk
 · exact h j (by omega)
theorem SameE.all {l l':List Ent} {k:Nat} (h:SameE l l' k) (h1:l.length=k) (h2:l'.length=k):decide (l=l')=true:=by
 refine decide_eq_true (List.ext_getElem (by rw [h1,h2]) fun i hi hi2=>?_)
 have:=h i (by omega)
 rwa [List.getD_eq_getElem?_getD,List.getElem?_eq_getElem hi,List.getD_eq_getElem?_getD,List.getElem?_eq_getElem hi2] at this
theorem sameE_bad {l l':List Ent} {k:Nat} (h:l.getD k (0,0)≠l'.getD k (0,0)):decide (l=l')=false:=decide_eq_false (fun he=>h (by rw [he]))
theorem sameE_len {l l':List Ent} (h:l.length≠l'.length):decide (l=l')=false:=decide_eq_false (fun he=>h (by rw [he]))
set_option maxHeartbeats 1000000 in
theorem l10SameEntries_spec (a a':Option Addr) (n cap n' cap':Nat) (l l':List Ent) (w:World) (h:RowE w a n l) (h':RowE w a' n' l') :
  Calls Tryz.prog 165 #[.slice a n cap,.slice a' n' cap'] w (BoolQ (decide (l=l')) w):=by
 obtain ⟨hl,hm,hc,-⟩:=h
 obtain ⟨hl',hm',hc',-⟩:=h'
 unfold maxLen at hm hm'
 by_cases hn:n=n'
 · subst hn
   have HE:=Lib.hid (fun (h:SameE l l' n)=>h.all hl hl')
   have HX:=Lib.hid (fun (k:Nat) (h:l.getD k (0,0)≠l'.getD k (0,0))=>sameE_bad h)
   clear hl hl'
   by_cases h0:0 < n
   · obtain ⟨b,off,rfl,hcc⟩:=hc h0;clear hc;have hc:=hcc;clear hcc
     obtain ⟨b',off',rfl,hcc⟩:=hc' h0;clear hc';have hc':=hcc;clear hcc
     go_enter Tryz.func165,Tryz.ntmps165
     go_wp2
     go_loopw [5] (fun i wr=>∃ k:Nat,k≤n∧i = .int .i64 k∧SameE l l' k∧Drawn w wr) (fun i _=>n - (intOf i).toNat)
     case atStart=>exact ⟨0,Nat.zero_le _,rfl,fun j hj=>absurd hj (by omega),Drawn.refl _⟩
     case round =>
      obtain ⟨k,hk,rfl,hto,hd⟩:=hrel
      have HTO:=Lib.hid hto;clear hto
      by_cases hlt:k < n
      · have hc1:=(hd.cell _).trans (hc k hlt).1
        have hc2:=(hd.cell _).trans (hc k hlt).2
        have hd1:=(hd.cell _).trans (hc' k hlt).1
        have hd2:=(hd.cell _).trans (hc' k hlt).2
        have HN:=Lib.hid (fun hh=>SameE.next (k:=k) HTO.out hh)
        have HB:=Lib.hid (HX.out k)
        clear hc hc' HX HE
        obtain ⟨x,hx⟩:∃ x,x=l.getD k (0,0):=⟨_,rfl⟩
        obtain ⟨y,hy⟩:∃ y,y=l'.getD k (0,0):=⟨_,rfl⟩
        rw [← hx] at hc1 hc2 HN HB
        rw [← hy] at hd1 hd2 HN HB
        clear hx hy
        obtain ⟨x1,x2⟩:=x
        obtain ⟨y1,y2⟩:=y
        simp only at hc1 hc2 hd1 hd2
        have HD:=Lib.hid hd;clear hd
        cases e1:(x1 == y1) with
        | false =>
         have HF:=Lib.hid (HB.out (by simp at e1;simp [e1]))
         clear HB HN
         go_wp2
         go_quiet (fail)
         go_wp2
         go_ret
         exact ⟨by rw [HF.out];rfl,HD.out.drewN _⟩
        | true =>
         cases e2:(x2 == y2) with
         | false =>
          have HF:=Lib.hid (HB.out (by simp at e1 e2;simp [e1,e2]))
          clear HB HN
          go_wp2
          go_quiet (fail)
          go_wp2
          go_ret
          exact ⟨by rw [HF.out];rfl,HD.out.drewN _⟩
         | true =>
          have HF:=Lib.hid (HN.out (by simp at e1 e2;simp [e1,e2]))
          clear HB HN
          go_wp2
          go_quiet (fail)
          go_wp2
          go_roundw
          case rel=>exact ⟨k+1,by omega,by go_num,HF.out,HD.out.drewN _⟩
          case measure=>simp [intOf];omega
      · obtain rfl:k=n:=by omega
        have HF:=Lib.hid (HE.out HTO.out)
        clear hc hc' HE HX
        go_wp2
        go_ret
        exact ⟨by rw [HF.out];rfl,hd⟩
   · obtain rfl:n=0:=by omega
     have HF:=Lib.hid (HE.out (fun j hj=>absurd hj (by omega)))
     clear hc hc' HE HX
     go_enter Tryz.func165,Tryz.ntmps165
     go_wp2
     go_loop [5] (fun i=>i = .int .i64 0) (fun _=>0)
     case atStart=>rfl
     case round =>
      subst hrel
      go_wp2
      go_ret
      exact ⟨by rw [HF.out];rfl,Drawn.refl _⟩
 · have HF:=Lib.hid (sameE_len (l:=l) (l':=l') (by omega))
   have e1:((n:Int) != (n':Int))=true:=by simp;omega
   clear hc hc' hl hl'
   go_enter Tryz.func165,Tryz.ntmps165
   go_wp2
   go_ret
   exact ⟨by rw [HF.out];rfl,Drawn.refl _⟩
end Go.Proofs.YtaaffpolmecicabGreat
/- The contract of the model's l10Slot (gen10/speceng5.py). -/
namespace Go.Proofs.YtaaffpolmecicabGreat
open Go.RowKit
set_option linter.unusedVariables false
set_option linter.unusedSimpArgs false
theorem slotB_new {a:Acn} {n:Nat} {s:Slt} {x y z:Nat} (h:(s.stage == 0)=true) (h1:s.from_.length=x) (h2:s.res.rds.length=y) (h3:s.res.wrs.length=z) :
  slotB a n s=(decide (0≤s.tries) && decide (s.tries≤1000) && ((x:Int) == 0) && !s.res.done && ((y:Int) == 0) && ((z:Int) == 0)):=by
 have h:s.stage=0:=by simpa using h
 subst h1 h2 h3
 unfold slotB
 rw [if_pos h]
 have e:∀ {α : Type} (l:List α) [DecidableEq α],decide (l=[])=((l.length:Int) == 0):=by
  intro α l _
  cases l with
  | nil=>rfl
  | cons a t=>simp;omega
 rw [e,e,e]
 simp [inB]
theorem slotB_old {a:Acn} {n:Nat} {s:Slt} {x y m:Nat} (h:(s.stage == 0)=false) (h1:s.from_.length=x) (h2:s.res.rds.length=y) (h3:(readsM a).length=m) :
  slotB a n s=(!((y:Int) != (m:Int)) && !((x:Int) != (m:Int)) && inB s.tries 1 1000 && inB s.stage 1 2 && (List.range m).all (readB a n s) && (s.res.done == (wantM a s).done) && decide (s.res.wrs=(wantM a s).wrs)):=by
 have h:s.stage≠0:=by simpa using h
 subst h1 h2 h3
 unfold slotB
 rw [if_neg h]
 have e:∀ (p q:Nat),decide (p=q) = !((p:Int) != (q:Int)):=by
  intro p q
  by_cases h:p=q
  · subst h;simp
  · have:(p:Int)≠q:=by omega
    simp [h,this]
 rw [e,e]
def ReadTo (a:Acn) (n:Nat) (s:Slt) (k:Nat):Prop:=∀ j,j < k→readB a n s j=true
theorem ReadTo.next {a:Acn} {n:Nat} {s:Slt} {k:Nat} (h:ReadTo a n s k) (hk:readB a n s k=true):ReadTo a n s (k+1):=by
 intro j hj
 by_cases e1:j=k
 · rw [e1];exact hk
 · exact h j (by omega)
theorem ReadTo.all {a:Acn} {n:Nat} {s:Slt} {k:Nat} (h:ReadTo a n s k):(List.range k).all (readB a n s)=true:=List.all_eq_true.2 fun j hj=>h j (List.mem_range.1 hj)
theorem readTo_bad {a:Acn} {n:Nat} {s:Slt} {k m:Nat} (hk:k < m) (h:readB a n s k=false):(List.range m).all (readB a n s)=false:=by
 rw [Bool.eq_false_iff]
 intro hh
 have:=List.all_eq_true.1 hh k (List.mem_range.2 hk)
 rw [h] at this;cases this
theorem readB_form (a:Acn) (n:Nat) (s:Slt) (k:Nat):readB a n s k=(!((s.res.rds.getD k (0,0)).1 != (readsM a).getD k 0) && inB (s.res.rds.getD k (0,0)).2 0 1000000 && inB (s.from_.getD k 0) (-1) ((n:Int) - 1)):=by
 unfold readB
 congr 2
 by_cases h:(s.res.rds.getD k (0,0)).1=(readsM a).getD k 0
 · rw [h];simp
 · rw [decide_eq_false h];simp only [bne,Bool.not_not];symm;rw [beq_eq_false_iff_ne];exact h
theorem rdTo_bd {a:Acn} {n:Nat} {s:Slt} (key:Int):∀ (k:Nat),k≤s.res.rds.length→ReadTo a n s k→0≤rdAt (s.res.rds.take k) key∧rdAt (s.res.rds.take k) key≤1000000
 | 0,_,_=>by simp [rdAt]
 | k+1,hk,h=>by
  rw [rdAt_next _ _ _ (by omega)]
  have h1:=h k (by omega)
  rw [readB_form] at h1
  simp only [Bool.and_eq_true] at h1
  have h2:=inB_true h1.1.2
  have h3:=rdTo_bd key k (by omega) (fun j hj=>h j (by omega))
  split
  · exact h2
  · exact h3
set_option maxRecDepth 100000 in
set_option maxHeartbeats 4000000 in
theorem l10Slot_spec (v1 v2 v3 v4:Value) (e:Eng) (n:Nat) (w:World) (h:EngRd w v1 v2 v3 v4 e) (hn:n < e.slots.length) (hn2:n < e.list.length) (hok:actB (e.list.getD n noA)=true) :
  Calls Tryz.prog 116 #[.agg #[v1,v2,v3,v4],.int .i64 n] w (BoolS (slotB (e.list.getD n noA) n (e.slots.getD n noSlt)) w):=by
 obtain ⟨⟨a1,n1,c1,rfl,-⟩,⟨a2,n2,c2,rfl,hr2,-,-⟩,⟨a3,n3,c3,rfl,-⟩,a4,n4,c4,rfl,hr4,-,-⟩:=h
 have hn4:n < n4:=by rw [← hr4.1];exact hn
 have hm4:=hr4.2.1
 unfold maxLen at hm4
 have hn22:n < n2:=by rw [← hr2.1];exact hn2
 obtain ⟨b,o,rfl,hsl⟩:=hr4.at n hn4
 obtain ⟨b2,o2,rfl,hac⟩:=hr2.2.2.1 (by omega)
 obtain ⟨y0,y1,y2,y3⟩:=hac n hn22
 clear hac hr2 hr4 hn hn2
 obtain ⟨s0,s1,⟨vf,s2,af,nf,cf,rfl,hrf,-,-⟩,s3,⟨vr,s4,ar,nr,cr,rfl,hrr,-,-⟩,vw,s5,aw,nw,cw,rfl,hrw,-,-⟩:=hsl
 obtain ⟨s,hs⟩:∃ s,s=e.slots.getD n noSlt:=⟨_,rfl⟩
 rw [← hs] at s0 s1 s3 hrf hrr hrw ⊢
 clear hs
 obtain ⟨ac,hac⟩:∃ ac,ac=e.list.getD n noA:=⟨_,rfl⟩
 rw [← hac] at y0 y1 y2 y3 hok ⊢
 clear hac
 obtain ⟨kd,sr,ds,am⟩:=ac
 simp only at y0 y1 y2 y3
 have HOK:=Lib.hid hok;clear hok
 have HNEW:=Lib.hid (fun hh=>slotB_new (a:=⟨kd,sr,ds,am⟩) (n:=n) hh hrf.1 hrr.1 hrw.1)
 have HOLD:=Lib.hid (fun hh (m:Nat) hm=>slotB_old (a:=⟨kd,sr,ds,am⟩) (n:=n) (m:=m) hh hrf.1 hrr.1 hm)
 have HRL:=Lib.hid hrr.1
 obtain ⟨st,hst⟩:∃ st,st=s.stage:=⟨_,rfl⟩
 obtain ⟨tr,htr⟩:∃ tr,tr=s.tries:=⟨_,rfl⟩
 obtain ⟨dn,hdn⟩:∃ dn,dn=s.res.done:=⟨_,rfl⟩
 rw [← hst] at s0 HNEW HOLD
 rw [← htr] at s1 HNEW HOLD
 rw [← hdn] at s3 HNEW HOLD
 have HT:=Lib.hid (And.intro hst (And.intro htr hdn))
 clear hst htr hdn
 have hrm:=hrr.2.1
 have hfm:=hrf.2.1
 have hwm:=hrw.2.1
 unfold maxLen at hrm hfm hwm
 have hbl:b < w.heap.size:=World.block_lt_of_cell? w ⟨b,o+n*6,none⟩ s0
 have hb0:=(Below.refl w.heap.size w).alloc (Nat.le_refl _) (.cells #[.slice a1 n1 c1,.slice (some ⟨b2,o2,none⟩) n2 c2,.slice a3 n3 c3,.slice (some ⟨b,o,none⟩) n4 c4] 57)
 have al:∀ o',(w.alloc o').cell? ⟨b,o+n*6,none⟩=some (.int .i64 st)∧(w.alloc o').cell? ⟨b,o+n*6+1,none⟩=some (.int .i64 tr)∧(w.alloc o').cell? ⟨b,o+n*6+2,none⟩=some (.slice af nf cf)∧(w.alloc o').cell? ⟨b,o+n*6+3,none⟩=some (.bool dn)∧(w.alloc o').cell? ⟨b,o+n*6+4,none⟩=some (.slice ar nr cr)∧(w.alloc o').cell? ⟨b,o+n*6+5,none⟩=some (.slice aw nw cw):=fun o'=>by
  have hb:=(Below.refl w.heap.size w).alloc (Nat.le_refl _) o'
  exact ⟨(hb.cell (p:=⟨b,o+n*6,none⟩) hbl).trans s0,(hb.cell (p:=⟨b,o+n*6+1,none⟩) hbl).trans s1,(hb.cell (p:=⟨b,o+n*6+2,none⟩) hbl).trans s2,(hb.cell (p:=⟨b,o+n*6+3,none⟩) hbl).trans s3,(hb.cell (p:=⟨b,o+n*6+4,none⟩) hbl).trans s4,(hb.cell (p:=⟨b,o+n*6+5,none⟩) hbl).trans s5⟩
 obtain ⟨e0,e1,e2,e3,e4,e5⟩:=al (.cells #[.slice a1 n1 c1,.slice (some ⟨b2,o2,none⟩) n2 c2,.slice a3 n3 c3,.slice (some ⟨b,o,none⟩) n4 c4] 57)
 have q1:(0:Int)≤(n:Int):=by omega
 have q2:(n:Int) < (n4:Int):=by omega
 have q3:(n:Int) < (n2:Int):=by omega
 clear al s0 s1 s2 s3 s4 s5
 go_enter Tryz.func116,Tryz.ntmps116
 go_upto_region 2 with (fail)
 obtain ⟨W1,hW1⟩:∃ W1,W1=((w.alloc (.cells #[.slice a1 n1 c1,.slice (some ⟨b2,o2,none⟩) n2 c2,.slice a3 n3 c3,.slice (some ⟨b,o,none⟩) n4 c4] 57)).alloc (.cells #[.int .i64 st,.int .i64 tr,.slice af nf cf,.bool dn,.slice ar nr cr,.slice aw nw cw] 75)):=⟨_,rfl⟩
 have hb1:Below w.heap.size w W1:=by rw [hW1];exact hb0.alloc hb0.size _
 have hz1:W1.heap.size=w.heap.size+2:=by rw [hW1];simp
 have g1:W1.cell? ⟨w.heap.size,1,none⟩=some (.slice (some ⟨b2,o2,none⟩) n2 c2):=by rw [hW1];simp [go_sem]
 have k0:W1.cell? ⟨w.heap.size+1,0,none⟩=some (.int .i64 st):=by rw [hW1];simp [go_sem]
 have k1:W1.cell? ⟨w.heap.size+1,1,none⟩=some (.int .i64 tr):=by rw [hW1];simp [go_sem]
 have k2:W1.cell? ⟨w.heap.size+1,2,none⟩=some (.slice af nf cf):=by rw [hW1];simp [go_sem]
 have k3:W1.cell? ⟨w.heap.size+1,3,none⟩=some (.bool dn):=by rw [hW1];simp [go_sem]
 have k4:W1.cell? ⟨w.heap.size+1,4,none⟩=some (.slice ar nr cr):=by rw [hW1];simp [go_sem]
 have k5:W1.cell? ⟨w.heap.size+1,5,none⟩=some (.slice aw nw cw):=by rw [hW1];simp [go_sem]
 have hfw:=hrf.below hb1
 have hrw1:=hrr.below hb1
 have hww:=hrw.below hb1
 have hb2l:b2 < w.heap.size:=World.block_lt_of_cell? w ⟨b2,o2+n*4,none⟩ y0
 have y0:=(hb1.cell (p:=⟨b2,o2+n*4,none⟩) hb2l).trans y0
 have y1:=(hb1.cell (p:=⟨b2,o2+n*4+1,none⟩) hb2l).trans y1
 have y2:=(hb1.cell (p:=⟨b2,o2+n*4+2,none⟩) hb2l).trans y2
 have y3:=(hb1.cell (p:=⟨b2,o2+n*4+3,none⟩) hb2l).trans y3
 have HB1:=Lib.hid hb1
 have HZ1:=Lib.hid hz1
 rw [← hW1]
 clear hW1 hb1 hb0 hz1 hrf hrr hrw e0 e1 e2 e3 e4 e5 hbl
 cases E0:(st == 0) with
 | true =>
  cases t1:decide (0≤tr) with
  | false =>
   have HF:=Lib.hid (HNEW.out E0)
   rw [t1] at HF
   have HF:=Lib.hid (show _=false from HF.out)
   clear HNEW HOLD
   go_wp2_with fail
   go_ret
   exact ⟨by rw [HF.out];rfl,HB1.out⟩
  | true =>
   cases t2:decide (tr≤1000) with
   | false =>
    have HF:=Lib.hid (HNEW.out E0)
    rw [t1,t2] at HF
    have HF:=Lib.hid (show _=false from HF.out)
    clear HNEW HOLD
    go_wp2_with fail
    go_ret
    exact ⟨by rw [HF.out];rfl,HB1.out⟩
   | true =>
    cases t3:((nf:Int) == 0) with
    | false =>
     have HF:=Lib.hid (HNEW.out E0)
     rw [t1,t2,t3] at HF
     have HF:=Lib.hid (show _=false from HF.out)
     clear HNEW HOLD
     go_wp2_with fail
     go_ret
     exact ⟨by rw [HF.out];rfl,HB1.out⟩
    | true =>
     cases t4:dn with
     | true =>
      have HF:=Lib.hid (HNEW.out E0)
      rw [t1,t2,t3,t4] at HF
      have HF:=Lib.hid (show _=false from HF.out)
      clear HNEW HOLD
      go_wp2_with fail
      go_ret
      exact ⟨by rw [HF.out];rfl,HB1.out⟩
     | false =>
      cases t5:((nr:Int) == 0) with
      | false =>
       have HF:=Lib.hid (HNEW.out E0)
       rw [t1,t2,t3,t4,t5] at HF
       have HF:=Lib.hid (show _=false from HF.out)
       clear HNEW HOLD
       go_wp2_with fail
       go_ret
       exact ⟨by rw [HF.out];rfl,HB1.out⟩
      | true =>
       cases t6:((nw:Int) == 0) with
       | false =>
        have HF:=Lib.hid (HNEW.out E0)
        rw [t1,t2,t3,t4,t5,t6] at HF
        have HF:=Lib.hid (show _=false from HF.out)
        clear HNEW HOLD
        go_wp2_with fail
        go_ret
        exact ⟨by rw [HF.out];rfl,HB1.out⟩
       | true =>
        have HF:=Lib.hid (HNEW.out E0)
        rw [t1,t2,t3,t4,t5,t6] at HF
        have HF:=Lib.hid (show _=true from HF.out)
        clear HNEW HOLD
        go_wp2_with fail
        go_ret
        exact ⟨by rw [HF.out];rfl,HB1.out⟩
 | false =>
  go_wp2_with fail
  refine (actionReads_spec kd sr ds am _).mono ?_;rintro e' w2 ⟨vv,rfl,ho2,hw2,hb2'⟩
  obtain ⟨g2,c5,rfl,-,-,hri⟩:=rowI_of_own ho2 (by have:=readsM_len ⟨kd,sr,ds,am⟩;omega) hw2
  have hb2:=HB1.out.trans (hb2'.mono HB1.out.size)
  have zl:w.heap.size < W1.heap.size:=by have:=HZ1.out;omega
  have zl1:w.heap.size+1 < W1.heap.size:=by have:=HZ1.out;omega
  have g1:=(hb2'.cell (p:=⟨w.heap.size,1,none⟩) zl).trans g1
  have k0:=(hb2'.cell (p:=⟨w.heap.size+1,0,none⟩) zl1).trans k0
  have k1:=(hb2'.cell (p:=⟨w.heap.size+1,1,none⟩) zl1).trans k1
  have k2:=(hb2'.cell (p:=⟨w.heap.size+1,2,none⟩) zl1).trans k2
  have k3:=(hb2'.cell (p:=⟨w.heap.size+1,3,none⟩) zl1).trans k3
  have k4:=(hb2'.cell (p:=⟨w.heap.size+1,4,none⟩) zl1).trans k4
  have k5:=(hb2'.cell (p:=⟨w.heap.size+1,5,none⟩) zl1).trans k5
  have hb2l:b2 < W1.heap.size:=by omega
  have y0:=(hb2'.cell (p:=⟨b2,o2+n*4,none⟩) hb2l).trans y0
  have y1:=(hb2'.cell (p:=⟨b2,o2+n*4+1,none⟩) hb2l).trans y1
  have y2:=(hb2'.cell (p:=⟨b2,o2+n*4+2,none⟩) hb2l).trans y2
  have y3:=(hb2'.cell (p:=⟨b2,o2+n*4+3,none⟩) hb2l).trans y3
  have hfw:=hfw.below hb2'
  have hrw1:=hrw1.below hb2'
  have hww:=hww.below hb2'
  have hs2:=hb2'.size
  have HL:=Lib.hid (readsM_len ⟨kd,sr,ds,am⟩)
  have hm2:(readsM ⟨kd,sr,ds,am⟩).length≤2:=HL.out
  clear ho2 hw2 hb2' HNEW
  obtain ⟨L,hL⟩:∃ L,L=readsM ⟨kd,sr,ds,am⟩:=⟨_,rfl⟩
  have HS:=Lib.hid (HOLD.out E0 L.length (by rw [hL]))
  have HLL:=Lib.hid hL
  rw [← hL] at hri hm2 ⊢
  clear hL HOLD
  obtain ⟨m,hm⟩:∃ m,m=L.length:=⟨_,rfl⟩
  have HLM:=Lib.hid hm.symm
  rw [← hm] at hri hm2 HS ⊢
  clear hm
  have HB2:=Lib.hid hb2
  clear HB1 hb2
  cases t1:((nr:Int) != (m:Int)) with
  | true =>
   have HF:=HS.out
   rw [t1] at HF
   have HF:=Lib.hid (show _=false from HF)
   clear HS
   go_wp2_with fail
   go_ret
   exact ⟨by rw [HF.out];rfl,HB2.out⟩
  | false =>
   cases t2:((nf:Int) != (m:Int)) with
   | true =>
    have HF:=HS.out
    rw [t1,t2] at HF
    have HF:=Lib.hid (show _=false from HF)
    clear HS
    go_wp2_with fail
    go_ret
    exact ⟨by rw [HF.out];rfl,HB2.out⟩
   | false =>
    go_wp2_with fail
    refine (l1In_spec_hid _ _ _ _).mono ?_;rintro e1 w1 ⟨rfl,rfl⟩
    cases t3:inB tr 1 1000 with
    | false =>
     have HF:=HS.out
     rw [t1,t2,t3] at HF
     have HF:=Lib.hid (show _=false from HF)
     clear HS
     go_wp2_with fail
     go_ret
     exact ⟨by rw [HF.out];rfl,HB2.out⟩
    | true =>
     go_wp2_with fail
     refine (l1In_spec_hid _ _ _ _).mono ?_;rintro e1 w1 ⟨rfl,rfl⟩
     cases t4:inB st 1 2 with
     | false =>
      have HF:=HS.out
      rw [t1,t2,t3,t4] at HF
      have HF:=Lib.hid (show _=false from HF)
      clear HS
      go_wp2_with fail
      go_ret
      exact ⟨by rw [HF.out];rfl,HB2.out⟩
     | true =>
      have HSX:slotB ⟨kd,sr,ds,am⟩ n s=((List.range m).all (readB ⟨kd,sr,ds,am⟩ n s) && (dn == (wantM ⟨kd,sr,ds,am⟩ s).done) && decide (s.res.wrs=(wantM ⟨kd,sr,ds,am⟩ s).wrs)):=by have HF:=HS.out;rw [t1,t2,t3,t4] at HF;exact HF
      clear HS
      have HS:=Lib.hid HSX
      clear HSX
      go_upto_region 7 with (fail)
      have en1:m=nr:=by simp at t1;omega
      have en2:m=nf:=by simp at t2;omega
      clear t1 t2 t3 t4 k0 k1 hrm hfm
      obtain rfl:=en1
      obtain rfl:=en2
      have hm62:m≤2:=hm2
      have hbb2:b2 < w2.heap.size:=by omega
      have zl2:w.heap.size < w2.heap.size:=by omega
      have zl3:w.heap.size+1 < w2.heap.size:=by omega
      clear zl zl1 hb2l hs2 hm2
      go_wp2_with fail
      go_loopw [7,8,9] (fun f t i wr=>∃ k:Nat,k≤m∧i = .int .i64 k∧f = .int .i64 (rdAt (s.res.rds.take k) sr)∧t = .int .i64 (rdAt (s.res.rds.take k) ds)∧ReadTo ⟨kd,sr,ds,am⟩ n s k∧Below w2.heap.size w2 wr) (fun _ _ i _=>m - (intOf i).toNat)
      case atStart=>exact ⟨0,Nat.zero_le _,rfl,rfl,rfl,fun j hj=>absurd hj (by omega),Below.refl _ _⟩
      case round =>
       obtain ⟨k,hk,rfl,rfl,rfl,hto,hb⟩:=hrel
       have HTO:=Lib.hid hto;clear hto
       by_cases hlt:k < m
       · obtain ⟨br,ob,rfl,hcr⟩:=hrw1.2.2.1 (by omega)
         obtain ⟨bf,of,rfl,hcf⟩:=hfw.2.2.1 (by omega)
         obtain ⟨bi,oi,hbi,hci⟩:=hri.2.2.1 (by omega)
         obtain ⟨rfl,rfl⟩:g2=bi∧oi=0:=by simp at hbi;exact ⟨hbi.1,hbi.2.symm⟩
         obtain ⟨hx,hy⟩:=hcr k hlt
         have hf:=hcf k hlt
         have hr:=hci k hlt
         simp only [Nat.zero_add] at hr
         have lx:br < w2.heap.size:=World.block_lt_of_cell? w2 ⟨br,ob+k*2,none⟩ hx
         have lf:bf < w2.heap.size:=World.block_lt_of_cell? w2 ⟨bf,of+k,none⟩ hf
         have lr:g2 < w2.heap.size:=World.block_lt_of_cell? w2 ⟨g2,k,none⟩ hr
         have HRF:=Lib.hid (readB_form ⟨kd,sr,ds,am⟩ n s k)
         have HRA1:=Lib.hid (rdAt_next s.res.rds sr k (by rw [HRL.out];exact hlt))
         have HRA2:=Lib.hid (rdAt_next s.res.rds ds k (by rw [HRL.out];exact hlt))
         have HNX:=Lib.hid (fun hh=>ReadTo.next (k:=k) HTO.out hh)
         have HBD:=Lib.hid (fun hh=>readTo_bad (a:=⟨kd,sr,ds,am⟩) (n:=n) (s:=s) hlt hh)
         have HRF:=Lib.hid (show readB ⟨kd,sr,ds,am⟩ n s k = _ by rw [HRF.out,← HLL.out])
         obtain ⟨x,hx0⟩:∃ x,x=(s.res.rds.getD k (0,0)).1:=⟨_,rfl⟩
         obtain ⟨y,hy0⟩:∃ y,y=(s.res.rds.getD k (0,0)).2:=⟨_,rfl⟩
         obtain ⟨f,hf0⟩:∃ f,f=s.from_.getD k 0:=⟨_,rfl⟩
         obtain ⟨r,hr0⟩:∃ r,r=L.getD k 0:=⟨_,rfl⟩
         rw [← hx0] at hx HRF HRA1 HRA2
         rw [← hy0] at hy HRF HRA1 HRA2
         rw [← hf0] at hf HRF
         rw [← hr0] at hr HRF
         clear hx0 hy0 hf0 hr0 hcr hcf hci hri hrw1 hfw hww
         obtain ⟨F0,hF0⟩:∃ F0,F0=rdAt (s.res.rds.take k) sr:=⟨_,rfl⟩
         obtain ⟨T0,hT0⟩:∃ T0,T0=rdAt (s.res.rds.take k) ds:=⟨_,rfl⟩
         rw [← hF0] at HRA1 ⊢
         rw [← hT0] at HRA2 ⊢
         clear hF0 hT0
         have i0:(0:Int)≤(k:Int):=by omega
         have i1:(k:Int) < (m:Int):=by omega
         have ek:IntKind.i64.wrap ((n:Int) - 1)=(n:Int) - 1:=IntWalk.i64_in _ (by omega)
         have hx':=(hb.cell (p:=⟨br,ob+k*2,none⟩) lx).trans hx
         have hy':=(hb.cell (p:=⟨br,ob+k*2+1,none⟩) lx).trans hy
         have k4':=(hb.cell (p:=⟨w.heap.size+1,4,none⟩) zl3).trans k4
         go_upto_region 13 with (fail)
         obtain ⟨W3,hW3⟩:∃ W3,W3=wr.alloc (.cells #[.int .i64 x,.int .i64 y] 43):=⟨_,rfl⟩
         have hb3:Below w2.heap.size w2 W3:=by rw [hW3];exact hb.alloc hb.size _
         have p0:W3.cell? ⟨wr.heap.size,0,none⟩=some (.int .i64 x):=by rw [hW3];simp [go_sem]
         have p1:W3.cell? ⟨wr.heap.size,1,none⟩=some (.int .i64 y):=by rw [hW3];simp [go_sem]
         rw [← hW3]
         clear hW3 hx' hy' k4' hx hy
         have hf:=(hb3.cell (p:=⟨bf,of+k,none⟩) lf).trans hf
         have hr:=(hb3.cell (p:=⟨g2,k,none⟩) lr).trans hr
         have g1:=(hb3.cell (p:=⟨w.heap.size,1,none⟩) zl2).trans g1
         have k2:=(hb3.cell (p:=⟨w.heap.size+1,2,none⟩) zl3).trans k2
         have y1:=(hb3.cell (p:=⟨b2,o2+n*4+1,none⟩) hbb2).trans y1
         have y2:=(hb3.cell (p:=⟨b2,o2+n*4+2,none⟩) hbb2).trans y2
         have HB3:=Lib.hid hb3
         have HB4:=Lib.hid (HB2.out.trans (hb3.mono HB2.out.size))
         clear hb hb3 k3 k4 k5 y0 y3 lx lf lr
         cases u1:(x != r) with
         | true =>
          have HF:=HRF.out
          rw [u1] at HF
          have HF:=HS.out.trans (by rw [HBD.out (show readB ⟨kd,sr,ds,am⟩ n s k=false from HF)])
          have HF:=Lib.hid (show slotB ⟨kd,sr,ds,am⟩ n s=false from HF)
          clear HS HNX HBD HRF HRA1 HRA2
          go_wp2
          go_quiet ((go_at_call 71;exact Calls.quiet_of_same (l1In_spec _ _ _ _)))
          go_wp2
          go_ret
          exact ⟨by rw [HF.out];rfl,below_drewN' HB4.out _⟩
         | false =>
          cases u2:inB y 0 1000000 with
          | false =>
           have HF:=HRF.out
           rw [u1,u2] at HF
           have HF:=HS.out.trans (by rw [HBD.out (show readB ⟨kd,sr,ds,am⟩ n s k=false from HF)])
           have HF:=Lib.hid (show slotB ⟨kd,sr,ds,am⟩ n s=false from HF)
           clear HS HNX HBD HRF HRA1 HRA2
           go_wp2
           go_quiet ((go_at_call 71;exact Calls.quiet_of_same (l1In_spec _ _ _ _)))
           go_wp2
           go_ret
           exact ⟨by rw [HF.out];rfl,below_drewN' HB4.out _⟩
          | true =>
           cases u3:inB f (-1) ((n:Int) - 1) with
           | false =>
            have HF:=HRF.out
            rw [u1,u2,u3] at HF
            have HF:=HS.out.trans (by rw [HBD.out (show readB ⟨kd,sr,ds,am⟩ n s k=false from HF)])
            have HF:=Lib.hid (show slotB ⟨kd,sr,ds,am⟩ n s=false from HF)
            clear HS HNX HBD HRF HRA1 HRA2
            go_wp2
            go_quiet ((go_at_call 71;exact Calls.quiet_of_same (l1In_spec _ _ _ _)))
            go_wp2
            go_ret
            exact ⟨by rw [HF.out];rfl,below_drewN' HB4.out _⟩
           | true =>
            have HF:=HRF.out
            rw [u1,u2,u3] at HF
            have HF:=Lib.hid (HNX.out (show readB ⟨kd,sr,ds,am⟩ n s k=true from HF))
            clear HNX HBD HRF HS
            cases v1:(x == sr) with
            | true =>
             cases v2:(x == ds) with
             | true =>
              have HA1:=HRA1.out;rw [if_pos (by simpa using v1)] at HA1
              have HA2:=HRA2.out;rw [if_pos (by simpa using v2)] at HA2
              have HA1:=Lib.hid HA1;have HA2:=Lib.hid HA2;clear HRA1 HRA2
              go_wp2
              go_quiet ((go_at_call 71;exact Calls.quiet_of_same (l1In_spec _ _ _ _)))
              go_wp2
              go_quiet (fail)
              go_wp2
              go_quiet (fail)
              go_wp2
              go_roundw
              case rel=>exact ⟨k+1,by omega,by go_num,by rw [HA1.out],by rw [HA2.out],HF.out,by repeat (first | exact HB3.out | refine below_drewN' ?_ _)⟩
              case measure=>simp [intOf];omega
             | false =>
              have HA1:=HRA1.out;rw [if_pos (by simpa using v1)] at HA1
              have HA2:=HRA2.out;rw [if_neg (by simpa using v2)] at HA2
              have HA1:=Lib.hid HA1;have HA2:=Lib.hid HA2;clear HRA1 HRA2
              go_wp2
              go_quiet ((go_at_call 71;exact Calls.quiet_of_same (l1In_spec _ _ _ _)))
              go_wp2
              go_quiet (fail)
              go_wp2
              go_quiet (fail)
              go_wp2
              go_roundw
              case rel=>exact ⟨k+1,by omega,by go_num,by rw [HA1.out],by rw [HA2.out],HF.out,by repeat (first | exact HB3.out | refine below_drewN' ?_ _)⟩
              case measure=>simp [intOf];omega
            | false =>
             cases v2:(x == ds) with
             | true =>
              have HA1:=HRA1.out;rw [if_neg (by simpa using v1)] at HA1
              have HA2:=HRA2.out;rw [if_pos (by simpa using v2)] at HA2
              have HA1:=Lib.hid HA1;have HA2:=Lib.hid HA2;clear HRA1 HRA2
              go_wp2
              go_quiet ((go_at_call 71;exact Calls.quiet_of_same (l1In_spec _ _ _ _)))
              go_wp2
              go_quiet (fail)
              go_wp2
              go_quiet (fail)
              go_wp2
              go_roundw
              case rel=>exact ⟨k+1,by omega,by go_num,by rw [HA1.out],by rw [HA2.out],HF.out,by repeat (first | exact HB3.out | refine below_drewN' ?_ _)⟩
              case measure=>simp [intOf];omega
             | false =>
              have HA1:=HRA1.out;rw [if_neg (by simpa using v1)] at HA1
              have HA2:=HRA2.out;rw [if_neg (by simpa using v2)] at HA2
              have HA1:=Lib.hid HA1;have HA2:=Lib.hid HA2;clear HRA1 HRA2
              go_wp2
              go_quiet ((go_at_call 71;exact Calls.quiet_of_same (l1In_spec _ _ _ _)))
              go_wp2
              go_quiet (fail)
              go_wp2
              go_quiet (fail)
              go_wp2
              go_roundw
              case rel=>exact ⟨k+1,by omega,by go_num,by rw [HA1.out],by rw [HA2.out],HF.out,by repeat (first | exact HB3.out | refine below_drewN' ?_ _)⟩
              case measure=>simp [intOf];omega
       · obtain rfl:k=m:=by omega
         have hFb:=rdTo_bd sr k (by rw [HRL.out];exact Nat.le_refl _) HTO.out
         have hTb:=rdTo_bd ds k (by rw [HRL.out];exact Nat.le_refl _) HTO.out
         have HS:=HS.out
         rw [HTO.out.all,Bool.true_and] at HS
         have htk:s.res.rds.take k=s.res.rds:=by rw [← HRL.out];exact List.take_length
         rw [htk] at hFb hTb ⊢
         unfold wantM at HS
         clear htk
         obtain ⟨F0,hF0⟩:∃ F0,F0=rdAt s.res.rds sr:=⟨_,rfl⟩
         obtain ⟨T0,hT0⟩:∃ T0,T0=rdAt s.res.rds ds:=⟨_,rfl⟩
         simp only at HS
         rw [← hF0] at HS hFb ⊢
         rw [← hT0] at HS hTb ⊢
         have HS:=Lib.hid HS
         have y0:=(hb.cell (p:=⟨b2,o2+n*4,none⟩) hbb2).trans y0
         have y1:=(hb.cell (p:=⟨b2,o2+n*4+1,none⟩) hbb2).trans y1
         have y2:=(hb.cell (p:=⟨b2,o2+n*4+2,none⟩) hbb2).trans y2
         have y3:=(hb.cell (p:=⟨b2,o2+n*4+3,none⟩) hbb2).trans y3
         have g1:=(hb.cell (p:=⟨w.heap.size,1,none⟩) zl2).trans g1
         have k3:=(hb.cell (p:=⟨w.heap.size+1,3,none⟩) zl3).trans k3
         have k5:=(hb.cell (p:=⟨w.heap.size+1,5,none⟩) zl3).trans k5
         have hww:=hww.below hb
         have hzb:=hb.size
         have zl5:w.heap.size+1 < wr.heap.size:=by omega
         have HB4:=Lib.hid (HB2.out.trans (hb.mono HB2.out.size))
         clear hF0 hT0 hri hfw hrw1 hb k2 k4
         go_wp2_with fail
         refine (l6Run_spec kd sr ds am F0 T0 _ HOK.out hFb hTb).mono ?_;rintro e1 w5 ⟨v5,rfl,ho5,hb5⟩
         obtain ⟨va,vb,rfl,ho6,ho7,-,hw7,-⟩:=ho5
         have hwl:=effK_wr (a:=⟨kd,sr,ds,am⟩) HOK.out hFb hTb
         obtain ⟨E5,hE5⟩:∃ E5,E5=effK kd sr ds am F0 T0:=⟨_,rfl⟩
         simp only at hwl
         rw [← hE5] at HS ho6 ho7 hw7 hwl ⊢
         have hw4:E5.wrs.length≤4000000:=by have:=wr_len hwl;omega
         clear hE5 hwl
         obtain ⟨dw,hdw⟩:∃ dw,dw=E5.done:=⟨_,rfl⟩
         rw [← hdw] at HS ⊢
         clear hdw
         obtain ⟨pa,pn,pc,rfl⟩:=slice_form ho6
         obtain ⟨qa,qc,rfl,hqr,-⟩:=rowE_of_owns ho7 hw4 hw7
         have hs5:=hb5.size
         have zl6:w.heap.size+1 < w5.heap.size:=by omega
         have k3:=(hb5.cell (p:=⟨w.heap.size+1,3,none⟩) zl5).trans k3
         have k5:=(hb5.cell (p:=⟨w.heap.size+1,5,none⟩) zl5).trans k5
         have hww:=hww.below hb5
         have HB5:=Lib.hid (HB4.out.trans (hb5.mono HB4.out.size))
         clear HB4 hb5 ho6 ho7 hw7 y0 y1 y2 y3 g1
         go_upto_region 20 with (fail)
         obtain ⟨W6,hW6⟩:∃ W6,W6=w5.alloc (.cells #[.bool dw,.slice pa pn pc,.slice qa E5.wrs.length qc] 39):=⟨_,rfl⟩
         have hb6:Below w5.heap.size w5 W6:=by rw [hW6];exact (Below.refl w5.heap.size w5).alloc (Nat.le_refl _) _
         have p0:W6.cell? ⟨w5.heap.size,0,none⟩=some (.bool dw):=by rw [hW6];simp [go_sem]
         have p2:W6.cell? ⟨w5.heap.size,2,none⟩=some (.slice qa E5.wrs.length qc):=by rw [hW6];simp [go_sem]
         have k3:=(hb6.cell (p:=⟨w.heap.size+1,3,none⟩) zl6).trans k3
         have k5:=(hb6.cell (p:=⟨w.heap.size+1,5,none⟩) zl6).trans k5
         have hww:=hww.below hb6
         have hqr:=hqr.below hb6
         have HB6:=Lib.hid (HB5.out.trans (hb6.mono HB5.out.size))
         rw [← hW6]
         clear hW6 hb6 HB5
         cases x1:(dn == dw) with
         | false =>
          have HF:=HS.out
          rw [x1] at HF
          have HF:=Lib.hid (show slotB ⟨kd,sr,ds,am⟩ n s=false from HF)
          clear HS hww hqr
          go_wp2_with fail
          go_ret
          exact ⟨by rw [HF.out];rfl,HB6.out⟩
         | true =>
          have HF:=HS.out
          rw [x1,Bool.true_and] at HF
          have HF:=Lib.hid HF
          clear HS
          go_wp2_with fail
          refine (l10SameEntries_spec aw qa nw cw _ qc s.res.wrs E5.wrs _ hww hqr).mono ?_;rintro e2 w7 ⟨rfl,hd7⟩
          obtain ⟨z,hz⟩:∃ z,z=decide (s.res.wrs=E5.wrs):=⟨_,rfl⟩
          rw [← hz] at HF ⊢
          have HB7:=Lib.hid (HB6.out.trans ((hd7.below W6.heap.size).mono HB6.out.size))
          clear hz hww hqr hd7 k3 k5 p0 p2 HB6
          go_wp2_with fail
          go_ret
          exact ⟨by rw [HF.out];rfl,HB7.out⟩
end Go.Proofs.YtaaffpolmecicabGreat
/- The contract of the model's EngineValid. -/
namespace Go.Proofs.YtaaffpolmecicabGreat
open Go.RowKit
set_option linter.unusedVariables false
set_option linter.unusedSimpArgs false
theorem engB_no {e:Eng} (h:EngOk e→False):engB e=false:=by
 rw [Bool.eq_false_iff];intro hh;exact h ((engB_iff e).1 hh)
def SlotTo (e:Eng) (k:Nat):Prop:=∀ j,j < k→slotB (e.list.getD j noA) j (e.slots.getD j noSlt)=true
theorem SlotTo.next {e:Eng} {k:Nat} (h:SlotTo e k) (hk:slotB (e.list.getD k noA) k (e.slots.getD k noSlt)=true):SlotTo e (k+1):=by
 intro j hj
 by_cases e1:j=k
 · rw [e1];exact hk
 · exact h j (by omega)
def SameV (l l':List Ver) (k:Nat):Prop:=∀ j,j < k→l.getD j noV=l'.getD j noV
theorem SameV.next {l l':List Ver} {k:Nat} (h:SameV l l' k) (hk:l.getD k noV=l'.getD k noV):SameV l l' (k+1):=by
 intro j hj
 by_cases e1:j=k
 · rw [e1];exact hk
 · exact h j (by omega)
theorem SameV.all {l l':List Ver} {k:Nat} (h:SameV l l' k) (h1:l.length=k) (h2:l'.length=k):l=l':=by
 refine List.ext_getElem (by rw [h1,h2]) fun i hi hi2=>?_
 have:=h i (by omega)
 rwa [List.getD_eq_getElem?_getD,List.getElem?_eq_getElem hi,List.getD_eq_getElem?_getD,List.getElem?_eq_getElem hi2] at this
def ChkTo (e:Eng) (k:Nat):Prop:=∀ j,j < k→stg e j=2→(j=0∨stg e (j - 1)=2)∧sameB e j=true
theorem ChkTo.next {e:Eng} {k:Nat} (h:ChkTo e k) (hk:stg e k=2→(k=0∨stg e (k - 1)=2)∧sameB e k=true):ChkTo e (k+1):=by
 intro j hj
 by_cases e1:j=k
 · rw [e1];exact hk
 · exact h j (by omega)
def VsTo (w:World) (B:Nat) (e0:TypeId) (v:Value) (e:Eng) (k:Nat):Prop :=
 Own w B e0 3 v (vsN (resL e) k).length (flatV (vsN (resL e) k))∧WfVs (vsN (resL e) k)∧VOk (vsN (resL e) k)∧SlotTo e k
theorem VsTo.below {w w':World} {B:Nat} {e0:TypeId} {v:Value} {e:Eng} {k:Nat} (h:VsTo w B e0 v e k) (hb:Below w.heap.size w w'):VsTo w' B e0 v e k:=⟨h.1.below hb,h.2⟩
set_option maxRecDepth 100000 in
set_option maxHeartbeats 4000000 in
theorem engineValid_spec (v1 v2 v3 v4:Value) (e:Eng) (w:World) (h:EngRd w v1 v2 v3 v4 e) :
  Calls Tryz.prog 46 #[.agg #[v1,v2,v3,v4]] w (BoolS (engB e) w):=by
 have hb0:=(Below.refl w.heap.size w).alloc (Nat.le_refl _) (.cells #[v1,v2,v3,v4] 57)
 have hg0:=egAt_new w 57 v1 v2 v3 v4
 have HX:=Lib.hid (fun h=>engB_no (e:=e) h)
 have HY:=Lib.hid (fun h=>(engB_iff e).2 h)
 have HR0:=Lib.hid h
 obtain ⟨⟨a1,n1,c1,rfl,hr1,-,-⟩,⟨a2,n2,c2,rfl,hr2,-,-⟩,⟨a3,n3,c3,rfl,hr3,-,-⟩,a4,n4,c4,rfl,hr4,-,-⟩:=h
 obtain ⟨W1,hW1⟩:∃ W1,W1=w.alloc (.cells #[.slice a1 n1 c1,.slice a2 n2 c2,.slice a3 n3 c3,.slice a4 n4 c4] 57):=⟨_,rfl⟩
 have hz1:W1.heap.size=w.heap.size+1:=by rw [hW1];simp
 have HW1:=Lib.hid hW1
 rw [← hW1] at hb0 hg0
 clear hW1
 have h1w:=hr1.below hb0
 have h2w:=hr2.below hb0
 have h3w:=hr3.below hb0
 have h4w:=hr4.below hb0
 have HR1:=Lib.hid (HR0.out.below hb0)
 have hl1:=hr1.1
 have hl2:=hr2.1
 have hl3:=hr3.1
 have hl4:=hr4.1
 have HL2:=Lib.hid hl2
 have HL3:=Lib.hid hl3
 have HL4:=Lib.hid hl4
 have hm4:=hr4.2.1
 unfold maxLen at hm4
 clear hr1 hr2 hr3 hr4 HR0 hl1 hl2 hl3 hl4
 go_enter Tryz.func46,Tryz.ntmps46
 go_upto_region 1 with (fail)
 rw [← HW1.out]
 obtain ⟨g0,g1,g2,g3,-,-,-,-⟩:=hg0
 clear HW1
 go_wp2_with fail
 refine (storeValid_spec a1 n1 c1 e.base _ h1w).mono ?_;rintro e1 w1 ⟨rfl,hd⟩
 have g0:=(hd.cell _).trans g0
 have g1:=(hd.cell _).trans g1
 have g2:=(hd.cell _).trans g2
 have g3:=(hd.cell _).trans g3
 have hd':=hd.below W1.heap.size
 have h2w:=h2w.below hd'
 have h3w:=h3w.below hd'
 have h4w:=h4w.below hd'
 have HR1:=Lib.hid (HR1.out.below hd')
 have hb1:=hb0.trans (hd'.mono hb0.size)
 have hz1:w.heap.size < w1.heap.size:=by have:=hd'.size;omega
 clear h1w hb0 hd hd'
 have HB1:=Lib.hid hb1;clear hb1
 cases x1:storeB e.base with
 | false =>
  have HF:=Lib.hid (HX.out (fun hh=>by have:=hh.base;rw [x1] at this;cases this))
  clear HX HY h2w h3w h4w
  go_wp2_with fail
  go_ret
  exact ⟨by rw [HF.out];rfl,HB1.out⟩
 | true =>
  go_wp2_with fail
  refine (actionsValid_spec a2 n2 c2 e.list _ h2w).mono ?_;rintro e1 w2 ⟨rfl,hb2'⟩
  have g0:=(hb2'.cell (p:=⟨w.heap.size,0,none⟩) hz1).trans g0
  have g1:=(hb2'.cell (p:=⟨w.heap.size,1,none⟩) hz1).trans g1
  have g2:=(hb2'.cell (p:=⟨w.heap.size,2,none⟩) hz1).trans g2
  have g3:=(hb2'.cell (p:=⟨w.heap.size,3,none⟩) hz1).trans g3
  have h3w:=h3w.below hb2'
  have h4w:=h4w.below hb2'
  have HR1:=Lib.hid (HR1.out.below hb2')
  have HB2:=Lib.hid (HB1.out.trans (hb2'.mono HB1.out.size))
  have hz2:w.heap.size < w2.heap.size:=by have:=hb2'.size;omega
  clear h2w hb2' HB1 hz1
  cases x2:actsB e.list with
  | false =>
   have HF:=Lib.hid (HX.out (fun hh=>by have:=hh.list;rw [x2] at this;cases this))
   clear HX HY h3w h4w
   go_wp2_with fail
   go_ret
   exact ⟨by rw [HF.out];rfl,HB2.out⟩
  | true =>
   cases x3:((n4:Int) != (n2:Int)) with
   | true =>
    have HF:=Lib.hid (HX.out (fun hh=>by have:=hh.len;rw [HL2.out,HL4.out] at this;subst this;simp at x3))
    clear HX HY h3w h4w
    go_wp2_with fail
    go_ret
    exact ⟨by rw [HF.out];rfl,HB2.out⟩
   | false =>
    go_upto_region 3 with (fail)
    obtain rfl:n4=n2:=by simp at x3;omega
    have HSB:=Lib.hid x1
    have HAB:=Lib.hid x2
    have hn10:n4≤10:=by rw [← HL2.out];exact (actsB_true x2).1
    clear x1 x2 x3
    have HO0:Hid (VsTo (w2.alloc (.cells #[] 73)) w.heap.size 73 (.slice (some ⟨w2.heap.size,0,none⟩) 0 0) e 0):=Lib.hid ⟨own_lit 73 3 #[] 0 (by omega) (by simp) rfl,fun x hx=>(by cases hx),⟨fun x hx=>(by cases hx),List.Pairwise.nil⟩,fun j hj=>absurd hj (by omega)⟩
    have hb3:=(Below.refl w2.heap.size w2).alloc (Nat.le_refl _) (.cells #[] 73)
    go_wp2_with fail
    go_loopw [3,4] (fun v i wr=>∃ k:Nat,k≤n4∧i = .int .i64 k∧VsTo wr w.heap.size 73 v e k∧Below w2.heap.size w2 wr) (fun _ i _=>n4 - (intOf i).toNat)
    case atStart=>exact ⟨0,Nat.zero_le _,rfl,HO0.out,hb3⟩
    case round =>
     obtain ⟨k,hk,rfl,hvs,hb⟩:=hrel
     clear HO0 hb3
     have HVS:=Lib.hid hvs;clear hvs
     have h3:=(hb.cell (p:=⟨w.heap.size,3,none⟩) hz2).trans g3
     by_cases hlt:k < n4
     · have h0:=(hb.cell (p:=⟨w.heap.size,0,none⟩) hz2).trans g0
       have h1:=(hb.cell (p:=⟨w.heap.size,1,none⟩) hz2).trans g1
       have h2:=(hb.cell (p:=⟨w.heap.size,2,none⟩) hz2).trans g2
       obtain ⟨b4,o4,rfl,hsl⟩:=(h4w.below hb).at k hlt
       have HACT:=Lib.hid ((actsB_true HAB.out).2 _ (getD_memA e.list k (by rw [HL2.out];exact hlt)))
       have HR3:=Lib.hid (HR1.out.below hb)
       have hz3:w.heap.size < wr.heap.size:=by have:=hb.size;omega
       have HSTEP:Hid (vsN (resL e) (k+1)=putL (vsN (resL e) k) (k:Int) (e.slots.getD k noSlt).res.wrs):=Lib.hid (by show putL _ _ _ = _;rw [resL_get])
       have HSL:=Lib.hid hsl;clear hsl
       go_wp2_with fail
       refine (l10Slot_spec _ _ _ _ e k _ HR3.out (by rw [HL4.out];exact hlt) (by rw [HL2.out];exact hlt) HACT.out).mono ?_;rintro e1 w3 ⟨rfl,hb3'⟩
       have h3:=(hb3'.cell (p:=⟨w.heap.size,3,none⟩) hz3).trans h3
       have hb3:=hb.trans (hb3'.mono hb.size)
       have hz4:w.heap.size≤w3.heap.size:=by have:=hb3'.size;omega
       have HSL:=Lib.hid (HSL.out.below hb3')
       have HVS:=Lib.hid (HVS.out.below hb3')
       clear h0 h1 h2 hb hb3' hz3 HR3
       cases x4:slotB (e.list.getD k noA) k (e.slots.getD k noSlt) with
       | false =>
        have HF:=Lib.hid (HX.out (fun hh=>by have:=hh.slot k (by rw [HL4.out];exact hlt);rw [x4] at this;cases this))
        have HB3:=Lib.hid (HB2.out.trans (hb3.mono HB2.out.size))
        clear HX HY h3w h4w HSTEP
        go_wp2_with fail
        go_ret
        exact ⟨by rw [HF.out];rfl,HB3.out⟩
       | true =>
        have hwr:=slot_wr HACT.out x4
        have HTO:=Lib.hid (HVS.out.2.2.2.next x4)
        clear x4
        have HSX:=HSL.out
        obtain ⟨s,hs⟩:∃ s,s=e.slots.getD k noSlt:=⟨_,rfl⟩
        rw [← hs] at HSX hwr HSTEP
        clear hs HSL
        obtain ⟨-,-,-,-,-,vw,s5,aw,nw,cw,rfl,hrw,-,-⟩:=HSX
        have hnw:nw≤100000:=by have:=wr_len hwr;have:=hrw.1;omega
        obtain ⟨ho,hwf,hok,-⟩:=HVS.out
        have hvl:=vers_len hok
        obtain ⟨g5,c5,rfl,-,-,hrv,-⟩:=rowV_of_own ho (by omega) hwf
        have HOK:=Lib.hid (ok_putL hok (inB_yes (by omega:(0:Int)≤(k:Int)) (by omega:(k:Int)≤9)) hwr)
        have i1:(0:Int)≤(k:Int):=by omega
        have i2:(k:Int) < (n4:Int):=by omega
        have hkw:(Lit.int .i64 (k:Int)).wf=true:=WalkArith.wf_i64 (by omega)
        clear ho hwf hok hwr HVS
        go_wp2_with fail
        refine (l9Put_spec _ _ c5 (vsN (resL e) k) (k:Int) aw nw cw s.res.wrs _ hrv (by omega) hrw hnw hkw).mono ?_;rintro e2 w5 ⟨v5,rfl,ho5,hw5,hb5⟩
        rw [← HSTEP.out] at ho5 hw5 HOK
        have HV5:Hid (VsTo w5 w.heap.size 73 v5 e (k+1)):=Lib.hid ⟨ho5.mono hz4,hw5,HOK.out,HTO.out⟩
        have HB5:=Lib.hid (hb3.trans (hb5.mono hb3.size))
        clear ho5 hw5 hb5 hb3 hrv hrw HOK
        go_wp2_with fail
        go_roundw
        case rel=>exact ⟨k+1,by omega,by go_num,HV5.out,HB5.out⟩
        case measure=>simp [intOf];omega
     · obtain rfl:k=n4:=by omega
       obtain ⟨ho,hwf,hok,hto⟩:=HVS.out
       have hvl:=vers_len hok
       obtain ⟨g5,c5,rfl,-,-,hrv,-⟩:=rowV_of_own ho (by omega) hwf
       have HTO:=Lib.hid hto
       have h0:=(hb.cell (p:=⟨w.heap.size,0,none⟩) hz2).trans g0
       have h1:=(hb.cell (p:=⟨w.heap.size,1,none⟩) hz2).trans g1
       have h2:=(hb.cell (p:=⟨w.heap.size,2,none⟩) hz2).trans g2
       have h3k:=h3w.below hb
       have h4k:=h4w.below hb
       have HR4:=Lib.hid (HR1.out.below hb)
       have HB4:=Lib.hid (HB2.out.trans (hb.mono HB2.out.size))
       have hz4:w.heap.size < wr.heap.size:=by have:=hb.size;omega
       have HXV:=Lib.hid (fun (hne:e.vers≠vsN (resL e) k)=>HX.out (fun hh=>hne (by rw [hh.vers,HL4.out])))
       clear ho hwf hok hto HVS hb h3w h4w g0 g1 g2 g3 HR1 HB2 hz2
       obtain ⟨V,hV⟩:∃ V,V=vsN (resL e) k:=⟨_,rfl⟩
       have HVV:=Lib.hid hV
       rw [← hV] at hrv hvl HXV ⊢
       clear hV
       obtain ⟨m,hm⟩:∃ m,m=V.length:=⟨_,rfl⟩
       have HVL:=Lib.hid hm.symm
       rw [← hm] at hrv hvl ⊢
       clear hm
       cases x5:((m:Int) != (n3:Int)) with
       | true =>
        have HF:=Lib.hid (HXV.out (fun hh=>by have h5:=HL3.out;rw [hh,HVL.out] at h5;subst h5;simp at x5))
        clear HX HXV HY h3k h4k hrv
        go_wp2_with fail
        go_ret
        exact ⟨by rw [HF.out];rfl,HB4.out⟩
       | false =>
        go_upto_region 12 with (fail)
        obtain rfl:m=n3:=by simp at x5;omega
        clear x5
        obtain ⟨wo,hwo⟩:∃ wo,wo=wr:=⟨wr,rfl⟩
        subst hwo
        have hm4000:m≤4000:=by omega
        go_wp2_with fail
        go_loopw [5] (fun i wr=>∃ j:Nat,j≤m∧i = .int .i64 j∧SameV V e.vers j∧Drawn wo wr) (fun i _=>m - (intOf i).toNat)
        case atStart=>exact ⟨0,Nat.zero_le _,rfl,fun j hj=>absurd hj (by omega),Drawn.refl _⟩
        case round =>
         obtain ⟨j,hj,rfl,hsv,hd⟩:=hrel
         have HSV:=Lib.hid hsv;clear hsv
         have h0:=(hd.cell _).trans h0
         have h1:=(hd.cell _).trans h1
         have h2:=(hd.cell _).trans h2
         have h3:=(hd.cell _).trans h3
         by_cases hlt2:j < m
         · obtain ⟨b3,o3,rfl,hc3⟩:=h3k.2.2.1 (by omega)
           obtain ⟨b5,o5,he5,hc5⟩:=hrv.2.2.1 (by omega)
           obtain ⟨rfl,rfl⟩:g5=b5∧o5=0:=by simp at he5;exact ⟨he5.1,he5.2.symm⟩
           obtain ⟨c0,c1,c2⟩:=hc3 j hlt2
           obtain ⟨d0,d1,d2⟩:=hc5 j hlt2
           simp only [Nat.zero_add] at d0 d1 d2
           have c0:=(hd.cell _).trans c0
           have c1:=(hd.cell _).trans c1
           have c2:=(hd.cell _).trans c2
           have d0:=(hd.cell _).trans d0
           have d1:=(hd.cell _).trans d1
           have d2:=(hd.cell _).trans d2
           have HN:=Lib.hid (fun hh=>HSV.out.next (k:=j) hh)
           have HBD:Hid (V.getD j noV≠e.vers.getD j noV→engB e=false):=Lib.hid (fun hne=>HXV.out (fun hh=>hne (by rw [hh])))
           clear h3k hrv hc3 hc5 he5 h4k HX HXV HY
           obtain ⟨x,hx⟩:∃ x,x=V.getD j noV:=⟨_,rfl⟩
           obtain ⟨y,hy⟩:∃ y,y=e.vers.getD j noV:=⟨_,rfl⟩
           rw [← hx] at d0 d1 d2 HN HBD
           rw [← hy] at c0 c1 c2 HN HBD
           clear hx hy
           obtain ⟨p1,q1,r1⟩:=x
           obtain ⟨p2,q2,r2⟩:=y
           simp only at c0 c1 c2 d0 d1 d2
           have HD:=Lib.hid hd
           have HB5:=Lib.hid (HB4.out.trans ((hd.below wo.heap.size).mono HB4.out.size))
           clear hd
           cases e1:(p1 == p2) with
           | false =>
            have HF:=Lib.hid (HBD.out (by simp at e1;simp [e1]))
            clear HN HBD
            go_wp2
            go_quiet (fail)
            go_wp2
            go_ret
            exact ⟨by rw [HF.out];rfl,below_drewN' HB5.out _⟩
           | true =>
            cases e2:(q1 == q2) with
            | false =>
             have HF:=Lib.hid (HBD.out (by simp at e1 e2;simp [e1,e2]))
             clear HN HBD
             go_wp2
             go_quiet (fail)
             go_wp2
             go_ret
             exact ⟨by rw [HF.out];rfl,below_drewN' HB5.out _⟩
            | true =>
             cases e3:(r1 == r2) with
             | false =>
              have HF:=Lib.hid (HBD.out (by simp at e1 e2 e3;simp [e1,e2,e3]))
              clear HN HBD
              go_wp2
              go_quiet (fail)
              go_wp2
              go_ret
              exact ⟨by rw [HF.out];rfl,below_drewN' HB5.out _⟩
             | true =>
              have HF:=Lib.hid (HN.out (by simp at e1 e2 e3;simp [e1,e2,e3]))
              clear HN HBD
              go_wp2
              go_quiet (fail)
              go_wp2
              go_roundw
              case rel=>exact ⟨j+1,by omega,by go_num,HF.out,HD.out.drewN _⟩
              case measure=>simp [intOf];omega
         · obtain rfl:j=m:=by omega
           have HVE:=Lib.hid (HSV.out.all HVL.out HL3.out)
           have hd':=hd.below wo.heap.size
           have h4k:=h4k.below hd'
           have HR5:=Lib.hid (HR4.out.below hd')
           have HB5:=Lib.hid (HB4.out.trans (hd'.mono HB4.out.size))
           have hz5:w.heap.size < wr.heap.size:=by have:=hd'.size;omega
           clear hd hd' hrv h3k HR4 HB4 hz4 HSV HXV
           go_upto_region 17 with (fail)
           obtain ⟨wp,hwp⟩:∃ wp,wp=wr:=⟨wr,rfl⟩
           subst hwp
           go_wp2_with fail
           go_loopw [6] (fun i wr=>∃ j:Nat,j≤k∧i = .int .i64 j∧ChkTo e j∧Below wp.heap.size wp wr) (fun i _=>k - (intOf i).toNat)
           case atStart=>exact ⟨0,Nat.zero_le _,rfl,fun j hj=>absurd hj (by omega),Below.refl _ _⟩
           case round =>
            obtain ⟨t,ht,rfl,hct,hb⟩:=hrel
            have HCT:=Lib.hid hct;clear hct
            have h0:=(hb.cell (p:=⟨w.heap.size,0,none⟩) hz5).trans h0
            have h1:=(hb.cell (p:=⟨w.heap.size,1,none⟩) hz5).trans h1
            have h2:=(hb.cell (p:=⟨w.heap.size,2,none⟩) hz5).trans h2
            have h3:=(hb.cell (p:=⟨w.heap.size,3,none⟩) hz5).trans h3
            have HB6:=Lib.hid (HB5.out.trans (hb.mono HB5.out.size))
            by_cases hlt2:t < k
            · have hat:=(h4k.below hb).at
              obtain ⟨b4,o4,rfl,hsl⟩:=hat t hlt2
              have hprev:0 < t→wr.cell? ⟨b4,o4+(t - 1)*6,none⟩=some (.int .i64 (stg e (t - 1))):=fun h0=>by
               obtain ⟨b5,o5,he,hs5⟩:=hat (t - 1) (by omega)
               simp only [Option.some.injEq,Addr.mk.injEq,and_true] at he
               obtain ⟨rfl,rfl⟩:=he
               exact hs5.1
              have hst:wr.cell? ⟨b4,o4+t*6,none⟩=some (.int .i64 (stg e t)):=hsl.1
              have HSB2:=Lib.hid (HTO.out t hlt2)
              have HACT:=Lib.hid ((actsB_true HAB.out).2 _ (getD_memA e.list t (by rw [HL2.out];exact hlt2)))
              have HFL:Hid (stg e t=2→(e.slots.getD t noSlt).res.rds.length≤(e.slots.getD t noSlt).from_.length):=Lib.hid (fun h2=>by
               have hsi:=slot_old HACT.out HSB2.out (by unfold stg at h2;omega)
               rw [hsi.rds,List.length_map,hsi.flen];exact Nat.le_refl _)
              have HNX:=Lib.hid (fun hh=>HCT.out.next (k:=t) hh)
              have HBD:Hid (stg e t=2→¬((t=0∨stg e (t - 1)=2)∧sameB e t=true)→engB e=false):=Lib.hid (fun h2 hne=>HX.out (fun hh=>hne (hh.chk t (by rw [HL4.out];exact hlt2) h2)))
              have HSM:=Lib.hid (fun hf=>l10Same_spec _ _ _ _ e t wr (HR5.out.below hb) (by rw [HL4.out];exact hlt2) hf)
              have HDB:=Lib.hid hb
              clear hat hsl h4k hb HX HY HSB2 HACT
              obtain ⟨st,hs0⟩:∃ st,st=stg e t:=⟨_,rfl⟩
              obtain ⟨ps,hs1⟩:∃ ps,ps=stg e (t - 1):=⟨_,rfl⟩
              obtain ⟨sm,hs2⟩:∃ sm,sm=sameB e t:=⟨_,rfl⟩
              rw [← hs0] at hst HFL HNX HBD
              rw [← hs1] at hprev HNX HBD
              rw [← hs2] at HNX HBD HSM
              clear hs0 hs1 hs2
              have i1:(0:Int)≤(t:Int):=by omega
              have i2:(t:Int) < (k:Int):=by omega
              cases x6:(st != 2) with
              | true =>
               have HF:=Lib.hid (HNX.out (fun h2=>by rw [h2] at x6;simp at x6))
               clear HNX HBD HFL HSM hprev
               go_wp2_with fail
               go_roundw
               case rel=>exact ⟨t+1,by omega,by go_num,HF.out,HDB.out⟩
               case measure=>simp [intOf];omega
              | false =>
               have hst2:st=2:=by simpa using x6
               have HSM2:=Lib.hid (HSM.out (HFL.out hst2))
               have HST:=Lib.hid hst2
               clear HSM HFL hst2
               by_cases ht0:t=0
               · have z1:decide (0 < t)=false:=decide_eq_false (by omega)
                 have z2:decide ((0:Int) < (t:Int))=false:=decide_eq_false (by omega)
                 have HT0:=Lib.hid ht0
                 clear hprev ht0
                 go_wp2_with fail
                 refine HSM2.out.mono ?_;rintro e1 w7 ⟨rfl,hb7⟩
                 have HB7:=Lib.hid (HB6.out.trans (hb7.mono HB6.out.size))
                 have HD7:=Lib.hid (HDB.out.trans (hb7.mono HDB.out.size))
                 clear hb7 HSM2
                 cases sm with
                 | false =>
                  have HF:=Lib.hid (HBD.out HST.out (fun hh=>by have:=hh.2;cases this))
                  clear HNX HBD
                  go_wp2_with fail
                  go_ret
                  exact ⟨by rw [HF.out];rfl,HB7.out⟩
                 | true =>
                  have HF:=Lib.hid (HNX.out (fun h2=>⟨.inl HT0.out,rfl⟩))
                  clear HNX HBD
                  go_wp2_with fail
                  go_roundw
                  case rel=>exact ⟨t+1,by omega,by go_num,HF.out,HD7.out⟩
                  case measure=>simp [intOf];omega
               · have z1:decide (0 < t)=true:=decide_eq_true (by omega)
                 have z2:decide ((0:Int) < (t:Int))=true:=decide_eq_true (by omega)
                 have hprev:=hprev (by omega)
                 have ek:IntKind.i64.wrap ((t:Int) - 1)=((t - 1:Nat):Int):=by rw [IntWalk.i64_in _ (by omega)];omega
                 have i3:(0:Int)≤((t - 1:Nat):Int):=by omega
                 have i4:((t - 1:Nat):Int) < (k:Int):=by omega
                 have HT0:=Lib.hid ht0
                 clear ht0
                 cases x7:(ps != 2) with
                 | true =>
                  have HF:=Lib.hid (HBD.out HST.out (fun hh=>by
                   rcases hh.1 with h5 | h5
                   · exact HT0.out h5
                   · rw [h5] at x7;simp at x7))
                  clear HNX HBD HSM2
                  go_wp2_with fail
                  go_ret
                  exact ⟨by rw [HF.out];rfl,HB6.out⟩
                 | false =>
                  have HP2:Hid (ps=2):=Lib.hid (by simpa using x7)
                  go_wp2_with fail
                  refine HSM2.out.mono ?_;rintro e1 w7 ⟨rfl,hb7⟩
                  have HB7:=Lib.hid (HB6.out.trans (hb7.mono HB6.out.size))
                  have HD7:=Lib.hid (HDB.out.trans (hb7.mono HDB.out.size))
                  clear hb7 HSM2 hprev
                  cases sm with
                  | false =>
                   have HF:=Lib.hid (HBD.out HST.out (fun hh=>by have:=hh.2;cases this))
                   clear HNX HBD
                   go_wp2_with fail
                   go_ret
                   exact ⟨by rw [HF.out];rfl,HB7.out⟩
                  | true =>
                   have HF:=Lib.hid (HNX.out (fun h2=>⟨.inr HP2.out,rfl⟩))
                   clear HNX HBD
                   go_wp2_with fail
                   go_roundw
                   case rel=>exact ⟨t+1,by omega,by go_num,HF.out,HD7.out⟩
                   case measure=>simp [intOf];omega
            · obtain rfl:t=k:=by omega
              have HF:Hid (engB e=true):=Lib.hid (HY.out ⟨HSB.out,HAB.out,by rw [HL4.out,HL2.out],fun n hn=>HTO.out n (by rw [HL4.out] at hn;exact hn),by rw [← HVE.out,HVV.out,HL4.out],fun n hn h2=>HCT.out n (by rw [HL4.out] at hn;exact hn) h2⟩)
              clear HY HX h4k hb
              go_wp2_with fail
              go_ret
              exact ⟨by rw [HF.out];rfl,HB6.out⟩
end Go.Proofs.YtaaffpolmecicabGreat
/- The contracts of the model's EngineDone and TriesOf. -/
namespace Go.Proofs.YtaaffpolmecicabGreat
open Go.RowKit
set_option linter.unusedVariables false
set_option linter.unusedSimpArgs false
def doneE (e:Eng):Bool:=engB e && (List.range e.slots.length).all fun n=>decide (stg e n=2)
theorem doneE_no {e:Eng} (h:engB e=false):doneE e=false:=by unfold doneE;rw [h];rfl
theorem doneE_bad {e:Eng} {k:Nat} (hk:k < e.slots.length) (h:stg e k≠2):doneE e=false:=by
 rw [Bool.eq_false_iff]
 intro hh
 unfold doneE at hh
 rw [Bool.and_eq_true] at hh
 exact h (of_decide_eq_true (List.all_eq_true.1 hh.2 k (List.mem_range.2 hk)))
theorem doneE_yes {e:Eng} (h:engB e=true) (hd:∀ n,n < e.slots.length→stg e n=2):doneE e=true:=by
 unfold doneE
 rw [h,Bool.true_and]
 exact List.all_eq_true.2 fun k hk=>decide_eq_true (hd k (List.mem_range.1 hk))
theorem doneE_iff (e:Eng):doneE e=true ↔ engB e=true∧∀ n,n < e.slots.length→stg e n=2:=by
 constructor
 · intro h
   unfold doneE at h
   rw [Bool.and_eq_true] at h
   exact ⟨h.1,fun n hn=>of_decide_eq_true (List.all_eq_true.1 h.2 n (List.mem_range.2 hn))⟩
 · exact fun h=>doneE_yes h.1 h.2
set_option maxRecDepth 100000 in
set_option maxHeartbeats 4000000 in
theorem engineDone_spec (v1 v2 v3 v4:Value) (e:Eng) (w:World) (h:EngRd w v1 v2 v3 v4 e) :
  Calls Tryz.prog 49 #[.agg #[v1,v2,v3,v4]] w (BoolS (doneE e) w):=by
 have hb0:=(Below.refl w.heap.size w).alloc (Nat.le_refl _) (.cells #[v1,v2,v3,v4] 57)
 have hg0:=egAt_new w 57 v1 v2 v3 v4
 have HR1:=Lib.hid (h.below hb0)
 obtain ⟨-,-,-,a4,n4,c4,rfl,hr4,-,-⟩:=h
 have HL4:=Lib.hid hr4.1
 have hm4:=hr4.2.1
 unfold maxLen at hm4
 have h4w:=hr4.below hb0
 clear hr4
 obtain ⟨W1,hW1⟩:∃ W1,W1=w.alloc (.cells #[v1,v2,v3,.slice a4 n4 c4] 57):=⟨_,rfl⟩
 have hz1:w.heap.size < W1.heap.size:=by rw [hW1];simp
 have HW1:=Lib.hid hW1
 rw [← hW1] at hb0 hg0 h4w HR1
 clear hW1
 obtain ⟨g0,g1,g2,g3,-,-,-,-⟩:=hg0
 go_enter Tryz.func49,Tryz.ntmps49
 go_upto_region 1 with (fail)
 rw [← HW1.out]
 clear HW1
 go_wp2_with fail
 refine (engineValid_spec _ _ _ _ e _ HR1.out).mono ?_;rintro e1 w2 ⟨rfl,hb⟩
 have g3:=(hb.cell (p:=⟨w.heap.size,3,none⟩) hz1).trans g3
 have h4w:=h4w.below hb
 have HB2:=Lib.hid (hb0.trans (hb.mono hb0.size))
 clear hb hb0 HR1 g0 g1 g2 hz1
 cases x1:engB e with
 | false =>
  have HF:=Lib.hid (doneE_no x1)
  clear h4w
  go_wp2_with fail
  go_ret
  exact ⟨by rw [HF.out];rfl,HB2.out⟩
 | true =>
  have HX:=Lib.hid x1
  go_wp2_with fail
  clear x1
  go_loopw [3] (fun i wr=>∃ k:Nat,k≤n4∧i = .int .i64 k∧(∀ n,n < k→stg e n=2)∧wr=w2) (fun i _=>n4 - (intOf i).toNat)
  case atStart=>exact ⟨0,Nat.zero_le _,rfl,fun n hn=>absurd hn (by omega),rfl⟩
  case round =>
   obtain ⟨k,hk,rfl,hto,rfl⟩:=hrel
   have HTO:=Lib.hid hto;clear hto
   by_cases hlt:k < n4
   · obtain ⟨b4,o4,rfl,hsl⟩:=h4w.at k hlt
     have hst:wr.cell? ⟨b4,o4+k*6,none⟩=some (.int .i64 (stg e k)):=hsl.1
     have HBD:=Lib.hid (fun hh=>doneE_bad (e:=e) (k:=k) (by rw [HL4.out];exact hlt) hh)
     have HN:Hid (stg e k=2→∀ n,n < k+1→stg e n=2):=Lib.hid (fun h2 n hn=>by
      by_cases h3:n=k
      · rw [h3];exact h2
      · exact HTO.out n (by omega))
     clear hsl h4w
     obtain ⟨st,hs0⟩:∃ st,st=stg e k:=⟨_,rfl⟩
     rw [← hs0] at hst HBD HN
     clear hs0
     have i1:(0:Int)≤(k:Int):=by omega
     have i2:(k:Int) < (n4:Int):=by omega
     cases x6:(st != 2) with
     | true =>
      have HF:=Lib.hid (HBD.out (by simpa using x6))
      clear HBD HN
      go_wp2_with fail
      go_ret
      exact ⟨by rw [HF.out];rfl,HB2.out⟩
     | false =>
      have HF:=Lib.hid (HN.out (by simpa using x6))
      clear HBD HN
      go_wp2_with fail
      go_roundw
      case rel=>exact ⟨k+1,by omega,by go_num,HF.out,by first | rfl | trivial⟩
      case measure=>simp [intOf];omega
   · obtain rfl:k=n4:=by omega
     have HF:=Lib.hid (doneE_yes HX.out (fun n hn=>HTO.out n (by rw [HL4.out] at hn;exact hn)))
     clear h4w
     go_wp2_with fail
     go_ret
     exact ⟨by rw [HF.out];rfl,HB2.out⟩
end Go.Proofs.YtaaffpolmecicabGreat
