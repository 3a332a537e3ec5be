/- Texts of ours that stand together: EqA, ImplTr -/
import Derived.Test.YtpnjgmgmakmgeaaGreatTrM
import Derived.Test.YtpnjgmgmakmgeaaGreatActs
import Derived.Test.YtpnjgmgmakmgeaaGreatTrI
import Derived.Test.YtpnjgmgmakmgeaaGreatBkI
import Derived.Test.YtpnjgmgmakmgeaaGreatTwo
import Derived.Deep.Cut
import Derived.StillTailTactics
/- The contract of slices.Equal at actions (gen16/eqa.py). -/
namespace Go.Proofs.YtpnjgmgmakmgeaaGreat
open Go.RowKit
set_option linter.unusedVariables false
set_option linter.unusedSimpArgs false
set_option maxHeartbeats 1000000 in
theorem equalA_any (a a':Option Addr) (n cap n' cap':Nat) (l l':List Acn) (w:World) (h:RowA w a n l) (h':RowA w a' n' l') :
  Calls Tryz.prog 165 #[.slice a n cap,.slice a' n' cap'] w (BoolQ (decide (l=l')) w):=by
 obtain ⟨hl,hm,hc,-⟩:=h
 obtain ⟨hl',hm',hc',-⟩:=h'
 unfold maxLen at hm hm'
 by_cases hn:n=n'
 · subst hn
   have HE:=Lib.hid (fun (h:EqToT noA l l' n)=>h.all hl hl')
   have HX:=Lib.hid (fun (k:Nat) (h:l.getD k noA≠l'.getD k noA)=>eqToT_bad h)
   clear hl hl'
   by_cases h0:0 < n
   · obtain ⟨b,off,rfl,hcc⟩:=hc h0;clear hc;have hc:=hcc;clear hcc
     obtain ⟨b',off',rfl,hcc⟩:=hc' h0;clear hc';have hc':=hcc;clear hcc
     go_enter Tryz.func165,Tryz.ntmps165
     go_wp2
     go_loopw [13] (fun i wr=>∃ k:Nat,k≤n∧i = .int .i64 k∧EqToT noA l l' k∧Drawn w wr) (fun i _=>n - (intOf i).toNat)
     case atStart=>exact ⟨0,Nat.zero_le _,rfl,fun j hj=>absurd hj (by omega),Drawn.refl _⟩
     case round =>
      obtain ⟨k,hk,rfl,hto,hd⟩:=hrel
      have HTO:=Lib.hid hto;clear hto
      by_cases hlt:k < n
      · obtain ⟨p0,p1,p2,p3⟩:=hc k hlt
        obtain ⟨q0,q1,q2,q3⟩:=hc' k hlt
        have hc0:=(hd.cell _).trans p0
        have hd0:=(hd.cell _).trans q0
        have hc1:=(hd.cell _).trans p1
        have hd1:=(hd.cell _).trans q1
        have hc2:=(hd.cell _).trans p2
        have hd2:=(hd.cell _).trans q2
        have hc3:=(hd.cell _).trans p3
        have hd3:=(hd.cell _).trans q3
        have HN:=Lib.hid (fun hh=>EqToT.next (k:=k) HTO.out hh)
        have HB:=Lib.hid (HX.out k)
        clear hc hc' HX HE p0 q0 p1 q1 p2 q2 p3 q3
        obtain ⟨x,hx⟩:∃ x,x=l.getD k noA:=⟨_,rfl⟩
        obtain ⟨y,hy⟩:∃ y,y=l'.getD k noA:=⟨_,rfl⟩
        rw [← hx] at hc0 hc1 hc2 hc3 HN HB
        rw [← hy] at hd0 hd1 hd2 hd3 HN HB
        clear hx hy
        obtain ⟨x1,x2,x3,x4⟩:=x
        obtain ⟨y1,y2,y3,y4⟩:=y
        simp only at hc0 hd0 hc1 hd1 hc2 hd2 hc3 hd3
        have HD:=Lib.hid hd;clear hd
        cases e0:(x1 == y1) with
        | false =>
         have HF:=Lib.hid (HB.out (by simp at e0;simp [e0]))
         clear HB HN
         go_wp2
         go_quiet (fail)
         go_wp2
         go_ret
         exact ⟨by rw [HF.out];rfl,HD.out.drewN _⟩
        | true =>
         cases e1:(x2 == y2) with
         | false =>
          have HF:=Lib.hid (HB.out (by simp at e0 e1;simp [e0,e1]))
          clear HB HN
          go_wp2
          go_quiet (fail)
          go_wp2
          go_ret
          exact ⟨by rw [HF.out];rfl,HD.out.drewN _⟩
         | true =>
          cases e2:(x3 == y3) with
          | false =>
           have HF:=Lib.hid (HB.out (by simp at e0 e1 e2;simp [e0,e1,e2]))
           clear HB HN
           go_wp2
           go_quiet (fail)
           go_wp2
           go_ret
           exact ⟨by rw [HF.out];rfl,HD.out.drewN _⟩
          | true =>
           cases e3:(x4 == y4) with
           | false =>
            have HF:=Lib.hid (HB.out (by simp at e0 e1 e2 e3;simp [e0,e1,e2,e3]))
            clear HB HN
            go_wp2
            go_quiet (fail)
            go_wp2
            go_ret
            exact ⟨by rw [HF.out];rfl,HD.out.drewN _⟩
           | true =>
            have HF:=Lib.hid (HN.out (by simp at e0 e1 e2 e3;simp [e0,e1,e2,e3]))
            clear HB HN
            go_wp2
            go_quiet (fail)
            go_wp2
            go_roundw
            case rel=>exact ⟨k+1,by omega,by go_num,HF.out,HD.out.drewN _⟩
            case measure=>simp [intOf];omega
      · obtain rfl:k=n:=by omega
        have HF:=Lib.hid (HE.out HTO.out)
        clear hc hc' HE HX
        go_wp2
        go_ret
        exact ⟨by rw [HF.out];rfl,hd⟩
   · obtain rfl:n=0:=by omega
     have HF:=Lib.hid (HE.out (fun j hj=>absurd hj (by omega)))
     clear hc hc' HE HX
     go_enter Tryz.func165,Tryz.ntmps165
     go_wp2
     go_loop [13] (fun i=>i = .int .i64 0) (fun _=>0)
     case atStart=>rfl
     case round =>
      subst hrel
      go_wp2
      go_ret
      exact ⟨by rw [HF.out];rfl,Drawn.refl _⟩
 · have HF:=Lib.hid (eqToT_len (l:=l) (l':=l') (by omega))
   have e1:((n:Int) != (n':Int))=true:=by simp;omega
   clear hc hc' hl hl'
   go_enter Tryz.func165,Tryz.ntmps165
   go_wp2
   go_ret
   exact ⟨by rw [HF.out];rfl,Drawn.refl _⟩
theorem numberOf_impl (Z m k:Nat) (v1 v2 v3:Value) (L:List Blk) (s:Int) (w:World) (hb:IxAt w Z v1 v2 v3 (.map (some m))) (hm:MapF w m k (idxF L)) (hs:(Lit.int .i64 s).wf=true) :
  Calls Tryz.prog 89 #[.pointer (some ⟨Z,0,none⟩),.int .i64 s] w fun e w'=>e = .returned (.int .i64 (findL L s))∧w=w':=by
 obtain ⟨c0,c1,c2,c3,-⟩:=hb
 have HM:=Lib.hid hm
 have HS:=Lib.hid hs
 clear hm hs
 by_cases h:findL L s = -1
 · have HF:=Lib.hid (idxF_none h)
   rw [h]
   clear h
   go_enter Tryz.func89,Tryz.ntmps89
   go_wp2_with (first | (at_lookup;refine wpList_lookup_no _ rfl _ _ rfl m k (idxF L) s (by rfl) (by rfl) HM.out HS.out HF.out ?_))
   go_ret
   exact ⟨rfl,rfl⟩
 · have HF:=Lib.hid (idxF_some h)
   obtain ⟨v,hv⟩:∃ v,v=findL L s:=⟨_,rfl⟩
   rw [← hv] at HF ⊢
   clear hv h
   go_enter Tryz.func89,Tryz.ntmps89
   go_wp2_with (first | (at_lookup;refine wpList_lookup_yes _ rfl _ _ rfl m k (idxF L) s v (by rfl) (by rfl) HM.out HS.out HF.out ?_))
   go_ret
   exact ⟨rfl,rfl⟩
def nxtB (x y:Blk):Bool:=decide (x.hgt=y.hgt+1) && decide (x.view > y.view)
theorem isNext_impl (x y:Blk) (a a':Value) (w:World) (hh:y.hgt≤1000) (hh2 : -1000≤y.hgt) :
  Calls Tryz.prog 149 #[.agg #[.int .i64 x.bef,.int .i64 x.hgt,.int .i64 x.view,a,.int .i64 x.root,.int .i64 x.effs],.agg #[.int .i64 y.bef,.int .i64 y.hgt,.int .i64 y.view,a',.int .i64 y.root,.int .i64 y.effs]] w (BoolB (nxtB x y) w):=by
 have hb0:=((Below.refl w.heap.size w).alloc (Nat.le_refl _) (.cells #[.int .i64 x.bef,.int .i64 x.hgt,.int .i64 x.view,a,.int .i64 x.root,.int .i64 x.effs] 37)).alloc (by simp) (.cells #[.int .i64 y.bef,.int .i64 y.hgt,.int .i64 y.view,a',.int .i64 y.root,.int .i64 y.effs] 37)
 have HB:=Lib.hid hb0
 clear hb0
 obtain ⟨p,q,r,L,t,u⟩:=x
 obtain ⟨p',q',r',L',t',u'⟩:=y
 simp only at hh hh2 HB ⊢
 by_cases h0:q=q'+1
 · have e0:(q == q'+1)=true:=by simp [h0]
   by_cases h1:r > r'
   · have HN:Hid (nxtB ⟨p,q,r,L,t,u⟩ ⟨p',q',r',L',t',u'⟩=true):=Lib.hid (by simp [nxtB,h0,h1])
     have e1:decide (r > r')=true:=by simp [h1]
     have e2:decide (r' < r)=true:=by simpa using h1
     clear h0
     go_enter Tryz.func149,Tryz.ntmps149
     go_wp2
     go_ret
     exact ⟨by rw [HN.out];rfl,HB.out⟩
   · have HN:Hid (nxtB ⟨p,q,r,L,t,u⟩ ⟨p',q',r',L',t',u'⟩=false):=Lib.hid (by simp [nxtB,h0];omega)
     have e1:decide (r > r')=false:=by simp;omega
     have e2:decide (r' < r)=false:=by simp;omega
     clear h0
     go_enter Tryz.func149,Tryz.ntmps149
     go_wp2
     go_ret
     exact ⟨by rw [HN.out];rfl,HB.out⟩
 · have e0:(q == q'+1)=false:=by simp [h0]
   have HN:Hid (nxtB ⟨p,q,r,L,t,u⟩ ⟨p',q',r',L',t',u'⟩=false):=Lib.hid (by simp [nxtB,h0])
   clear h0
   go_enter Tryz.func149,Tryz.ntmps149
   go_wp2
   go_ret
   exact ⟨by rw [HN.out];rfl,HB.out⟩
theorem blkEq_ne {x y:Blk} (h:x.bef≠y.bef∨x.hgt≠y.hgt∨x.view≠y.view∨x.root≠y.root∨x.effs≠y.effs∨x.acts≠y.acts):decide (x=y)=false:=by
 refine decide_eq_false (fun e=>?_)
 subst e;simp at h
set_option maxRecDepth 100000 in
set_option maxHeartbeats 4000000 in
theorem equals_impl (p q r t u p' q' r' t' u':Int) (a a':Option Addr) (n c n' c':Nat) (L L':List Acn) (w:World) (h:RowA w a n L) (h':RowA w a' n' L') :
  Calls Tryz.prog 127 #[.agg #[.int .i64 p,.int .i64 q,.int .i64 r,.slice a n c,.int .i64 t,.int .i64 u],.agg #[.int .i64 p',.int .i64 q',.int .i64 r',.slice a' n' c',.int .i64 t',.int .i64 u']] w (BoolB (decide ((⟨p,q,r,L,t,u⟩:Blk)=⟨p',q',r',L',t',u'⟩)) w):=by
 obtain ⟨vv,hvv⟩:∃ vv,vv=decide ((⟨p,q,r,L,t,u⟩:Blk)=⟨p',q',r',L',t',u'⟩):=⟨_,rfl⟩
 have HV:=Lib.hid hvv
 rw [← hvv]
 clear hvv
 have hb0:=((Below.refl w.heap.size w).alloc (Nat.le_refl _) (.cells #[.int .i64 p,.int .i64 q,.int .i64 r,.slice a n c,.int .i64 t,.int .i64 u] 37)).alloc (by simp) (.cells #[.int .i64 p',.int .i64 q',.int .i64 r',.slice a' n' c',.int .i64 t',.int .i64 u'] 37)
 have hA:=(bkAt_new w 37 (.int .i64 p) (.int .i64 q) (.int .i64 r) (.slice a n c) (.int .i64 t) (.int .i64 u)).below ((Below.refl _ _).alloc (Nat.le_refl _) (.cells #[.int .i64 p',.int .i64 q',.int .i64 r',.slice a' n' c',.int .i64 t',.int .i64 u'] 37))
 have hA':=bkAt_new (w.alloc (.cells #[.int .i64 p,.int .i64 q,.int .i64 r,.slice a n c,.int .i64 t,.int .i64 u] 37)) 37 (.int .i64 p') (.int .i64 q') (.int .i64 r') (.slice a' n' c') (.int .i64 t') (.int .i64 u')
 rw [World.size_alloc] at hA'
 obtain ⟨W1,hW1⟩:∃ W1,W1=(w.alloc (.cells #[.int .i64 p,.int .i64 q,.int .i64 r,.slice a n c,.int .i64 t,.int .i64 u] 37)).alloc (.cells #[.int .i64 p',.int .i64 q',.int .i64 r',.slice a' n' c',.int .i64 t',.int .i64 u'] 37):=⟨_,rfl⟩
 have HW1:=Lib.hid hW1
 have hr:=h.below (hW1 ▸ hb0)
 have hr':=h'.below (hW1 ▸ hb0)
 rw [← hW1] at hb0 hA hA'
 clear hW1 h h'
 have HR:=Lib.hid hr
 have HR':=Lib.hid hr'
 have HB:=Lib.hid hb0
 clear hr hr' hb0
 by_cases h0:p=p'
 case neg =>
  have HD:=Lib.hid (blkEq_ne (x:=⟨p,q,r,L,t,u⟩) (y:=⟨p',q',r',L',t',u'⟩) (by simp [h0]))
  have e0:(p == p')=false:=by simp [h0]
  clear h0
  go_enter Tryz.func127,Tryz.ntmps127
  go_upto_region 1 with (fail)
  rw [← HW1.out]
  clear HW1
  obtain ⟨x0,x1,x2,x3,x4,x5,-⟩:=hA
  obtain ⟨y0,y1,y2,y3,y4,y5,-⟩:=hA'
  go_wp2_with fail
  go_ret
  exact ⟨by rw [HV.out,HD.out];rfl,HB.out⟩
 have e0:(p == p')=true:=by simp [h0]
 have H0:=Lib.hid h0
 clear h0
 by_cases h1:q=q'
 case neg =>
  have HD:=Lib.hid (blkEq_ne (x:=⟨p,q,r,L,t,u⟩) (y:=⟨p',q',r',L',t',u'⟩) (by simp [h1]))
  have e1:(q == q')=false:=by simp [h1]
  clear h1
  go_enter Tryz.func127,Tryz.ntmps127
  go_upto_region 1 with (fail)
  rw [← HW1.out]
  clear HW1
  obtain ⟨x0,x1,x2,x3,x4,x5,-⟩:=hA
  obtain ⟨y0,y1,y2,y3,y4,y5,-⟩:=hA'
  go_wp2_with fail
  go_ret
  exact ⟨by rw [HV.out,HD.out];rfl,HB.out⟩
 have e1:(q == q')=true:=by simp [h1]
 have H1:=Lib.hid h1
 clear h1
 by_cases h2:r=r'
 case neg =>
  have HD:=Lib.hid (blkEq_ne (x:=⟨p,q,r,L,t,u⟩) (y:=⟨p',q',r',L',t',u'⟩) (by simp [h2]))
  have e2:(r == r')=false:=by simp [h2]
  clear h2
  go_enter Tryz.func127,Tryz.ntmps127
  go_upto_region 1 with (fail)
  rw [← HW1.out]
  clear HW1
  obtain ⟨x0,x1,x2,x3,x4,x5,-⟩:=hA
  obtain ⟨y0,y1,y2,y3,y4,y5,-⟩:=hA'
  go_wp2_with fail
  go_ret
  exact ⟨by rw [HV.out,HD.out];rfl,HB.out⟩
 have e2:(r == r')=true:=by simp [h2]
 have H2:=Lib.hid h2
 clear h2
 by_cases h3:t=t'
 case neg =>
  have HD:=Lib.hid (blkEq_ne (x:=⟨p,q,r,L,t,u⟩) (y:=⟨p',q',r',L',t',u'⟩) (by simp [h3]))
  have e3:(t == t')=false:=by simp [h3]
  clear h3
  go_enter Tryz.func127,Tryz.ntmps127
  go_upto_region 1 with (fail)
  rw [← HW1.out]
  clear HW1
  obtain ⟨x0,x1,x2,x3,x4,x5,-⟩:=hA
  obtain ⟨y0,y1,y2,y3,y4,y5,-⟩:=hA'
  go_wp2_with fail
  go_ret
  exact ⟨by rw [HV.out,HD.out];rfl,HB.out⟩
 have e3:(t == t')=true:=by simp [h3]
 have H3:=Lib.hid h3
 clear h3
 by_cases h4:u=u'
 case neg =>
  have HD:=Lib.hid (blkEq_ne (x:=⟨p,q,r,L,t,u⟩) (y:=⟨p',q',r',L',t',u'⟩) (by simp [h4]))
  have e4:(u == u')=false:=by simp [h4]
  clear h4
  go_enter Tryz.func127,Tryz.ntmps127
  go_upto_region 1 with (fail)
  rw [← HW1.out]
  clear HW1
  obtain ⟨x0,x1,x2,x3,x4,x5,-⟩:=hA
  obtain ⟨y0,y1,y2,y3,y4,y5,-⟩:=hA'
  go_wp2_with fail
  go_ret
  exact ⟨by rw [HV.out,HD.out];rfl,HB.out⟩
 have e4:(u == u')=true:=by simp [h4]
 have H4:=Lib.hid h4
 clear h4
 have HD:Hid (decide ((⟨p,q,r,L,t,u⟩:Blk)=⟨p',q',r',L',t',u'⟩)=decide (L=L')):=Lib.hid (by rw [H0.out,H1.out,H2.out,H3.out,H4.out];simp)
 go_enter Tryz.func127,Tryz.ntmps127
 go_upto_region 1 with (fail)
 rw [← HW1.out]
 clear HW1
 obtain ⟨x0,x1,x2,x3,x4,x5,-⟩:=hA
 obtain ⟨y0,y1,y2,y3,y4,y5,-⟩:=hA'
 go_wp2_with fail
 refine (equalA_any a a' n c n' c' L L' _ HR.out HR'.out).mono ?_;rintro e w2 ⟨rfl,hd2⟩
 have HB2:=Lib.hid (HB.out.trans (hd2.below w.heap.size))
 clear hd2
 go_wp2_with fail
 go_ret
 exact ⟨by rw [HV.out,HD.out];rfl,HB2.out⟩
set_option maxRecDepth 100000 in
set_option maxHeartbeats 4000000 in
theorem copied_impl (x:Blk) (a:Option Addr) (n c:Nat) (w:World) (h:RowA w a n x.acts) (hz:a=none→c=0) (hn:n≤3000000) (hw:WfB x) :
  Calls Tryz.prog 150 #[.agg #[.int .i64 x.bef,.int .i64 x.hgt,.int .i64 x.view,.slice a n c,.int .i64 x.root,.int .i64 x.effs]] w (NewBk w 113 x):=by
 have hl:=h.1
 have hwf:WfAs x.acts:=h.2.2.2
 obtain ⟨p,q,r,L,t,u⟩:=x
 simp only at h hl hwf ⊢
 have hb0:=((Below.refl w.heap.size w).alloc (Nat.le_refl _) (.cells #[.int .i64 p,.int .i64 q,.int .i64 r,.slice a n c,.int .i64 t,.int .i64 u] 37)).alloc (by simp) (.cells #[.int .i64 0,.int .i64 0,.int .i64 0,.slice none 0 0,.int .i64 0,.int .i64 0] 37)
 have hA:=(bkAt_new w 37 (.int .i64 p) (.int .i64 q) (.int .i64 r) (.slice a n c) (.int .i64 t) (.int .i64 u)).below ((Below.refl _ _).alloc (Nat.le_refl _) (.cells #[.int .i64 0,.int .i64 0,.int .i64 0,.slice none 0 0,.int .i64 0,.int .i64 0] 37))
 have hA':=bkAt_new (w.alloc (.cells #[.int .i64 p,.int .i64 q,.int .i64 r,.slice a n c,.int .i64 t,.int .i64 u] 37)) 37 (.int .i64 0) (.int .i64 0) (.int .i64 0) (.slice none 0 0) (.int .i64 0) (.int .i64 0)
 rw [World.size_alloc] at hA'
 obtain ⟨W1,hW1⟩:∃ W1,W1=(w.alloc (.cells #[.int .i64 p,.int .i64 q,.int .i64 r,.slice a n c,.int .i64 t,.int .i64 u] 37)).alloc (.cells #[.int .i64 0,.int .i64 0,.int .i64 0,.slice none 0 0,.int .i64 0,.int .i64 0] 37):=⟨_,rfl⟩
 have HW1:=Lib.hid hW1
 have hs1:w.heap.size+2≤W1.heap.size:=by rw [hW1];simp
 have hr:=h.below (hW1 ▸ hb0)
 rw [← hW1] at hb0 hA hA'
 clear hW1 h
 have HR:=Lib.hid hr
 have HB:=Lib.hid hb0
 have HWF:=Lib.hid hwf
 have HWB:=Lib.hid hw
 have HL:=Lib.hid hl
 clear hr hb0 hwf hw hl
 have HCL:=Lib.hid (cloneAct_any a n c L W1 HR.out hz hn)
 clear hz
 have hA1:=hA
 have hA1':=hA'
 go_enter Tryz.func150,Tryz.ntmps150
 go_upto_region 1 with (fail)
 rw [← HW1.out]
 clear HW1
 obtain ⟨x0,x1,x2,x3,x4,x5,-⟩:=hA
 clear hA'
 go_wp2_with fail
 refine HCL.out.mono ?_;rintro e w2 ⟨v,rfl,ho,hb2⟩
 obtain ⟨ag,ng,kg,rfl⟩:=slice_form ho
 clear x0 x1 x2 x3 x4 x5 HCL
 have hX:=hA1.below hb2
 have hY:=hA1'.below hb2
 have hX3:=hX.set345 (.slice ag ng kg) (.int .i64 t) (.int .i64 u)
 have hs2:=hb2.size
 have hnb:∀ g,Value.ownBlock (.slice ag ng kg)=some g→w.heap.size+2≤g:=fun g hg=>by have:=(ho.lt g hg).1;omega
 have hob:Value.ownBlock (.slice ag ng kg)≠some w.heap.size:=fun e=>by have:=hnb _ e;omega
 have hob':Value.ownBlock (.slice ag ng kg)≠some (w.heap.size+1):=fun e=>by have:=hnb _ e;omega
 have HO:=Lib.hid (owns_mono (owns_set6 (owns_set ho hob 3 (.slice ag ng kg)) hob' (.int .i64 p) (.int .i64 q) (.int .i64 r) (.slice ag ng kg) (.int .i64 t) (.int .i64 u)) (show w.heap.size≤W1.heap.size by omega))
 have hYk:=hY.keep (w':=w2.setCell ⟨w.heap.size,3,none⟩ (.slice ag ng kg)) (Below.heap_setCell _ _ _ _ (by simp))
 have HF:=Lib.hid (hYk.set6 (.int .i64 p) (.int .i64 q) (.int .i64 r) (.slice ag ng kg) (.int .i64 t) (.int .i64 u))
 have hbb:=HB.out.trans (hb2.mono HB.out.size)
 have HBF:=Lib.hid (below_set6 (show Below w.heap.size w (w2.setCell ⟨w.heap.size,3,none⟩ (.slice ag ng kg)) from hbb.setCell (Nat.le_refl _) _) (Z:=w.heap.size+1) (by omega) (.int .i64 p) (.int .i64 q) (.int .i64 r) (.slice ag ng kg) (.int .i64 t) (.int .i64 u))
 obtain ⟨z0,z1,z2,z3,z4,z5,zf0,zf1,zf2,zf3,zf4,zf5⟩:=hYk
 obtain ⟨x0,x1,x2,x3,x4,x5,f0,f1,f2,f3,f4,f5⟩:=hX
 clear hX3 hbb hb2 ho hA1 hA1' hY hnb hob hob'
 go_wp2_with fail
 refine bodyPost_ret (results_blk Tryz.results150 _ (by rfl) HF.out) rfl ?_
 exact ⟨_,rfl,by rw [HL.out];exact HO.out,HWF.out,HWB.out,HBF.out⟩
end Go.Proofs.YtpnjgmgmakmgeaaGreat
