/- Texts of ours that stand together: EqSl, ImplSlot, ImplSlot2, ImplFits -/
import Derived.Test.YtaaffpolmecicabGreatVerA
import Derived.Test.YtaaffpolmecicabGreatEngM
import Derived.Test.YtaaffpolmecicabGreatTwo
import Derived.Deep.Cut
import Derived.Test.YtaaffpolmecicabGreatSix
import Derived.Test.YtaaffpolmecicabGreatRegJ
/- The contracts of slices.Equal at entries and at versions (gen11/eqsl.py). -/
namespace Go.Proofs.YtaaffpolmecicabGreat
open Go.RowKit
set_option linter.unusedVariables false
set_option linter.unusedSimpArgs false
def EqTo {α : Type} (d : α) (l l':List α) (k:Nat):Prop:=∀ j,j < k→l.getD j d=l'.getD j d
theorem EqTo.next {α : Type} {d : α} {l l':List α} {k:Nat} (h:EqTo d l l' k) (hk:l.getD k d=l'.getD k d):EqTo d l l' (k+1):=by
 intro j hj
 by_cases e1:j=k
 · rw [e1];exact hk
 · exact h j (by omega)
theorem EqTo.all {α : Type} [DecidableEq α] {d : α} {l l':List α} {k:Nat} (h:EqTo d l l' k) (h1:l.length=k) (h2:l'.length=k):decide (l=l')=true:=by
 refine decide_eq_true (List.ext_getElem (by rw [h1,h2]) fun i hi hi2=>?_)
 have:=h i (by omega)
 rwa [List.getD_eq_getElem?_getD,List.getElem?_eq_getElem hi,List.getD_eq_getElem?_getD,List.getElem?_eq_getElem hi2] at this
theorem eqTo_bad {α : Type} [DecidableEq α] {d : α} {l l':List α} {k:Nat} (h:l.getD k d≠l'.getD k d):decide (l=l')=false:=decide_eq_false (fun he=>h (by rw [he]))
theorem eqTo_len {α : Type} [DecidableEq α] {l l':List α} (h:l.length≠l'.length):decide (l=l')=false:=decide_eq_false (fun he=>h (by rw [he]))
set_option maxHeartbeats 1000000 in
theorem equalE_any (a a':Option Addr) (n cap n' cap':Nat) (l l':List Ent) (w:World) (h:RowE w a n l) (h':RowE w a' n' l') :
  Calls Tryz.prog 193 #[.slice a n cap,.slice a' n' cap'] w (BoolQ (decide (l=l')) w):=by
 obtain ⟨hl,hm,hc,-⟩:=h
 obtain ⟨hl',hm',hc',-⟩:=h'
 unfold maxLen at hm hm'
 by_cases hn:n=n'
 · subst hn
   have HE:=Lib.hid (fun (h:EqTo (0,0) l l' n)=>h.all hl hl')
   have HX:=Lib.hid (fun (k:Nat) (h:l.getD k (0,0)≠l'.getD k (0,0))=>eqTo_bad h)
   clear hl hl'
   by_cases h0:0 < n
   · obtain ⟨b,off,rfl,hcc⟩:=hc h0;clear hc;have hc:=hcc;clear hcc
     obtain ⟨b',off',rfl,hcc⟩:=hc' h0;clear hc';have hc':=hcc;clear hcc
     go_enter Tryz.func193,Tryz.ntmps193
     go_wp2
     go_loopw [13] (fun i wr=>∃ k:Nat,k≤n∧i = .int .i64 k∧EqTo (0,0) l l' k∧Drawn w wr) (fun i _=>n - (intOf i).toNat)
     case atStart=>exact ⟨0,Nat.zero_le _,rfl,fun j hj=>absurd hj (by omega),Drawn.refl _⟩
     case round =>
      obtain ⟨k,hk,rfl,hto,hd⟩:=hrel
      have HTO:=Lib.hid hto;clear hto
      by_cases hlt:k < n
      · obtain ⟨p0,p1⟩:=hc k hlt
        obtain ⟨q0,q1⟩:=hc' k hlt
        have hc0:=(hd.cell _).trans p0
        have hd0:=(hd.cell _).trans q0
        have hc1:=(hd.cell _).trans p1
        have hd1:=(hd.cell _).trans q1
        have HN:=Lib.hid (fun hh=>EqTo.next (k:=k) HTO.out hh)
        have HB:=Lib.hid (HX.out k)
        clear hc hc' HX HE p0 q0 p1 q1
        obtain ⟨x,hx⟩:∃ x,x=l.getD k (0,0):=⟨_,rfl⟩
        obtain ⟨y,hy⟩:∃ y,y=l'.getD k (0,0):=⟨_,rfl⟩
        rw [← hx] at hc0 hc1 HN HB
        rw [← hy] at hd0 hd1 HN HB
        clear hx hy
        obtain ⟨x1,x2⟩:=x
        obtain ⟨y1,y2⟩:=y
        simp only at hc0 hd0 hc1 hd1
        have HD:=Lib.hid hd;clear hd
        cases e0:(x1 == y1) with
        | false =>
         have HF:=Lib.hid (HB.out (by simp at e0;simp [e0]))
         clear HB HN
         go_wp2
         go_quiet (fail)
         go_wp2
         go_ret
         exact ⟨by rw [HF.out];rfl,HD.out.drewN _⟩
        | true =>
         cases e1:(x2 == y2) with
         | false =>
          have HF:=Lib.hid (HB.out (by simp at e0 e1;simp [e0,e1]))
          clear HB HN
          go_wp2
          go_quiet (fail)
          go_wp2
          go_ret
          exact ⟨by rw [HF.out];rfl,HD.out.drewN _⟩
         | true =>
          have HF:=Lib.hid (HN.out (by simp at e0 e1;simp [e0,e1]))
          clear HB HN
          go_wp2
          go_quiet (fail)
          go_wp2
          go_roundw
          case rel=>exact ⟨k+1,by omega,by go_num,HF.out,HD.out.drewN _⟩
          case measure=>simp [intOf];omega
      · obtain rfl:k=n:=by omega
        have HF:=Lib.hid (HE.out HTO.out)
        clear hc hc' HE HX
        go_wp2
        go_ret
        exact ⟨by rw [HF.out];rfl,hd⟩
   · obtain rfl:n=0:=by omega
     have HF:=Lib.hid (HE.out (fun j hj=>absurd hj (by omega)))
     clear hc hc' HE HX
     go_enter Tryz.func193,Tryz.ntmps193
     go_wp2
     go_loop [13] (fun i=>i = .int .i64 0) (fun _=>0)
     case atStart=>rfl
     case round =>
      subst hrel
      go_wp2
      go_ret
      exact ⟨by rw [HF.out];rfl,Drawn.refl _⟩
 · have HF:=Lib.hid (eqTo_len (l:=l) (l':=l') (by omega))
   have e1:((n:Int) != (n':Int))=true:=by simp;omega
   clear hc hc' hl hl'
   go_enter Tryz.func193,Tryz.ntmps193
   go_wp2
   go_ret
   exact ⟨by rw [HF.out];rfl,Drawn.refl _⟩
set_option maxHeartbeats 1000000 in
theorem equalV_any (a a':Option Addr) (n cap n' cap':Nat) (l l':List Ver) (w:World) (h:RowV w a n l) (h':RowV w a' n' l') :
  Calls Tryz.prog 113 #[.slice a n cap,.slice a' n' cap'] w (BoolQ (decide (l=l')) w):=by
 obtain ⟨hl,hm,hc,-⟩:=h
 obtain ⟨hl',hm',hc',-⟩:=h'
 unfold maxLen at hm hm'
 by_cases hn:n=n'
 · subst hn
   have HE:=Lib.hid (fun (h:EqTo noV l l' n)=>h.all hl hl')
   have HX:=Lib.hid (fun (k:Nat) (h:l.getD k noV≠l'.getD k noV)=>eqTo_bad h)
   clear hl hl'
   by_cases h0:0 < n
   · obtain ⟨b,off,rfl,hcc⟩:=hc h0;clear hc;have hc:=hcc;clear hcc
     obtain ⟨b',off',rfl,hcc⟩:=hc' h0;clear hc';have hc':=hcc;clear hcc
     go_enter Tryz.func113,Tryz.ntmps113
     go_wp2
     go_loopw [13] (fun i wr=>∃ k:Nat,k≤n∧i = .int .i64 k∧EqTo noV l l' k∧Drawn w wr) (fun i _=>n - (intOf i).toNat)
     case atStart=>exact ⟨0,Nat.zero_le _,rfl,fun j hj=>absurd hj (by omega),Drawn.refl _⟩
     case round =>
      obtain ⟨k,hk,rfl,hto,hd⟩:=hrel
      have HTO:=Lib.hid hto;clear hto
      by_cases hlt:k < n
      · obtain ⟨p0,p1,p2⟩:=hc k hlt
        obtain ⟨q0,q1,q2⟩:=hc' k hlt
        have hc0:=(hd.cell _).trans p0
        have hd0:=(hd.cell _).trans q0
        have hc1:=(hd.cell _).trans p1
        have hd1:=(hd.cell _).trans q1
        have hc2:=(hd.cell _).trans p2
        have hd2:=(hd.cell _).trans q2
        have HN:=Lib.hid (fun hh=>EqTo.next (k:=k) HTO.out hh)
        have HB:=Lib.hid (HX.out k)
        clear hc hc' HX HE p0 q0 p1 q1 p2 q2
        obtain ⟨x,hx⟩:∃ x,x=l.getD k noV:=⟨_,rfl⟩
        obtain ⟨y,hy⟩:∃ y,y=l'.getD k noV:=⟨_,rfl⟩
        rw [← hx] at hc0 hc1 hc2 HN HB
        rw [← hy] at hd0 hd1 hd2 HN HB
        clear hx hy
        obtain ⟨x1,x2,x3⟩:=x
        obtain ⟨y1,y2,y3⟩:=y
        simp only at hc0 hd0 hc1 hd1 hc2 hd2
        have HD:=Lib.hid hd;clear hd
        cases e0:(x1 == y1) with
        | false =>
         have HF:=Lib.hid (HB.out (by simp at e0;simp [e0]))
         clear HB HN
         go_wp2
         go_quiet (fail)
         go_wp2
         go_ret
         exact ⟨by rw [HF.out];rfl,HD.out.drewN _⟩
        | true =>
         cases e1:(x2 == y2) with
         | false =>
          have HF:=Lib.hid (HB.out (by simp at e0 e1;simp [e0,e1]))
          clear HB HN
          go_wp2
          go_quiet (fail)
          go_wp2
          go_ret
          exact ⟨by rw [HF.out];rfl,HD.out.drewN _⟩
         | true =>
          cases e2:(x3 == y3) with
          | false =>
           have HF:=Lib.hid (HB.out (by simp at e0 e1 e2;simp [e0,e1,e2]))
           clear HB HN
           go_wp2
           go_quiet (fail)
           go_wp2
           go_ret
           exact ⟨by rw [HF.out];rfl,HD.out.drewN _⟩
          | true =>
           have HF:=Lib.hid (HN.out (by simp at e0 e1 e2;simp [e0,e1,e2]))
           clear HB HN
           go_wp2
           go_quiet (fail)
           go_wp2
           go_roundw
           case rel=>exact ⟨k+1,by omega,by go_num,HF.out,HD.out.drewN _⟩
           case measure=>simp [intOf];omega
      · obtain rfl:k=n:=by omega
        have HF:=Lib.hid (HE.out HTO.out)
        clear hc hc' HE HX
        go_wp2
        go_ret
        exact ⟨by rw [HF.out];rfl,hd⟩
   · obtain rfl:n=0:=by omega
     have HF:=Lib.hid (HE.out (fun j hj=>absurd hj (by omega)))
     clear hc hc' HE HX
     go_enter Tryz.func113,Tryz.ntmps113
     go_wp2
     go_loop [13] (fun i=>i = .int .i64 0) (fun _=>0)
     case atStart=>rfl
     case round =>
      subst hrel
      go_wp2
      go_ret
      exact ⟨by rw [HF.out];rfl,Drawn.refl _⟩
 · have HF:=Lib.hid (eqTo_len (l:=l) (l':=l') (by omega))
   have e1:((n:Int) != (n':Int))=true:=by simp;omega
   clear hc hc' hl hl'
   go_enter Tryz.func113,Tryz.ntmps113
   go_wp2
   go_ret
   exact ⟨by rw [HF.out];rfl,Drawn.refl _⟩
end Go.Proofs.YtaaffpolmecicabGreat
/- The contracts of the program's Effect.equals,Slot.triedAtLeast and Slot.readEarlier. -/
namespace Go.Proofs.YtaaffpolmecicabGreat
open Go.RowKit
set_option linter.unusedVariables false
set_option linter.unusedSimpArgs false
set_option maxHeartbeats 2000000 in
theorem equals_impl (x y:Eff) (a1:Option Addr) (n1 c1:Nat) (a2:Option Addr) (n2 c2:Nat) (b1:Option Addr) (m1 d1:Nat) (b2:Option Addr) (m2 d2:Nat) (w:World) (h1:RowE w a1 n1 x.rds) (h2:RowE w a2 n2 x.wrs) (k1:RowE w b1 m1 y.rds) (k2:RowE w b2 m2 y.wrs) :
  Calls Tryz.prog 187 #[.agg #[.bool x.done,.slice a1 n1 c1,.slice a2 n2 c2],.agg #[.bool y.done,.slice b1 m1 d1,.slice b2 m2 d2]] w (BoolB (sameF x y) w):=by
 have hb0:=((Below.refl w.heap.size w).alloc (Nat.le_refl _) (.cells #[.bool x.done,.slice a1 n1 c1,.slice a2 n2 c2] 39)).alloc (by simp) (.cells #[.bool y.done,.slice b1 m1 d1,.slice b2 m2 d2] 39)
 have h1:=h1.below hb0
 have h2:=h2.below hb0
 have k1:=k1.below hb0
 have k2:=k2.below hb0
 obtain ⟨W,hW⟩:∃ W,W=(w.alloc (.cells #[.bool x.done,.slice a1 n1 c1,.slice a2 n2 c2] 39)).alloc (.cells #[.bool y.done,.slice b1 m1 d1,.slice b2 m2 d2] 39):=⟨_,rfl⟩
 have hz:w.heap.size+2≤W.heap.size:=by rw [hW];simp
 have p0:W.cell? ⟨w.heap.size,0,none⟩=some (.bool x.done):=by rw [hW];simp [go_sem]
 have p1:W.cell? ⟨w.heap.size,1,none⟩=some (.slice a1 n1 c1):=by rw [hW];simp [go_sem]
 have p2:W.cell? ⟨w.heap.size,2,none⟩=some (.slice a2 n2 c2):=by rw [hW];simp [go_sem]
 have q0:W.cell? ⟨w.heap.size+1,0,none⟩=some (.bool y.done):=by rw [hW];simp [go_sem]
 have q1:W.cell? ⟨w.heap.size+1,1,none⟩=some (.slice b1 m1 d1):=by rw [hW];simp [go_sem]
 have q2:W.cell? ⟨w.heap.size+1,2,none⟩=some (.slice b2 m2 d2):=by rw [hW];simp [go_sem]
 rw [← hW] at hb0 h1 h2 k1 k2
 have HW:=Lib.hid hW;clear hW
 have HF:Hid (sameF x y=((x.done == y.done) && decide (x.rds=y.rds) && decide (x.wrs=y.wrs))):=Lib.hid rfl
 obtain ⟨dx,hdx⟩:∃ d,d=x.done:=⟨_,rfl⟩
 obtain ⟨dy,hdy⟩:∃ d,d=y.done:=⟨_,rfl⟩
 rw [← hdx] at p0 HF HW
 rw [← hdy] at q0 HF HW
 rw [← hdx,← hdy]
 clear hdx hdy
 cases hd:(dx == dy) with
 | false =>
  have HR:=Lib.hid (HF.out.trans (by rw [hd];first | done | rfl))
  clear HF h1 h2 k1 k2
  go_enter Tryz.func187,Tryz.ntmps187
  go_upto_region 1 with (fail)
  rw [← HW.out]
  clear HW
  go_wp2
  go_ret
  exact ⟨by rw [HR.out];rfl,hb0⟩
 | true =>
  go_enter Tryz.func187,Tryz.ntmps187
  go_upto_region 1 with (fail)
  rw [← HW.out]
  clear HW
  go_wp2_with fail
  refine (equalE_any a1 b1 n1 c1 m1 d1 x.rds y.rds _ h1 k1).mono ?_;rintro e w1 ⟨rfl,hdr⟩
  have p2:=(hdr.cell _).trans p2
  have q2:=(hdr.cell _).trans q2
  have h2:=h2.below (hdr.below _)
  have k2:=k2.below (hdr.below _)
  have hb1:=hb0.trans ((hdr.below W.heap.size).mono hb0.size)
  clear h1 k1 p0 p1 q0 q1 hdr hb0 hz
  cases e1:decide (x.rds=y.rds) with
  | false =>
   have HR:=Lib.hid (HF.out.trans (by rw [hd,e1];first | done | rfl))
   clear HF h2 k2
   go_wp2
   go_ret
   exact ⟨by rw [HR.out];rfl,hb1⟩
  | true =>
   have HR:=Lib.hid (HF.out.trans (by rw [hd,e1];first | done | rfl))
   clear HF
   go_wp2_with fail
   refine (equalE_any a2 b2 n2 c2 m2 d2 x.wrs y.wrs _ h2 k2).mono ?_;rintro e w2 ⟨rfl,hdr⟩
   have hb2:=hb1.trans ((hdr.below w1.heap.size).mono hb1.size)
   clear h2 k2 hdr
   obtain ⟨v,hv⟩:∃ v,v=decide (x.wrs=y.wrs):=⟨_,rfl⟩
   rw [← hv] at HR ⊢
   clear hv
   go_wp2
   go_ret
   exact ⟨by rw [HR.out];rfl,hb2⟩
theorem tried_impl (st tr lo:Int) (d:Bool) (a1:Option Addr) (n1 c1:Nat) (a2:Option Addr) (n2 c2:Nat) (a3:Option Addr) (n3 c3:Nat) (w:World) :
  Calls Tryz.prog 186 #[.agg #[.int .i64 st,.int .i64 tr,.slice a1 n1 c1,.bool d,.slice a2 n2 c2,.slice a3 n3 c3],.int .i64 lo] w (BoolB (inB tr lo 1000) w):=by
 have hb0:=(Below.refl w.heap.size w).alloc (Nat.le_refl _) (.cells #[.int .i64 st,.int .i64 tr,.slice a1 n1 c1,.bool d,.slice a2 n2 c2,.slice a3 n3 c3] 75)
 by_cases h1:lo≤tr
 · by_cases h2:tr≤1000
   · have HF:=Lib.hid (inB_yes h1 h2)
     go_enter Tryz.func186,Tryz.ntmps186
     go_wp2
     go_ret
     exact ⟨by rw [HF.out];rfl,hb0⟩
   · have HF:=Lib.hid (inB_no (n:=tr) (lo:=lo) (hi:=1000) (by omega))
     go_enter Tryz.func186,Tryz.ntmps186
     go_wp2
     go_ret
     exact ⟨by rw [HF.out];rfl,hb0⟩
 · have HF:=Lib.hid (inB_no (n:=tr) (lo:=lo) (hi:=1000) (by omega))
   go_enter Tryz.func186,Tryz.ntmps186
   go_wp2
   go_ret
   exact ⟨by rw [HF.out];rfl,hb0⟩
def ErlTo (n:Nat) (l:List Int) (k:Nat):Prop:=∀ j,j < k→inB (l.getD j 0) (-1) ((n:Int) - 1)=true
theorem ErlTo.next {n:Nat} {l:List Int} {k:Nat} (h:ErlTo n l k) (hk:inB (l.getD k 0) (-1) ((n:Int) - 1)=true):ErlTo n l (k+1):=by
 intro j hj
 by_cases e1:j=k
 · rw [e1];exact hk
 · exact h j (by omega)
theorem erl_all {n:Nat} {s:Slt} (hl:s.from_.length=s.res.rds.length) (h:ErlTo n s.from_ s.from_.length):earlyB n s=true:=by
 unfold earlyB
 rw [Bool.and_eq_true]
 refine ⟨decide_eq_true hl,List.all_eq_true.2 fun f hf=>?_⟩
 obtain ⟨i,hi,e⟩:=List.getElem_of_mem hf
 have:=h i hi
 rwa [List.getD_eq_getElem?_getD,List.getElem?_eq_getElem hi,Option.getD_some,e] at this
theorem erl_bad {n:Nat} {s:Slt} {k:Nat} (hk:k < s.from_.length) (h:inB (s.from_.getD k 0) (-1) ((n:Int) - 1)=false):earlyB n s=false:=by
 rw [Bool.eq_false_iff]
 intro hh
 unfold earlyB at hh
 rw [Bool.and_eq_true] at hh
 have:=List.all_eq_true.1 hh.2 (s.from_.getD k 0) (by rw [List.getD_eq_getElem?_getD,List.getElem?_eq_getElem hk];exact List.getElem_mem hk)
 rw [h] at this;cases this
set_option maxHeartbeats 2000000 in
theorem early_impl (s:Slt) (n:Nat) (d:Bool) (st tr:Int) (a1:Option Addr) (n1 c1:Nat) (a2:Option Addr) (n2 c2:Nat) (a3:Option Addr) (n3 c3:Nat) (w:World) (h1:RowI w a1 n1 s.from_) (h2:s.res.rds.length=n2) :
  Calls Tryz.prog 188 #[.agg #[.int .i64 st,.int .i64 tr,.slice a1 n1 c1,.bool d,.slice a2 n2 c2,.slice a3 n3 c3],.int .i64 (n:Int)] w (BoolB (earlyB n s) w):=by
 have hb0:=(Below.refl w.heap.size w).alloc (Nat.le_refl _) (.cells #[.int .i64 st,.int .i64 tr,.slice a1 n1 c1,.bool d,.slice a2 n2 c2,.slice a3 n3 c3] 75)
 have h1:=h1.below hb0
 obtain ⟨W,hW⟩:∃ W,W=w.alloc (.cells #[.int .i64 st,.int .i64 tr,.slice a1 n1 c1,.bool d,.slice a2 n2 c2,.slice a3 n3 c3] 75):=⟨_,rfl⟩
 have p2:W.cell? ⟨w.heap.size,2,none⟩=some (.slice a1 n1 c1):=by rw [hW];simp [go_sem]
 have p4:W.cell? ⟨w.heap.size,4,none⟩=some (.slice a2 n2 c2):=by rw [hW];simp [go_sem]
 rw [← hW] at hb0 h1
 have HW:=Lib.hid hW;clear hW
 have HB:=Lib.hid hb0;clear hb0
 have HL:=Lib.hid h1.1
 have hm:=h1.2.1
 unfold maxLen at hm
 have HY:=Lib.hid (fun hl h=>erl_all (n:=n) (s:=s) hl h)
 have HN:=Lib.hid (fun k (hk:k < n1) h=>erl_bad (n:=n) (s:=s) (k:=k) (by rw [HL.out];exact hk) h)
 have hr:=h1.2.2.1
 have HWB:Hid (∀ k,k < n1→-9223372036854775808≤s.from_.getD k 0∧s.from_.getD k 0≤9223372036854775807):=Lib.hid (fun k hk=>h1.bd k hk)
 clear h1
 cases e1:((n1:Int) != (n2:Int)) with
 | true =>
  have HF:Hid (earlyB n s=false):=Lib.hid (by
   unfold earlyB
   rw [decide_eq_false (by rw [HL.out,h2];intro h;subst h;simp at e1)];rfl)
  clear HY HN hr HWB h2
  go_enter Tryz.func188,Tryz.ntmps188
  go_upto_region 1 with (fail)
  rw [← HW.out]
  clear HW
  go_wp2
  go_ret
  exact ⟨by rw [HF.out];rfl,HB.out⟩
 | false =>
  have HY2:Hid (ErlTo n s.from_ n1→earlyB n s=true):=Lib.hid (fun h=>HY.out (by rw [HL.out,h2];simp at e1;omega) (by rw [HL.out];exact h))
  clear HY h2
  go_enter Tryz.func188,Tryz.ntmps188
  go_upto_region 1 with (fail)
  rw [← HW.out]
  clear HW
  go_wp2
  go_loopw [18] (fun i wr=>∃ k:Nat,k≤n1∧i = .int .i64 k∧ErlTo n s.from_ k∧Drawn W wr) (fun i _=>n1 - (intOf i).toNat)
  case atStart=>exact ⟨0,Nat.zero_le _,rfl,fun j hj=>absurd hj (by omega),Drawn.refl _⟩
  case round =>
   obtain ⟨k,hk,rfl,hto,hd⟩:=hrel
   have HTO:=Lib.hid hto;clear hto
   have hb:=HB.out.trans ((hd.below W.heap.size).mono HB.out.size)
   by_cases hlt:k < n1
   · obtain ⟨b,off,rfl,hc⟩:=hr (by omega)
     have hc1:=(hd.cell _).trans (hc k hlt)
     have HN1:=Lib.hid (HN.out k hlt)
     have HX:=Lib.hid (fun hh=>HTO.out.next (k:=k) hh)
     clear hr hc HY2 HWB HN
     obtain ⟨x,hx⟩:∃ x,x=s.from_.getD k 0:=⟨_,rfl⟩
     rw [← hx] at hc1 HN1 HX
     clear hx
     cases t1:(x != -1) with
     | false =>
      have HF:=Lib.hid (HX.out (inB_yes (by simp at t1;omega) (by simp at t1;omega)))
      clear HX HN1
      go_wp2
      go_roundw
      case rel=>exact ⟨k+1,by omega,by go_num,HF.out,hd⟩
      case measure=>simp [intOf];omega
     | true =>
      cases t2:decide (x < 0) with
      | true =>
       have HF:=Lib.hid (HN1.out (inB_no (by simp at t1 t2;omega)))
       clear HX HN1
       go_wp2
       go_ret
       exact ⟨by rw [HF.out];rfl,hb⟩
      | false =>
       cases t3:decide ((n:Int)≤x) with
       | true =>
        have HF:=Lib.hid (HN1.out (inB_no (by simp at t1 t2 t3;omega)))
        clear HX HN1
        go_wp2
        go_ret
        exact ⟨by rw [HF.out];rfl,hb⟩
       | false =>
        have HF:=Lib.hid (HX.out (inB_yes (by simp at t1 t2 t3;omega) (by simp at t1 t2 t3;omega)))
        clear HX HN1
        go_wp2
        go_roundw
        case rel=>exact ⟨k+1,by omega,by go_num,HF.out,hd⟩
        case measure=>simp [intOf];omega
   · obtain rfl:k=n1:=by omega
     have HF:=Lib.hid (HY2.out HTO.out)
     clear hr HN HWB HY2
     go_wp2
     go_ret
     exact ⟨by rw [HF.out];rfl,hb⟩
end Go.Proofs.YtaaffpolmecicabGreat
/- The contracts of the program's Effect.isOf and Slot.fits (gen11/isof.py). -/
namespace Go.Proofs.YtaaffpolmecicabGreat
open Go.RowKit
set_option linter.unusedVariables false
set_option linter.unusedSimpArgs false
def Sta.ents (l:List Ent):Sta:=⟨fun w x=>∃ a c,x = .slice a l.length c∧RowE w a l.length l,fun ⟨a,c,e,r⟩ hb=>⟨a,c,e,r.below hb⟩⟩
def Sta.eff (x:Eff):Sta:=⟨fun w v=>∃ a c b d,v = .agg #[.bool x.done,.slice a x.rds.length c,.slice b x.wrs.length d]∧RowE w a x.rds.length x.rds∧RowE w b x.wrs.length x.wrs,fun ⟨a,c,b,d,e,r,s⟩ hb=>⟨a,c,b,d,e,r.below hb,s.below hb⟩⟩
theorem ents_of_owns {w:World} {B:Nat} {e:TypeId} {v:Value} {l:List Ent} (hl:l.length≤4000000) (hw:WfE l) (h:w.ownsRow B e 2 v l.length (flatE l)):(Sta.ents l).own w v:=by
 obtain ⟨a,c,e1,r,-⟩:=rowE_of_owns h hl hw
 exact ⟨a,c,e1,r⟩
theorem eff_of_own {w:World} {B:Nat} {e:TypeId} {v:Value} {x:Eff} (h1:x.rds.length≤4000000) (h2:x.wrs.length≤4000000) (h:OwnF w B e v x):(Sta.eff x).own w v:=by
 obtain ⟨a,b,e1,o1,o2,w1,w2,-⟩:=h
 obtain ⟨a1,c1,e2,r1,-⟩:=rowE_of_owns o1 h1 w1
 obtain ⟨a2,c2,e3,r2,-⟩:=rowE_of_owns o2 h2 w2
 subst e2 e3
 exact ⟨a1,c1,a2,c2,e1,r1,r2⟩
theorem wp_load_arrO {P:Program} {o:Oper} {a:Act} {w:World} {K:Act→World→Prop} {Q:Exit→Act→World→Prop} (ty:TypeId) (x:Operand) (ho:o.op = .load ty x)
  (g:Nat) (hx:a.eval x = .pointer (some ⟨g,0,none⟩)) (T:TypeId) (A:List Int) (h:Arr w g T A) (n:Nat) (e:TypeId)
  (hu:P.underlying ty=some (.array n e)) (hi:(P.info? ty).map (·.size)=some A.length) (hk:K (a.put o.dst (.agg (cellsI A))) w):Oper.wp P o a w K Q:=by
 exact wp_load_row ty x ho g hx T (cellsI A) (0,0) _ h hu rfl (by rw [cellsI_size];exact hi) hk
def RdTo (l:List Ent) (k:Nat):Prop:=∀ j,j < k→rdOk (l.getD j (0,0))=true
theorem RdTo.next {l:List Ent} {k:Nat} (h:RdTo l k) (hk:rdOk (l.getD k (0,0))=true):RdTo l (k+1):=by
 intro j hj
 by_cases e1:j=k
 · rw [e1];exact hk
 · exact h j (by omega)
theorem RdTo.all {l:List Ent} (h:RdTo l l.length):l.all rdOk=true:=by
 rw [List.all_eq_true]
 intro x hx
 obtain ⟨i,hi,rfl⟩:=mem_getP hx
 exact h i hi
theorem rd_bad {l:List Ent} {k:Nat} (hk:k < l.length) (h:rdOk (l.getD k (0,0))=false) (a:Acn) (x:Eff) (hx:x.rds=l):isOfB a x=false:=by
 rw [Bool.eq_false_iff]
 intro hh
 unfold isOfB at hh
 rw [Bool.and_eq_true,hx] at hh
 have:=List.all_eq_true.1 hh.1 _ (getD_memP l k hk)
 rw [h] at this;cases this
set_option maxRecDepth 100000 in
set_option maxHeartbeats 8000000 in
theorem isOf_impl (x:Eff) (p q r t:Int) (a1:Option Addr) (n1 c1:Nat) (a2:Option Addr) (n2 c2:Nat) (w:World) (h1:RowE w a1 n1 x.rds) (h2:RowE w a2 n2 x.wrs) (ha:actB ⟨p,q,r,t⟩=true) :
  Calls Tryz.prog 189 #[.agg #[.bool x.done,.slice a1 n1 c1,.slice a2 n2 c2],.agg #[.int .i64 p,.int .i64 q,.int .i64 r,.int .i64 t]] w (BoolB (isOfB ⟨p,q,r,t⟩ x) w):=by
 have hb2:=((Below.refl w.heap.size w).alloc (Nat.le_refl _) (.cells #[.bool x.done,.slice a1 n1 c1,.slice a2 n2 c2] 39)).alloc (by simp) (.cells #[.int .i64 p,.int .i64 q,.int .i64 r,.int .i64 t] 87)
 obtain ⟨W,hW⟩:∃ W,W=(w.alloc (.cells #[.bool x.done,.slice a1 n1 c1,.slice a2 n2 c2] 39)).alloc (.cells #[.int .i64 p,.int .i64 q,.int .i64 r,.int .i64 t] 87):=⟨_,rfl⟩
 have hz:W.heap.size=w.heap.size+2:=by rw [hW];simp
 have p0:W.cell? ⟨w.heap.size,0,none⟩=some (.bool x.done):=by rw [hW];simp [go_sem]
 have p1:W.cell? ⟨w.heap.size,1,none⟩=some (.slice a1 n1 c1):=by rw [hW];simp [go_sem]
 have p2:W.cell? ⟨w.heap.size,2,none⟩=some (.slice a2 n2 c2):=by rw [hW];simp [go_sem]
 have q0:W.cell? ⟨w.heap.size+1,0,none⟩=some (.int .i64 p):=by rw [hW];simp [go_sem]
 have q1:W.cell? ⟨w.heap.size+1,1,none⟩=some (.int .i64 q):=by rw [hW];simp [go_sem]
 have q2:W.cell? ⟨w.heap.size+1,2,none⟩=some (.int .i64 r):=by rw [hW];simp [go_sem]
 have q3:W.cell? ⟨w.heap.size+1,3,none⟩=some (.int .i64 t):=by rw [hW];simp [go_sem]
 rw [← hW] at hb2
 have HW:=Lib.hid hW;clear hW
 have hr1:=h1.below hb2
 have hr2:=h2.below hb2
 clear h1 h2
 have hKK:∀ (g:Nat) (w3 W':World),W.heap.size≤g→Below W.heap.size W w3→Below g w3 W'→(W'.cell? ⟨w.heap.size,0,none⟩=some (.bool x.done)∧W'.cell? ⟨w.heap.size,1,none⟩=some (.slice a1 n1 c1)∧W'.cell? ⟨w.heap.size,2,none⟩=some (.slice a2 n2 c2))∧(W'.cell? ⟨w.heap.size+1,0,none⟩=some (.int .i64 p)∧W'.cell? ⟨w.heap.size+1,1,none⟩=some (.int .i64 q)∧W'.cell? ⟨w.heap.size+1,2,none⟩=some (.int .i64 r)∧W'.cell? ⟨w.heap.size+1,3,none⟩=some (.int .i64 t))∧RowE W' a1 n1 x.rds∧RowE W' a2 n2 x.wrs:=fun g w3 W' hg h3 h4=>by
  have hb:=h3.trans (h4.mono hg)
  have z0:w.heap.size < W.heap.size:=by omega
  have z1:w.heap.size+1 < W.heap.size:=by omega
  exact ⟨⟨below_cell hb z0 p0,below_cell hb z0 p1,below_cell hb z0 p2⟩,⟨below_cell hb z1 q0,below_cell hb z1 q1,below_cell hb z1 q2,below_cell hb z1 q3⟩,hr1.below hb,hr2.below hb⟩
 have HKK:=Lib.hid hKK;clear hKK
 have HL:=Lib.hid hr1.1
 have hm:=hr1.2.1
 unfold maxLen at hm
 have HR1:=Lib.hid hr1
 have HB2:=Lib.hid hb2
 have HACT:=Lib.hid ha
 have hb3:=(Below.refl W.heap.size W).alloc (Nat.le_refl _) (.cells (cellsI zeros) 103)
 have hA3:=Arr.new W 103 zeros
 go_enter Tryz.func189,Tryz.ntmps189
 go_upto_region 1 with (fail)
 rw [← HW.out]
 have HZ0:=Lib.hid hz
 clear HW p0 p1 p2 q0 q1 q2 q3 hr1 hr2 hb2 ha hz
 go_upto_region 2 with (fail)
 generalize hw3:World.alloc _ _=w3
 have hz3:w3.heap.size=W.heap.size+1:=by rw [← hw3];simp
 have hz:=HZ0.out
 obtain ⟨g,hg⟩:∃ g,g=W.heap.size:=⟨_,rfl⟩
 have hw3':W.alloc (.cells (cellsI zeros) 103)=w3:=hw3
 rw [hw3'] at hb3 hA3
 rw [← hg] at hA3 hz hz3 ⊢
 clear hw3 hw3'
 have HZ:=Lib.hid hz
 have HGW:=Lib.hid hg
 have HB3:=Lib.hid hb3
 have hz3':g < w3.heap.size:=by omega
 have HK0:=Lib.hid (fun W' hb=>HKK.out g w3 W' (Nat.le_of_eq HGW.out.symm) HB3.out hb)
 obtain ⟨⟨-,p1,-⟩,-,-,-⟩:=HK0.out w3 (Below.refl _ _)
 clear hb3 hz hg HKK
 go_wp2
 go_loopw [11] (fun i wr=>∃ k:Nat,k≤n1∧i = .int .i64 k∧RdTo x.rds k∧Arr wr g 103 (arrOf (applyL [] (x.rds.take k)))∧Below g w3 wr) (fun i _=>n1 - (intOf i).toNat)
 case atStart=>exact ⟨0,Nat.zero_le _,rfl,fun j hj=>absurd hj (by omega),by simpa [applyL,arrOf_nil'] using hA3,Below.refl _ _⟩
 case round =>
  clear hA3 p1
  obtain ⟨k,hk,rfl,hto,hA,hB⟩:=hrel
  have HTO:=Lib.hid hto;clear hto
  have hsz0:w3.heap.size≤wr.heap.size:=hB.size
  have HBW:Hid (Below w.heap.size w wr):=Lib.hid (HB2.out.trans ((HB3.out.trans (hB.mono (Nat.le_of_eq HGW.out.symm))).mono HB2.out.size))
  by_cases hlt:k < n1
  · obtain ⟨bb,off,rfl,hc⟩:=(HK0.out wr hB).2.2.1.2.2.1 (by omega)
    obtain ⟨hc1,hc2⟩:=hc k hlt
    have hbs:bb < g:=by
     obtain ⟨b',o',he',hc'⟩:=HR1.out.2.2.1 (by omega)
     simp only [Option.some.injEq,Addr.mk.injEq] at he'
     rw [he'.1,HGW.out];exact World.block_lt_of_cell? W ⟨b',o'+0*2,none⟩ (hc' 0 (by omega)).1
    have HN:=Lib.hid (fun hh=>HTO.out.next (k:=k) hh)
    have HBAD:=Lib.hid (fun hh=>rd_bad (l:=x.rds) (k:=k) (by rw [HL.out];exact hlt) hh ⟨p,q,r,t⟩ x rfl)
    have HNX:Hid (rdOk (x.rds.getD k (0,0))=true→arrOf (applyL [] (x.rds.take (k+1)))=(arrOf (applyL [] (x.rds.take k))).set (x.rds.getD k (0,0)).1.toNat (x.rds.getD k (0,0)).2):=Lib.hid (fun hh=>by
     unfold rdOk at hh
     rw [Bool.and_eq_true] at hh
     have h1:=inB_true hh.1
     rw [applyL_take [] x.rds k (by rw [HL.out];exact hlt),arrOf_put h1.1 h1.2])
    have HRD:Hid (rdOk (x.rds.getD k (0,0))=(inB (x.rds.getD k (0,0)).1 0 31 && inB (x.rds.getD k (0,0)).2 0 1000000)):=Lib.hid rfl
    clear hc HK0 HR1
    obtain ⟨y,hy⟩:∃ y,y=(x.rds.getD k (0,0)).1:=⟨_,rfl⟩
    obtain ⟨z,hz⟩:∃ z,z=(x.rds.getD k (0,0)).2:=⟨_,rfl⟩
    obtain ⟨rk,hrk⟩:∃ rk,rk=rdOk (x.rds.getD k (0,0)):=⟨_,rfl⟩
    rw [← hy] at hc1 HNX HRD
    rw [← hz] at hc2 HNX HRD
    rw [← hrk] at HNX HRD HN HBAD
    clear hy hz hrk
    obtain ⟨Q,hQ⟩:∃ Q,Q=arrOf (applyL [] (x.rds.take k)):=⟨_,rfl⟩
    have hQl:Q.length=32:=by rw [hQ,arrOf_len]
    rw [← hQ] at hA HNX
    clear hQ
    cases e1:inB y 0 31 with
    | false =>
     have HF:=Lib.hid (HBAD.out (by rw [HRD.out,e1];rfl))
     have HB9:=Lib.hid (HBW.out.alloc HBW.out.size (.cells #[.int .i64 y,.int .i64 z] 43))
     clear HN HBAD HNX HRD
     go_wp2_with (first | (go_at_call 81;refine (isKey_impl _ _).mono ?_;rintro e w' ⟨rfl,rfl⟩))
     go_ret
     exact ⟨by rw [HF.out];rfl,HB9.out⟩
    | true =>
     cases e2:inB z 0 1000000 with
     | false =>
      have HF:=Lib.hid (HBAD.out (by rw [HRD.out,e1,e2];rfl))
      have HB9:=Lib.hid (HBW.out.alloc HBW.out.size (.cells #[.int .i64 y,.int .i64 z] 43))
      clear HN HBAD HNX HRD
      go_wp2_with (first | (go_at_call 81;refine (isKey_impl _ _).mono ?_;rintro e w' ⟨rfl,rfl⟩) | (go_at_call 128;refine (isValue_impl _ _).mono ?_;rintro e w' ⟨rfl,rfl⟩))
      go_ret
      exact ⟨by rw [HF.out];rfl,HB9.out⟩
     | true =>
      have hrk:rk=true:=by rw [HRD.out,e1,e2];rfl
      have HF:=Lib.hid (HN.out hrk)
      have HNX':=Lib.hid (HNX.out hrk)
      have hyb:=inB_true e1
      clear HN HBAD HNX HRD hrk
      obtain ⟨m,rfl⟩:∃ m:Nat,y=(m:Int):=⟨y.toNat,by omega⟩
      have hcA:=hA.cell m (by omega)
      have hfA:=hA.frozen m
      have hlt1:=hA.lt
      obtain ⟨y1,y2⟩:=hyb
      go_wp2_with (first | (go_at_call 81;refine (isKey_impl _ _).mono ?_;rintro e w' ⟨rfl,rfl⟩;rw [e1]) | (go_at_call 128;refine (isValue_impl _ _).mono ?_;rintro e w' ⟨rfl,rfl⟩;rw [e2]))
      go_roundw
      case rel=>exact ⟨k+1,by omega,by go_num,HF.out,by rw [HNX'.out,Int.toNat_natCast];exact (hA.set m z).alloc _,(hB.setCell (Nat.le_refl _) _).alloc (by rw [size_setCell];omega) _⟩
      case measure=>simp [intOf];omega
  · obtain rfl:n1=k:=by omega
    have e:x.rds.take n1=x.rds:=List.take_of_length_le (by rw [HL.out];omega)
    rw [e] at hA
    have HALL:=Lib.hid (RdTo.all (by rw [HL.out];exact HTO.out))
    have hst:=store_rds HALL.out
    have hok:=(storeB_ok _).1 hst
    have HSW:=Lib.hid (wf_of_ok hok.2)
    have HEN:=Lib.hid (ent_arr hok)
    have HSL:Hid ((applyL [] x.rds).length≤4000000):=Lib.hid (by have:=store_len hst;omega)
    have HRY0:Hid (∃ Y,runM (applyL [] x.rds) ⟨p,q,r,t⟩=Y):=Lib.hid ⟨_,rfl⟩
    have HYL0:Hid ((runM (applyL [] x.rds) ⟨p,q,r,t⟩).rds.length≤4000000∧(runM (applyL [] x.rds) ⟨p,q,r,t⟩).wrs.length≤4000000):=Lib.hid ⟨by have:=runM_rlen (applyL [] x.rds) ⟨p,q,r,t⟩;omega,by have:=runM_wlen (applyL [] x.rds) ⟨p,q,r,t⟩;omega⟩
    have HBB0:Hid (sameF x (runM (applyL [] x.rds) ⟨p,q,r,t⟩)=isOfB ⟨p,q,r,t⟩ x):=Lib.hid (by unfold isOfB;rw [HALL.out];rfl)
    have HAL:=Lib.hid (arrOf_len (applyL [] x.rds))
    obtain ⟨Y,hY⟩:=HRY0.out
    have HRY:=Lib.hid hY
    have HYL:=Lib.hid HYL0.out
    have HBB:=Lib.hid HBB0.out
    rw [hY] at HYL HBB
    obtain ⟨S,hS⟩:∃ S,S=applyL [] x.rds:=⟨_,rfl⟩
    rw [← hS] at HRY HEN HSW HSL HAL hA
    obtain ⟨AA,hAe⟩:∃ A,A=arrOf S:=⟨_,rfl⟩
    rw [← hAe] at hA HEN HAL
    obtain ⟨bb,hbb⟩:∃ bb,bb=isOfB ⟨p,q,r,t⟩ x:=⟨_,rfl⟩
    rw [← hbb] at HBB
    have HBE:=Lib.hid hbb
    have HK:=Lib.hid (fun W' (hb:Below wr.heap.size wr W')=>(⟨(HK0.out W' (hB.trans (hb.mono (Nat.le_trans (Nat.le_of_lt hz3') hsz0)))).1,(HK0.out W' (hB.trans (hb.mono (Nat.le_trans (Nat.le_of_lt hz3') hsz0)))).2.1,hA.after hb,(HK0.out W' (hB.trans (hb.mono (Nat.le_trans (Nat.le_of_lt hz3') hsz0)))).2.2⟩ : _∧_∧_∧_))
    clear hY hS hAe hbb e hst hok HRY0 HYL0 HBB0 HK0 hA
    go_upto_region 9 with (fail)
    refine wp_region_light (by kernel_rfl) (fun lz fz wz=>Vals [(0,31,(.agg #[.bool x.done,.slice a1 n1 c1,.slice a2 n2 c2])),(1,32,(.agg (cellsI AA))),(3,34,(.agg #[.int .i64 p,.int .i64 q,.int .i64 r,.int .i64 t])),(5,36,(.bool bb)),(6,4,(.bool bb))] lz fz∧Facts wr [(2,33,Sta.ents S),(4,35,Sta.eff Y)] lz fz wz) 37 rfl [31,32,33,34,35,36,4] (by kernel_rfl) (by kernel_rfl) (by kernel_rfl) (fun f=>⟨Vals.nothing _ f,Facts.nothing _ _ f⟩) ?_ ?_
    · intro i hi
      rcases (by have:i < 7:=hi;omega:i=0∨i=1∨i=2∨i=3∨i=4∨i=5∨i=6) with rfl | rfl | rfl | rfl | rfl | rfl | rfl
      · clear hi;intro o ho lz fz w' A hJ hli ha hA K hK
        obtain ⟨hv,hq⟩:=hJ
        obtain rfl:=Option.some.inj ho
        clear ho
        have hr:=hq
        have g2:=slot_out hA 2 _ (by decide) (by decide) rfl
        simp only [List.getD_cons_succ,List.getD_cons_zero] at g2
        have gg2:=slot_get g2
        rw [if_pos (by rfl)]
        obtain ⟨⟨k0,k1,k2⟩,⟨m0,m1,m2,m3⟩,kA,kr1,kr2⟩:=HK.out w' hr.1
        have hF:=hK (.agg #[.bool x.done,.slice a1 n1 c1,.slice a2 n2 c2]) w' ⟨hv.step 0 31 _ (by simp),hq.step 0 31 _ (Below.refl _ _) (by simp)⟩
        clear hv hq hr ha hK hA hli
        go_simp
        exact hF
      · clear hi;intro o ho lz fz w' A hJ hli ha hA K hK
        obtain ⟨hv,hq⟩:=hJ
        obtain rfl:=Option.some.inj ho
        clear ho
        have hr:=hq
        have g5:=slot_out hA 5 _ (by decide) (by decide) rfl
        simp only [List.getD_cons_succ,List.getD_cons_zero] at g5
        have gg5:=slot_get g5
        rw [if_pos (by rfl)]
        obtain ⟨⟨k0,k1,k2⟩,⟨m0,m1,m2,m3⟩,kA,kr1,kr2⟩:=HK.out w' hr.1
        obtain ⟨⟨k0,k1,k2⟩,⟨m0,m1,m2,m3⟩,kA,kr1,kr2⟩:=HK.out w' hr.1
        refine wp_load_arrO 103 (.tmp 5) rfl g (slot_eval g5) 103 AA kA _ _ Tryz.underlying103 (by rw [HAL.out];exact infoArr) ?_
        exact hK _ w' ⟨hv.step 1 32 _ (by simp),hq.step 1 32 _ (Below.refl _ _) (by simp)⟩
      · clear hi;intro o ho lz fz w' A hJ hli ha hA K hK
        obtain ⟨hv,hq⟩:=hJ
        obtain rfl:=Option.some.inj ho
        clear ho
        have hr:=hq
        have g32:=slot_in hA 32 (by decide) (by decide) (hv (1,32,(.agg (cellsI AA))) (by simp) (ha 1 (by simp [aftersOf,Region.binds])))
        have gg32:=slot_get g32
        rw [if_pos (by rfl)]
        clear hA
        go_simp
        refine (entries_impl AA _ HAL.out).mono ?_
        rintro e w9 ⟨v9,rfl,ho9,hb9⟩
        rw [HEN.out] at ho9
        have hs:=ents_of_owns HSL.out HSW.out ho9
        exact hK v9 w9 ⟨hv.step 2 33 _ (by simp),hq.step 2 33 _ hb9 (by simp [hs])⟩
      · clear hi;intro o ho lz fz w' A hJ hli ha hA K hK
        obtain ⟨hv,hq⟩:=hJ
        obtain rfl:=Option.some.inj ho
        clear ho
        have hr:=hq
        have g3:=slot_out hA 3 _ (by decide) (by decide) rfl
        simp only [List.getD_cons_succ,List.getD_cons_zero] at g3
        have gg3:=slot_get g3
        rw [if_pos (by rfl)]
        obtain ⟨⟨k0,k1,k2⟩,⟨m0,m1,m2,m3⟩,kA,kr1,kr2⟩:=HK.out w' hr.1
        have hF:=hK (.agg #[.int .i64 p,.int .i64 q,.int .i64 r,.int .i64 t]) w' ⟨hv.step 3 34 _ (by simp),hq.step 3 34 _ (Below.refl _ _) (by simp)⟩
        clear hv hq hr ha hK hA hli
        go_simp
        exact hF
      · clear hi;intro o ho lz fz w' A hJ hli ha hA K hK
        obtain ⟨hv,hq⟩:=hJ
        obtain rfl:=Option.some.inj ho
        clear ho
        have hr:=hq
        obtain ⟨a33,c33,h33,r33⟩:=hr.2 (2,33,Sta.ents S) (by simp) (ha 2 (by simp [aftersOf,Region.binds]))
        have g33:=slot_in hA 33 (by decide) (by decide) h33
        have g34:=slot_in hA 34 (by decide) (by decide) (hv (3,34,(.agg #[.int .i64 p,.int .i64 q,.int .i64 r,.int .i64 t])) (by simp) (ha 3 (by simp [aftersOf,Region.binds])))
        have gg33:=slot_get g33
        have gg34:=slot_get g34
        rw [if_pos (by rfl)]
        clear hA
        go_simp
        refine (runAction_impl a33 _ c33 S p q r t _ r33).mono ?_
        rintro e w9 ⟨v9,rfl,ho9,hb9⟩
        rw [HRY.out] at ho9
        have hs:=eff_of_own HYL.out.1 HYL.out.2 ho9
        exact hK v9 w9 ⟨hv.step 4 35 _ (by simp),hq.step 4 35 _ hb9 (by simp [hs])⟩
      · clear hi;intro o ho lz fz w' A hJ hli ha hA K hK
        obtain ⟨hv,hq⟩:=hJ
        obtain rfl:=Option.some.inj ho
        clear ho
        have hr:=hq
        have g31:=slot_in hA 31 (by decide) (by decide) (hv (0,31,(.agg #[.bool x.done,.slice a1 n1 c1,.slice a2 n2 c2])) (by simp) (ha 0 (by simp [aftersOf,Region.binds])))
        obtain ⟨a35,c35,b35,d35,h35,r35,s35⟩:=hr.2 (4,35,Sta.eff Y) (by simp) (ha 4 (by simp [aftersOf,Region.binds]))
        have g35:=slot_in hA 35 (by decide) (by decide) h35
        have gg31:=slot_get g31
        have gg35:=slot_get g35
        rw [if_pos (by rfl)]
        obtain ⟨⟨k0,k1,k2⟩,⟨m0,m1,m2,m3⟩,kA,kr1,kr2⟩:=HK.out w' hr.1
        clear hA
        go_simp
        refine (equals_impl x Y a1 n1 c1 a2 n2 c2 a35 _ c35 b35 _ d35 _ kr1 kr2 r35 s35).mono ?_
        rintro e w9 ⟨rfl,hb9⟩
        rw [HBB.out]
        exact hK (.bool bb) w9 ⟨hv.step 5 36 _ (by simp),hq.step 5 36 _ hb9 (by simp)⟩
      · clear hi;intro o ho lz fz w' A hJ hli ha hA K hK
        obtain ⟨hv,hq⟩:=hJ
        obtain rfl:=Option.some.inj ho
        clear ho
        have hr:=hq
        have g36:=slot_in hA 36 (by decide) (by decide) (hv (5,36,(.bool bb)) (by simp) (ha 5 (by simp [aftersOf,Region.binds])))
        have gg36:=slot_get g36
        rw [if_pos (by rfl)]
        have hF:=hK (.bool bb) w' ⟨hv.step 6 4 _ (by simp),hq.step 6 4 _ (Below.refl _ _) (by simp)⟩
        clear hv hq hr ha hK hA hli
        go_simp
        exact hF
    · intro lz fz w7 hall hJ
      obtain ⟨hv,hq⟩:=hJ
      have h4:fz 4=(.bool bb):=hv (6,4,(.bool bb)) (by simp) (hall 6 (by decide))
      have hbR:=hq.1
      clear hv hq hall
      simp only [mixF,List.contains_cons,List.contains_nil]
      go_simp
      obtain ⟨-,hbR'⟩:=And.intro trivial hbR
      go_wp2
      go_ret
      exact ⟨by rw [← HBE.out];rfl,HBW.out.trans (hbR.mono HBW.out.size)⟩
end Go.Proofs.YtaaffpolmecicabGreat
/- The contract of the program's Slot.fits. -/
namespace Go.Proofs.YtaaffpolmecicabGreat
open Go.RowKit
set_option linter.unusedVariables false
set_option linter.unusedSimpArgs false
set_option maxRecDepth 100000 in
set_option maxHeartbeats 4000000 in
theorem fits_impl (s:Slt) (n:Nat) (p q r t:Int) (a1:Option Addr) (n1 c1:Nat) (a2:Option Addr) (n2 c2:Nat) (a3:Option Addr) (n3 c3:Nat) (w:World) (h1:RowI w a1 n1 s.from_) (h2:RowE w a2 n2 s.res.rds) (h3:RowE w a3 n3 s.res.wrs) (ha:actB ⟨p,q,r,t⟩=true) :
  Calls Tryz.prog 163 #[.agg #[.int .i64 s.stage,.int .i64 s.tries,.slice a1 n1 c1,.bool s.res.done,.slice a2 n2 c2,.slice a3 n3 c3],.int .i64 (n:Int),.agg #[.int .i64 p,.int .i64 q,.int .i64 r,.int .i64 t]] w (BoolB (slotB ⟨p,q,r,t⟩ n s) w):=by
 rw [← fits_slot ha]
 have hb0:=((Below.refl w.heap.size w).alloc (Nat.le_refl _) (.cells #[.int .i64 s.stage,.int .i64 s.tries,.slice a1 n1 c1,.bool s.res.done,.slice a2 n2 c2,.slice a3 n3 c3] 75)).alloc (by simp) (.cells #[.int .i64 p,.int .i64 q,.int .i64 r,.int .i64 t] 87)
 obtain ⟨W,hW⟩:∃ W,W=(w.alloc (.cells #[.int .i64 s.stage,.int .i64 s.tries,.slice a1 n1 c1,.bool s.res.done,.slice a2 n2 c2,.slice a3 n3 c3] 75)).alloc (.cells #[.int .i64 p,.int .i64 q,.int .i64 r,.int .i64 t] 87):=⟨_,rfl⟩
 have hz:w.heap.size+2≤W.heap.size:=by rw [hW];simp
 have p0:W.cell? ⟨w.heap.size,0,none⟩=some (.int .i64 s.stage):=by rw [hW];simp [go_sem]
 have p1:W.cell? ⟨w.heap.size,1,none⟩=some (.int .i64 s.tries):=by rw [hW];simp [go_sem]
 have p2:W.cell? ⟨w.heap.size,2,none⟩=some (.slice a1 n1 c1):=by rw [hW];simp [go_sem]
 have p3:W.cell? ⟨w.heap.size,3,none⟩=some (.bool s.res.done):=by rw [hW];simp [go_sem]
 have p4:W.cell? ⟨w.heap.size,4,none⟩=some (.slice a2 n2 c2):=by rw [hW];simp [go_sem]
 have p5:W.cell? ⟨w.heap.size,5,none⟩=some (.slice a3 n3 c3):=by rw [hW];simp [go_sem]
 have q0:W.cell? ⟨w.heap.size+1,0,none⟩=some (.int .i64 p):=by rw [hW];simp [go_sem]
 have q1:W.cell? ⟨w.heap.size+1,1,none⟩=some (.int .i64 q):=by rw [hW];simp [go_sem]
 have q2:W.cell? ⟨w.heap.size+1,2,none⟩=some (.int .i64 r):=by rw [hW];simp [go_sem]
 have q3:W.cell? ⟨w.heap.size+1,3,none⟩=some (.int .i64 t):=by rw [hW];simp [go_sem]
 rw [← hW] at hb0
 have HW:=Lib.hid hW;clear hW
 have h1:=h1.below hb0
 have h2:=h2.below hb0
 have h3:=h3.below hb0
 have HL1:=Lib.hid h1.1
 have HL2:=Lib.hid h2.1
 have hKK:∀ W',Below W.heap.size W W'→(W'.cell? ⟨w.heap.size,0,none⟩=some (.int .i64 s.stage)∧W'.cell? ⟨w.heap.size,1,none⟩=some (.int .i64 s.tries)∧W'.cell? ⟨w.heap.size,2,none⟩=some (.slice a1 n1 c1)∧W'.cell? ⟨w.heap.size,3,none⟩=some (.bool s.res.done)∧W'.cell? ⟨w.heap.size,4,none⟩=some (.slice a2 n2 c2)∧W'.cell? ⟨w.heap.size,5,none⟩=some (.slice a3 n3 c3))∧(W'.cell? ⟨w.heap.size+1,0,none⟩=some (.int .i64 p)∧W'.cell? ⟨w.heap.size+1,1,none⟩=some (.int .i64 q)∧W'.cell? ⟨w.heap.size+1,2,none⟩=some (.int .i64 r)∧W'.cell? ⟨w.heap.size+1,3,none⟩=some (.int .i64 t))∧RowI W' a1 n1 s.from_∧RowE W' a2 n2 s.res.rds∧RowE W' a3 n3 s.res.wrs∧Below w.heap.size w W':=fun W' hb=>by
  have z0:w.heap.size < W.heap.size:=by omega
  have z1:w.heap.size+1 < W.heap.size:=by omega
  exact ⟨⟨below_cell hb z0 p0,below_cell hb z0 p1,below_cell hb z0 p2,below_cell hb z0 p3,below_cell hb z0 p4,below_cell hb z0 p5⟩,⟨below_cell hb z1 q0,below_cell hb z1 q1,below_cell hb z1 q2,below_cell hb z1 q3⟩,h1.below hb,h2.below hb,h3.below hb,hb0.trans (hb.mono hb0.size)⟩
 have HKK:=Lib.hid hKK;clear hKK
 have HAC:=Lib.hid ha
 have hFE:fitsB ⟨p,q,r,t⟩ n s=if s.stage=0 then inB s.tries 0 1000 && decide (s.from_.length=0) && sameF s.res noEff else if s.stage=1∨s.stage=2 then inB s.tries 1 1000 && earlyB n s && isOfB ⟨p,q,r,t⟩ s.res else false:=rfl
 have HFE:=Lib.hid hFE
 clear hFE h1 h2 h3 hb0 ha q0 q1 q2 q3
 have HTR:=Lib.hid (fun (lo:Int) (W':World)=>tried_impl s.stage s.tries lo s.res.done a1 n1 c1 a2 n2 c2 a3 n3 c3 W')
 have HER:=Lib.hid (fun (W':World) hr=>early_impl s n s.res.done s.stage s.tries a1 n1 c1 a2 n2 c2 a3 n3 c3 W' hr HL2.out)
 have HIO:=Lib.hid (fun (W':World) hr hr'=>isOf_impl s.res p q r t a2 n2 c2 a3 n3 c3 W' hr hr' HAC.out)
 have HEQ:=Lib.hid (fun (W':World) hr hr'=>equals_impl s.res noEff a2 n2 c2 a3 n3 c3 none 0 0 none 0 0 W' hr hr' (rowE_empty _ _) (rowE_empty _ _))
 obtain ⟨st,hst⟩:∃ st,st=s.stage:=⟨_,rfl⟩
 obtain ⟨tr,htr⟩:∃ tr,tr=s.tries:=⟨_,rfl⟩
 obtain ⟨dn,hdn⟩:∃ dn,dn=s.res.done:=⟨_,rfl⟩
 rw [← hst,← htr,← hdn] at HW HKK
 rw [← hst,← htr,← hdn] at HTR HER
 rw [← hdn] at HIO HEQ
 rw [← hst,← htr] at HFE
 rw [← hst] at p0
 rw [← htr] at p1
 rw [← hdn] at p3
 rw [← hst,← htr,← hdn]
 clear hst htr hdn
 obtain ⟨b1,hb1⟩:∃ b,b=decide (s.from_.length=0):=⟨_,rfl⟩
 obtain ⟨b2,hb2⟩:∃ b,b=sameF s.res noEff:=⟨_,rfl⟩
 obtain ⟨b3,hb3⟩:∃ b,b=earlyB n s:=⟨_,rfl⟩
 obtain ⟨b4,hb4⟩:∃ b,b=isOfB ⟨p,q,r,t⟩ s.res:=⟨_,rfl⟩
 rw [← hb1,← hb2,← hb3,← hb4] at HFE
 rw [← hb3] at HER
 rw [← hb4] at HIO
 rw [← hb2] at HEQ
 rw [HL1.out] at hb1
 clear hb2 hb3 hb4
 have hnE:noEff.done=false:=rfl
 rw [hnE] at HEQ
 clear hnE
 obtain ⟨R,hR⟩:∃ R,R=fitsB ⟨p,q,r,t⟩ n s:=⟨_,rfl⟩
 rw [← hR] at HFE ⊢
 clear hR
 by_cases e0:st=0
 · subst e0
   have HF0:=Lib.hid (HFE.out.trans (if_pos rfl))
   clear HFE HER HIO
   go_enter Tryz.func163,Tryz.ntmps163
   go_upto_region 1 with (fail)
   rw [← HW.out]
   clear HW
   go_wp2_with fail
   refine (HTR.out 0 _).mono ?_;rintro e w1 ⟨rfl,hb⟩
   obtain ⟨⟨-,-,p2,p3,p4,p5⟩,-,r1,r2,r3,hbw⟩:=HKK.out _ hb
   have HB1:=Lib.hid hb
   clear hb
   cases e1:inB tr 0 1000 with
   | false =>
    have HF:=Lib.hid (HF0.out.trans (by rw [e1];first | done | rfl))
    clear HTR HEQ HKK r1 r2 r3
    go_wp2
    go_ret
    exact ⟨by rw [HF.out];rfl,hbw⟩
   | true =>
    by_cases e2:n1=0
    · subst e2
      have HF:=Lib.hid (HF0.out.trans (show (inB tr 0 1000 && b1 && b2)=b2 by rw [e1,hb1];simp))
      have HEQ':=Lib.hid (HEQ.out w1 r2 r3)
      clear HTR HKK HEQ r1 r2 r3 HF0 hb1
      go_wp2_with fail
      refine HEQ'.out.mono ?_;rintro e w2 ⟨rfl,hb⟩
      have hbw2:=hbw.trans (hb.mono hbw.size)
      clear hb HEQ'
      go_wp2
      go_ret
      exact ⟨by rw [HF.out];rfl,hbw2⟩
    · have HF:=Lib.hid (HF0.out.trans (show (inB tr 0 1000 && b1 && b2)=false by rw [e1,hb1,decide_eq_false e2];rfl))
      have e3:((n1:Int) == 0)=false:=by simp;omega
      clear HTR HKK HEQ r1 r2 r3 HF0 hb1
      go_wp2
      go_ret
      exact ⟨by rw [HF.out];rfl,hbw⟩
 · by_cases e1:st=1∨st=2
   · have HF0:=Lib.hid (HFE.out.trans ((if_neg e0).trans (if_pos e1)))
     clear HFE HEQ
     have HGO:Hid (∀ W',Below W.heap.size W W'→inB tr 1 1000=true→b3=true→Calls Tryz.prog 189 #[.agg #[.bool dn,.slice a2 n2 c2,.slice a3 n3 c3],.agg #[.int .i64 p,.int .i64 q,.int .i64 r,.int .i64 t]] W' (BoolB R W')):=Lib.hid (fun W' hb h1 h3=>by
      have:=HIO.out W' (HKK.out W' hb).2.2.2.1 (HKK.out W' hb).2.2.2.2.1
      rw [HF0.out,h1,h3];exact this)
     clear HIO
     have hs1:(st == 0)=false:=by simpa using e0
     rcases e1 with rfl | rfl
     all_goals
      clear e0
      go_enter Tryz.func163,Tryz.ntmps163
      go_upto_region 1 with (fail)
      rw [← HW.out]
      clear HW
      go_wp2_with fail
      refine (HTR.out 1 _).mono ?_;rintro e w1 ⟨rfl,hb⟩
      obtain ⟨⟨p0,p1,p2,p3,p4,p5⟩,-,r1,-,-,hbw⟩:=HKK.out _ hb
      have HB1:=Lib.hid hb
      clear hb
      cases e2:inB tr 1 1000 with
      | false =>
       have HF:=Lib.hid (HF0.out.trans (by rw [e2];first | done | rfl))
       clear HTR HGO HER HKK r1
       go_wp2
       go_ret
       exact ⟨by rw [HF.out];rfl,hbw⟩
      | true =>
       have HER':=Lib.hid (HER.out w1 r1)
       clear r1 HTR HER
       go_wp2_with fail
       refine HER'.out.mono ?_;rintro e w2 ⟨rfl,hb⟩
       have HB2:=Lib.hid (HB1.out.trans (hb.mono HB1.out.size))
       obtain ⟨⟨p0,p1,p2,p3,p4,p5⟩,⟨q0,q1,q2,q3⟩,-,-,-,hbw⟩:=HKK.out _ HB2.out
       clear hb HER'
       cases b3 with
       | false =>
        have HF:=Lib.hid (HF0.out.trans (by rw [e2];first | done | rfl))
        clear HGO HKK
        go_wp2
        go_ret
        exact ⟨by rw [HF.out];rfl,hbw⟩
       | true =>
        have HGO':=Lib.hid (HGO.out w2 HB2.out e2 rfl)
        clear HGO HKK HF0
        go_wp2_with fail
        refine HGO'.out.mono ?_;rintro e w3 ⟨rfl,hb⟩
        have hbw3:=hbw.trans (hb.mono hbw.size)
        clear hb HGO'
        go_wp2
        go_ret
        exact ⟨rfl,hbw3⟩
   · have HF:=Lib.hid (HFE.out.trans ((if_neg e0).trans (if_neg e1)))
     have hs1:(st == 0)=false:=by simpa using e0
     have hs2:(st == 1)=false:=by simp;omega
     have hs3:(st == 2)=false:=by simp;omega
     have hbw:=(HKK.out W (Below.refl _ _)).2.2.2.2.2
     clear e0 e1 HTR HER HIO HEQ HKK HFE
     go_enter Tryz.func163,Tryz.ntmps163
     go_upto_region 1 with (fail)
     rw [← HW.out]
     clear HW
     go_wp2
     go_ret
     exact ⟨by rw [HF.out];rfl,hbw⟩
end Go.Proofs.YtaaffpolmecicabGreat
