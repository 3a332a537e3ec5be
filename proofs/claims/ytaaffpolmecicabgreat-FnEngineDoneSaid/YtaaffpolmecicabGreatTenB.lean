/- Texts of ours that stand together: ImplSlots, ImplVs, ImplEngV, ImplEngD -/
import Derived.Test.YtaaffpolmecicabGreatTenA
import Derived.Test.YtaaffpolmecicabGreatKeyA
import Derived.Deep.RegionHeld3
import Derived.Test.YtaaffpolmecicabGreatKeyC
import Derived.Test.YtaaffpolmecicabGreatSpecE
/- The contracts of the program's slotsFit,checkedCount and Slot.readsTheSame. -/
namespace Go.Proofs.YtaaffpolmecicabGreat
open Go.RowKit
set_option linter.unusedVariables false
set_option linter.unusedSimpArgs false
def fitAll (L:List Slt) (K:List Acn):Bool:=decide (L.length=K.length) && (List.range L.length).all fun n=>slotB (K.getD n noA) n (L.getD n noSlt)
def FitTo (L:List Slt) (K:List Acn) (k:Nat):Prop:=∀ j,j < k→slotB (K.getD j noA) j (L.getD j noSlt)=true
theorem FitTo.next {L:List Slt} {K:List Acn} {k:Nat} (h:FitTo L K k) (hk:slotB (K.getD k noA) k (L.getD k noSlt)=true):FitTo L K (k+1):=by
 intro j hj
 by_cases e1:j=k
 · rw [e1];exact hk
 · exact h j (by omega)
theorem fitAll_yes {L:List Slt} {K:List Acn} (hl:L.length=K.length) (h:FitTo L K L.length):fitAll L K=true:=by
 unfold fitAll
 rw [Bool.and_eq_true]
 exact ⟨decide_eq_true hl,List.all_eq_true.2 fun n hn=>h n (List.mem_range.1 hn)⟩
theorem fitAll_bad {L:List Slt} {K:List Acn} {k:Nat} (hk:k < L.length) (h:slotB (K.getD k noA) k (L.getD k noSlt)=false):fitAll L K=false:=by
 rw [Bool.eq_false_iff]
 intro hh
 unfold fitAll at hh
 rw [Bool.and_eq_true] at hh
 have:=List.all_eq_true.1 hh.2 k (List.mem_range.2 hk)
 rw [h] at this;cases this
theorem fitAll_len {L:List Slt} {K:List Acn} (h:L.length≠K.length):fitAll L K=false:=by
 unfold fitAll
 rw [decide_eq_false h];rfl
theorem fitAll_iff {L:List Slt} {K:List Acn}:fitAll L K=true ↔ L.length=K.length∧∀ n,n < L.length→slotB (K.getD n noA) n (L.getD n noSlt)=true:=by
 unfold fitAll
 rw [Bool.and_eq_true,decide_eq_true_eq,List.all_eq_true]
 exact ⟨fun h=>⟨h.1,fun n hn=>h.2 n (List.mem_range.2 hn)⟩,fun h=>⟨h.1,fun n hn=>h.2 n (List.mem_range.1 hn)⟩⟩
set_option maxRecDepth 100000 in
set_option maxHeartbeats 4000000 in
theorem slotsFit_impl (a:Option Addr) (n cap:Nat) (L:List Slt) (a2:Option Addr) (n2 cap2:Nat) (K:List Acn) (w:World) (h:RowSl w a n L) (h2:RowA w a2 n2 K) (hK:actsB K=true) :
  Calls Tryz.prog 111 #[.slice a n cap,.slice a2 n2 cap2] w (BoolB (fitAll L K) w):=by
 have HL:=Lib.hid h.1
 have HL2:=Lib.hid h2.1
 have HKA:=Lib.hid hK
 cases e1:((n:Int) != (n2:Int)) with
 | true =>
  have HF:=Lib.hid (fitAll_len (L:=L) (K:=K) (by rw [HL.out,HL2.out];intro h;subst h;simp at e1))
  clear h h2
  go_enter Tryz.func111,Tryz.ntmps111
  go_wp2
  go_ret
  exact ⟨by rw [HF.out];rfl,Below.refl _ _⟩
 | false =>
  obtain rfl:n=n2:=by simp at e1;omega
  have hn10:n≤10:=by rw [← HL2.out];exact (actsB_true hK).1
  have HY:=Lib.hid (fun h=>fitAll_yes (L:=L) (K:=K) (by rw [HL.out,HL2.out]) (by rw [HL.out];exact h))
  have HN:=Lib.hid (fun k (hk:k < n) h=>fitAll_bad (L:=L) (K:=K) (k:=k) (by rw [HL.out];exact hk) h)
  have HR:=Lib.hid h
  have HR2:=Lib.hid h2
  clear h h2 hK
  go_enter Tryz.func111,Tryz.ntmps111
  go_wp2
  go_loopw [14] (fun i wr=>∃ k:Nat,k≤n∧i = .int .i64 k∧FitTo L K k∧Below w.heap.size w wr) (fun i _=>n - (intOf i).toNat)
  case atStart=>exact ⟨0,Nat.zero_le _,rfl,fun j hj=>absurd hj (by omega),Below.refl _ _⟩
  case round =>
   obtain ⟨k,hk,rfl,hto,hb⟩:=hrel
   have HTO:=Lib.hid hto;clear hto
   by_cases hlt:k < n
   · obtain ⟨b4,o4,rfl,hsl⟩:=(HR.out.below hb).at k hlt
     obtain ⟨b2,o2,rfl,hac⟩:=(HR2.out.below hb).2.2.1 (by omega)
     obtain ⟨d0,d1,d2,d3⟩:=hac k hlt
     have HACT:=Lib.hid ((actsB_true HKA.out).2 _ (getD_memA K k (by rw [HL2.out];exact hlt)))
     have HX:=Lib.hid (fun hh=>HTO.out.next (k:=k) hh)
     have HNK:=Lib.hid (HN.out k hlt)
     have HYK:=Lib.hid HY.out
     clear hac HN
     obtain ⟨X,hX⟩:∃ X,X=K.getD k noA:=⟨_,rfl⟩
     obtain ⟨s,hs⟩:∃ s,s=L.getD k noSlt:=⟨_,rfl⟩
     rw [← hX] at d0 d1 d2 d3 HACT HX HNK
     rw [← hs] at hsl HX HNK
     clear hX hs
     obtain ⟨p,q,r,t⟩:=X
     simp only at d0 d1 d2 d3
     obtain ⟨s0,s1,⟨v2,s2,av,nv,cv,rfl,hrv,-,-⟩,s3,⟨v4,s4,aw,nw,cw,rfl,hrw,-,-⟩,v5,s5,ax,nx,cx,rfl,hrx,-,-⟩:=hsl
     have hbs:b2 < wr.heap.size:=World.block_lt_of_cell? wr ⟨b2,o2+k*4,none⟩ d0
     go_upto_region 6 with (fail)
     generalize hw5:World.alloc _ _=w5
     have hb5:Below wr.heap.size wr w5:=by rw [← hw5];exact (Below.refl _ _).alloc (Nat.le_refl _) _
     have hz5:w5.heap.size=wr.heap.size+1:=by rw [← hw5];simp
     have p0:w5.cell? ⟨wr.heap.size,0,none⟩=some (.int .i64 s.stage):=by rw [← hw5];simp [go_sem]
     have p1:w5.cell? ⟨wr.heap.size,1,none⟩=some (.int .i64 s.tries):=by rw [← hw5];simp [go_sem]
     have p2:w5.cell? ⟨wr.heap.size,2,none⟩=some (.slice av nv cv):=by rw [← hw5];simp [go_sem]
     have p3:w5.cell? ⟨wr.heap.size,3,none⟩=some (.bool s.res.done):=by rw [← hw5];simp [go_sem]
     have p4:w5.cell? ⟨wr.heap.size,4,none⟩=some (.slice aw nw cw):=by rw [← hw5];simp [go_sem]
     have p5:w5.cell? ⟨wr.heap.size,5,none⟩=some (.slice ax nx cx):=by rw [← hw5];simp [go_sem]
     have d0:=(hb5.cell (p:=⟨b2,o2+k*4,none⟩) hbs).trans d0
     have d1:=(hb5.cell (p:=⟨b2,o2+k*4+1,none⟩) hbs).trans d1
     have d2:=(hb5.cell (p:=⟨b2,o2+k*4+2,none⟩) hbs).trans d2
     have d3:=(hb5.cell (p:=⟨b2,o2+k*4+3,none⟩) hbs).trans d3
     have hrv:=hrv.below hb5
     have hrw:=hrw.below hb5
     have hrx:=hrx.below hb5
     have HB5:=Lib.hid (hb.trans (hb5.mono hb.size))
     have hbs5:b2 < w5.heap.size:=by omega
     have hzs5:wr.heap.size < w5.heap.size:=by omega
     have HKP:=Lib.hid (fun W' (hb:Below w5.heap.size w5 W')=>(⟨⟨below_cell hb hzs5 p0,below_cell hb hzs5 p1,below_cell hb hzs5 p2,below_cell hb hzs5 p3,below_cell hb hzs5 p4,below_cell hb hzs5 p5⟩,below_cell hb hbs5 d0,below_cell hb hbs5 d1,below_cell hb hbs5 d2,below_cell hb hbs5 d3⟩:(_∧_∧_∧_∧_∧_)∧_∧_∧_∧_))
     clear hw5 hb hb5 hz5 hbs s0 s1 s2 s3 s4 s5 hbs5 hzs5
     have i1:(0:Int)≤(k:Int):=by omega
     have i2:(k:Int) < (n:Int):=by omega
     obtain ⟨bb,hbb⟩:∃ bb,bb=slotB ⟨p,q,r,t⟩ k s:=⟨_,rfl⟩
     have HFI:=Lib.hid (fits_impl s k p q r t av nv cv aw nw cw ax nx cx w5.drew (show RowI w5.drew _ _ _ from hrv) (show RowE w5.drew _ _ _ from hrw) (show RowE w5.drew _ _ _ from hrx) HACT.out)
     rw [← hbb] at HX HNK HFI
     clear hbb hrv hrw hrx HR HR2 HTO HACT HKA HY
     go_region_held3 (fun w'=>(w'.cell? ⟨wr.heap.size,0,none⟩=some (.int .i64 s.stage)∧w'.cell? ⟨wr.heap.size,1,none⟩=some (.int .i64 s.tries)∧w'.cell? ⟨wr.heap.size,2,none⟩=some (.slice av nv cv)∧w'.cell? ⟨wr.heap.size,3,none⟩=some (.bool s.res.done)∧w'.cell? ⟨wr.heap.size,4,none⟩=some (.slice aw nw cw)∧w'.cell? ⟨wr.heap.size,5,none⟩=some (.slice ax nx cx))∧w'.cell? ⟨b2,o2+k*4,none⟩=some (.int .i64 p)∧w'.cell? ⟨b2,o2+k*4+1,none⟩=some (.int .i64 q)∧w'.cell? ⟨b2,o2+k*4+2,none⟩=some (.int .i64 r)∧w'.cell? ⟨b2,o2+k*4+3,none⟩=some (.int .i64 t)) (first | exact ⟨⟨p0,p1,p2,p3,p4,p5⟩,d0,d1,d2,d3⟩ | exact hkp | go_keep) (first | (go_at_call 163;refine HFI.out.mono ?_;rintro e w6 ⟨rfl,hb6⟩;have hbq:=(Below.refl w5.heap.size w5).drew.trans hb6;have hkp:=HKP.out _ hbq))
     have HB6:=Lib.hid (HB5.out.trans (hbq.mono HB5.out.size))
     clear hbq hb6
     cases bb with
     | false =>
      have HF:=Lib.hid (HNK.out rfl)
      clear HX
      go_wp2
      go_ret
      exact ⟨by rw [HF.out];rfl,HB6.out⟩
     | true =>
      have HF:=Lib.hid (HX.out rfl)
      clear HNK
      go_wp2
      go_roundw
      case rel=>exact ⟨k+1,by omega,by go_num,HF.out,HB6.out⟩
      case measure=>simp [intOf];omega
   · obtain rfl:n=k:=by omega
     have HF:=Lib.hid (HY.out HTO.out)
     have HB6:=Lib.hid hb
     clear hb HN
     go_wp2
     go_ret
     exact ⟨by rw [HF.out];rfl,HB6.out⟩
set_option maxRecDepth 100000 in
set_option maxHeartbeats 2000000 in
theorem checkedCount_impl (a:Option Addr) (n cap:Nat) (e:Eng) (w:World) (h:RowSl w a n e.slots) :
  Calls Tryz.prog 114 #[.slice a n cap] w (IntB (cntC e n:Nat) w):=by
 have hm:=h.2.1
 unfold maxLen at hm
 have HR:=Lib.hid h
 clear h
 go_enter Tryz.func114,Tryz.ntmps114
 go_wp2
 go_loopw [3,8] (fun v i wr=>∃ k:Nat,k≤n∧i = .int .i64 k∧v = .int .i64 (cntC e k:Nat)∧Below w.heap.size w wr) (fun _ i _=>n - (intOf i).toNat)
 case atStart=>exact ⟨0,Nat.zero_le _,rfl,rfl,Below.refl _ _⟩
 case round =>
  obtain ⟨k,hk,rfl,rfl,hb⟩:=hrel
  by_cases hlt:k < n
  · obtain ⟨b4,o4,rfl,hsl⟩:=(HR.out.below hb).at k hlt
    have hst:(e.slots.getD k noSlt).stage=stg e k:=rfl
    have HY:=Lib.hid (fun h=>cntC_yes (e:=e) (k:=k) h)
    have HN:=Lib.hid (fun h=>cntC_no (e:=e) (k:=k) h)
    have hcb:=cntC_le e k
    obtain ⟨st,hs⟩:∃ st,st=stg e k:=⟨_,rfl⟩
    obtain ⟨s,hss⟩:∃ s,s=e.slots.getD k noSlt:=⟨_,rfl⟩
    rw [← hs,← hss] at hst
    rw [← hs] at HY HN
    rw [← hss] at hsl
    clear hs hss
    obtain ⟨s0,s1,⟨v2,s2,av,nv,cv,rfl,-,-,-⟩,s3,⟨v4,s4,aw,nw,cw,rfl,-,-,-⟩,v5,s5,ax,nx,cx,rfl,-,-,-⟩:=hsl
    rw [hst] at s0
    have hb5:=hb.alloc hb.size (.cells #[.int .i64 st,.int .i64 s.tries,.slice av nv cv,.bool s.res.done,.slice aw nw cw,.slice ax nx cx] 75)
    obtain ⟨c,hc⟩:∃ c,c=cntC e k:=⟨_,rfl⟩
    rw [← hc] at HY HN hcb ⊢
    have ew:IntKind.i64.wrap ((c:Int)+1)=((c+1:Nat):Int):=by rw [IntWalk.i64_in _ (by omega)];omega
    clear hst hc
    cases e1:(st == 2) with
    | true =>
     have HF:=Lib.hid (HY.out (by simpa using e1))
     clear HY HN
     go_wp2
     go_roundw
     case rel=>exact ⟨k+1,by omega,by go_num,by rw [HF.out];first | rfl | go_num,hb5⟩
     case measure=>simp [intOf];omega
    | false =>
     have HF:=Lib.hid (HN.out (by simpa using e1))
     clear HY HN
     go_wp2
     go_roundw
     case rel=>exact ⟨k+1,by omega,by go_num,by rw [HF.out],hb5⟩
     case measure=>simp [intOf];omega
  · obtain rfl:n=k:=by omega
    go_wp2
    go_ret
    exact ⟨rfl,hb⟩
def sameS (S:List Ent) (V:List Ver) (s:Slt) (n:Nat):Bool:=(List.range s.res.rds.length).all fun k=>decide (readL S V (s.res.rds.getD k (0,0)).1 n=((s.res.rds.getD k (0,0)).2,s.from_.getD k 0))
def SmTo (S:List Ent) (V:List Ver) (s:Slt) (n k:Nat):Prop:=∀ j,j < k→readL S V (s.res.rds.getD j (0,0)).1 n=((s.res.rds.getD j (0,0)).2,s.from_.getD j 0)
theorem SmTo.next {S:List Ent} {V:List Ver} {s:Slt} {n k:Nat} (h:SmTo S V s n k) (hk:readL S V (s.res.rds.getD k (0,0)).1 n=((s.res.rds.getD k (0,0)).2,s.from_.getD k 0)):SmTo S V s n (k+1):=by
 intro j hj
 by_cases e1:j=k
 · rw [e1];exact hk
 · exact h j (by omega)
theorem SmTo.all {S:List Ent} {V:List Ver} {s:Slt} {n:Nat} (h:SmTo S V s n s.res.rds.length):sameS S V s n=true :=
 List.all_eq_true.2 fun k hk=>decide_eq_true (h k (List.mem_range.1 hk))
theorem sm_bad {S:List Ent} {V:List Ver} {s:Slt} {n k:Nat} (hk:k < s.res.rds.length) (h:readL S V (s.res.rds.getD k (0,0)).1 n≠((s.res.rds.getD k (0,0)).2,s.from_.getD k 0)):sameS S V s n=false:=by
 rw [Bool.eq_false_iff]
 intro hh
 exact h (of_decide_eq_true (List.all_eq_true.1 hh k (List.mem_range.2 hk)))
set_option maxRecDepth 100000 in
set_option maxHeartbeats 4000000 in
theorem readsSame_o (s:Slt) (n:Nat) (S:List Ent) (V:List Ver) (A:List Int) (g B o:Nat) (T:TypeId) (pre post vs:List Value) (a1:Option Addr) (n1 c1:Nat) (a2:Option Addr) (n2 c2:Nat) (a3:Option Addr) (n3 c3:Nat) (w:World) (h1:RowI w a1 n1 s.from_) (h2:RowE w a2 n2 s.res.rds)
  (hKV:KVo w B g T 73 pre post vs (ofK V)) (hpo:pre.length=o) (hV:VOk V) (hA:A.length=32) (hat:∀ k:Nat,k < 32→A.getD k 0=atM S k) (hkey:∀ r∈s.res.rds,0≤r.1∧r.1≤31) (hlen:s.res.rds.length≤s.from_.length) :
  Calls Tryz.prog 115 #[.agg #[.int .i64 s.stage,.int .i64 s.tries,.slice a1 n1 c1,.bool s.res.done,.slice a2 n2 c2,.slice a3 n3 c3],.agg (cellsI A),.pointer (some ⟨g,o,none⟩),.int .i64 (n:Int)] w (BoolB (sameS S V s n) w):=by
 have HPO:=Lib.hid hpo;clear hpo
 have hb0:=((Below.refl w.heap.size w).alloc (Nat.le_refl _) (.cells #[.int .i64 s.stage,.int .i64 s.tries,.slice a1 n1 c1,.bool s.res.done,.slice a2 n2 c2,.slice a3 n3 c3] 75)).alloc (by simp) (.cells (cellsI A) 103)
 obtain ⟨W,hW⟩:∃ W,W=(w.alloc (.cells #[.int .i64 s.stage,.int .i64 s.tries,.slice a1 n1 c1,.bool s.res.done,.slice a2 n2 c2,.slice a3 n3 c3] 75)).alloc (.cells (cellsI A) 103):=⟨_,rfl⟩
 have hz:w.heap.size+2≤W.heap.size:=by rw [hW];simp
 have p2:W.cell? ⟨w.heap.size,2,none⟩=some (.slice a1 n1 c1):=by rw [hW];simp [go_sem]
 have p4:W.cell? ⟨w.heap.size,4,none⟩=some (.slice a2 n2 c2):=by rw [hW];simp [go_sem]
 have hAr:Arr W (w.heap.size+1) 103 A:=by
  have:=Arr.new (w.alloc (.cells #[.int .i64 s.stage,.int .i64 s.tries,.slice a1 n1 c1,.bool s.res.done,.slice a2 n2 c2,.slice a3 n3 c3] 75)) 103 A
  rw [← hW] at this;simpa using this
 rw [← hW] at hb0
 have HW:=Lib.hid hW;clear hW
 have HR1:=Lib.hid (h1.below hb0)
 have HR2:=Lib.hid (h2.below hb0)
 have HKV:=Lib.hid (hKV.below hb0)
 have HL1:=Lib.hid h1.1
 have HL2:=Lib.hid h2.1
 have hm:=h2.2.1
 unfold maxLen at hm
 have hle:n2≤n1:=by rw [← HL1.out,← HL2.out];exact hlen
 have HV:=Lib.hid hV
 have HA:=Lib.hid hA
 have HAT:=Lib.hid hat
 have HKY:=Lib.hid hkey
 have HB0:=Lib.hid hb0
 have hz0:w.heap.size < W.heap.size:=by omega
 have HCC:Hid (∀ W',Below W.heap.size W W'→W'.cell? ⟨w.heap.size,2,none⟩=some (.slice a1 n1 c1)∧Arr W' (w.heap.size+1) 103 A):=Lib.hid (fun W' hb=>⟨below_cell hb hz0 p2,hAr.after hb⟩)
 clear h1 h2 hKV hV hA hat hkey hlen hb0 hz p2 hAr
 go_enter Tryz.func115,Tryz.ntmps115
 go_upto_region 1 with (fail)
 rw [← HW.out]
 clear HW
 go_wp2
 go_loopw [17] (fun i wr=>∃ k:Nat,k≤n2∧i = .int .i64 k∧SmTo S V s n k∧Below W.heap.size W wr) (fun i _=>n2 - (intOf i).toNat)
 case atStart=>exact ⟨0,Nat.zero_le _,rfl,fun j hj=>absurd hj (by omega),Below.refl _ _⟩
 case round =>
  clear p4
  obtain ⟨k,hk,rfl,hto,hb⟩:=hrel
  have HTO:=Lib.hid hto;clear hto
  by_cases hlt:k < n2
  · obtain ⟨b2,o2,rfl,hc2⟩:=(HR2.out.below hb).2.2.1 (by omega)
    obtain ⟨d0,d1⟩:=hc2 k hlt
    obtain ⟨b1,o1,rfl,hc1⟩:=(HR1.out.below hb).2.2.1 (by omega)
    have d2:=hc1 k (by omega)
    obtain ⟨p2,hAr⟩:=HCC.out wr hb
    have hkv:=HKV.out.below hb
    have hky:=HKY.out _ (getD_memP s.res.rds k (by rw [HL2.out];exact hlt))
    have HX:=Lib.hid (fun hh=>HTO.out.next (k:=k) hh)
    have HN:=Lib.hid (fun hh=>sm_bad (S:=S) (V:=V) (s:=s) (n:=n) (k:=k) (by rw [HL2.out];exact hlt) hh)
    have hlt1:b1 < wr.heap.size:=World.block_lt_of_cell? wr ⟨b1,o1+k,none⟩ d2
    clear hc1 hc2 HR1 HR2 HKV HKY
    obtain ⟨y,hy⟩:∃ y,y=(s.res.rds.getD k (0,0)).1:=⟨_,rfl⟩
    obtain ⟨z,hz⟩:∃ z,z=(s.res.rds.getD k (0,0)).2:=⟨_,rfl⟩
    obtain ⟨f,hf⟩:∃ f,f=s.from_.getD k 0:=⟨_,rfl⟩
    rw [← hy] at d0 hky HX HN
    rw [← hz] at d1 HX HN
    rw [← hf] at d2 HX HN
    clear hy hz hf
    obtain ⟨m,rfl⟩:∃ m:Nat,y=(m:Int):=⟨y.toNat,by omega⟩
    have hm32:m < 32:=by omega
    go_upto_region 4 with (fail)
    generalize hw5:World.alloc _ _=w5
    have hb5:Below wr.heap.size wr w5:=by rw [← hw5];exact (Below.refl _ _).alloc (Nat.le_refl _) _
    have hz5:w5.heap.size=wr.heap.size+1:=by rw [← hw5];simp
    have q0:w5.cell? ⟨wr.heap.size,0,none⟩=some (.int .i64 (m:Int)):=by rw [← hw5];simp [go_sem]
    have q1:w5.cell? ⟨wr.heap.size,1,none⟩=some (.int .i64 z):=by rw [← hw5];simp [go_sem]
    have hAr5:=hAr.after hb5
    have hkv5:=hkv.below hb5
    have hzz:w.heap.size < wr.heap.size:=by have:=hb.size;omega
    have p2':=below_cell hb5 hzz p2
    have d2':=below_cell hb5 hlt1 d2
    have HB5:=Lib.hid (hb.trans (hb5.mono hb.size))
    clear hw5 hb hb5 d0 d1 d2 p2 hAr hkv
    have HRD:=Lib.hid (keyRead_o g B o T 73 pre post vs A m (n:Int) S V w5 hkv5 HPO.out HA.out hm32 (HAT.out m hm32) HV.out)
    obtain ⟨rd,hrd⟩:∃ rd,rd=readL S V (m:Int) (n:Int):=⟨_,rfl⟩
    rw [← hrd] at HRD HX HN
    clear hrd hkv5 HV HAT
    obtain ⟨rv,rw'⟩:=rd
    go_wp2_with (first | (refine wpList_load_arr rfl _ _ rfl _ (by rfl) 103 A hAr5 _ _ Tryz.underlying103 (by rw [HA.out];exact infoArr) ?_))
    refine HRD.out.mono ?_;rintro e w6 ⟨rfl,hb6⟩
    have q1':=below_cell hb6 (show wr.heap.size < w5.heap.size by omega) q1
    have p2:=below_cell hb6 (show w.heap.size < w5.heap.size by omega) p2'
    have d2:=below_cell hb6 (show b1 < w5.heap.size by omega) d2'
    have HB6:=Lib.hid (HB5.out.trans (hb6.mono HB5.out.size))
    have HBW:=Lib.hid (HB0.out.trans (HB6.out.mono HB0.out.size))
    have i1:(0:Int)≤(k:Int):=by omega
    have i2:(k:Int) < (n1:Int):=by omega
    clear hb6 q0 q1 p2' d2' hAr5 HRD HB5
    cases t1:(rv != z) with
    | true =>
     have HF:=Lib.hid (HN.out (fun hh=>by injection hh with h1 h2;rw [h1] at t1;simp at t1))
     clear HX HN
     go_wp2
     go_ret
     exact ⟨by rw [HF.out];rfl,HBW.out⟩
    | false =>
     cases t2:(rw' != f) with
     | true =>
      have HF:=Lib.hid (HN.out (fun hh=>by injection hh with h1 h2;rw [h2] at t2;simp at t2))
      clear HX HN
      go_wp2
      go_ret
      exact ⟨by rw [HF.out];rfl,HBW.out⟩
     | false =>
      have HF:=Lib.hid (HX.out (by simp at t1 t2;rw [t1,t2]))
      clear HX HN
      go_wp2
      go_roundw
      case rel=>exact ⟨k+1,by omega,by go_num,HF.out,HB6.out⟩
      case measure=>simp [intOf];omega
  · obtain rfl:n2=k:=by omega
    have HF:=Lib.hid ((HL2.out ▸ HTO.out:SmTo S V s n s.res.rds.length).all)
    have HB6:=Lib.hid (HB0.out.trans (hb.mono HB0.out.size))
    clear hb
    go_wp2
    go_ret
    exact ⟨by rw [HF.out];rfl,HB6.out⟩
theorem readsSame_impl (s:Slt) (n:Nat) (S:List Ent) (V:List Ver) (A:List Int) (g B:Nat) (a1:Option Addr) (n1 c1:Nat) (a2:Option Addr) (n2 c2:Nat) (a3:Option Addr) (n3 c3:Nat) (w:World) (h1:RowI w a1 n1 s.from_) (h2:RowE w a2 n2 s.res.rds)
  (hKV:KV w B g 95 73 (ofK V)) (hV:VOk V) (hA:A.length=32) (hat:∀ k:Nat,k < 32→A.getD k 0=atM S k) (hkey:∀ r∈s.res.rds,0≤r.1∧r.1≤31) (hlen:s.res.rds.length≤s.from_.length) :
  Calls Tryz.prog 115 #[.agg #[.int .i64 s.stage,.int .i64 s.tries,.slice a1 n1 c1,.bool s.res.done,.slice a2 n2 c2,.slice a3 n3 c3],.agg (cellsI A),.pointer (some ⟨g,0,none⟩),.int .i64 (n:Int)] w (BoolB (sameS S V s n) w):=by
 obtain ⟨vs,h⟩:=hKV.o
 exact readsSame_o s n S V A g B 0 95 [] [] vs a1 n1 c1 a2 n2 c2 a3 n3 c3 w h1 h2 h rfl hV hA hat hkey hlen
end Go.Proofs.YtaaffpolmecicabGreat
/- The contract of the program's writtenVersions. -/
namespace Go.Proofs.YtaaffpolmecicabGreat
open Go.RowKit
set_option linter.unusedVariables false
set_option linter.unusedSimpArgs false
def WrittenW (E:List Eff) (n:Nat) (w:World) (e:Ending) (w':World):Prop :=
 ∃ vs F,e = .returned (.agg vs.toArray)∧KVs w' w.heap.size 73 vs F∧KOk F∧catK F 32=vsN E n∧Below w.heap.size w w'
theorem mapRes_get (L:List Slt) (k:Nat):(L.map Slt.res).getD k noEff=(L.getD k noSlt).res:=by
 rw [List.getD_eq_getElem?_getD,List.getD_eq_getElem?_getD,List.getElem?_map]
 cases L[k]? <;> rfl
theorem kok_nils:KOk (fun _=>[]):=fun k hk=>⟨fun x hx=>(by cases hx),List.Pairwise.nil⟩
set_option maxRecDepth 100000 in
set_option maxHeartbeats 8000000 in
theorem written_impl (a:Option Addr) (n cap:Nat) (L:List Slt) (w:World) (h:RowSl w a n L) (h10:n≤10) (hW:∀ k,k < n→writesB (L.getD k noSlt).res.wrs=true) :
  Calls Tryz.prog 112 #[.slice a n cap] w (WrittenW (L.map Slt.res) n w):=by
 have HL:=Lib.hid h.1
 have HE:Hid ((L.map Slt.res).length=n):=Lib.hid (by rw [List.length_map];exact h.1)
 have HWR:=Lib.hid hW
 have HDR:=Lib.hid (fun k (hk:k≤n)=>drop_vs (E:=L.map Slt.res) (by rw [HE.out];exact h10) (fun j hj=>by rw [mapRes_get];exact hW j (by rw [← HE.out];exact hj)) (k:=k) (by rw [HE.out];exact hk))
 have hb2:=((Below.refl w.heap.size w).alloc (Nat.le_refl _) (.cells nils.toArray 95)).alloc (by simp) (.cells nils.toArray 95)
 have hA1:=ArrV.new (w.alloc (.cells nils.toArray 95)) 95 nils
 have hA0:=(ArrV.new w 95 nils).alloc (.cells nils.toArray 95)
 have hz2:((w.alloc (.cells nils.toArray 95)).alloc (.cells nils.toArray 95)).heap.size=w.heap.size+2:=by simp
 have e1:(w.alloc (.cells nils.toArray 95)).heap.size=w.heap.size+1:=by simp
 rw [e1] at hA1
 clear e1
 obtain ⟨E,hE⟩:∃ E,E=L.map Slt.res:=⟨_,rfl⟩
 have HEG:Hid (∀ k,E.getD k noEff=(L.getD k noSlt).res):=Lib.hid (fun k=>by rw [hE,mapRes_get])
 rw [← hE] at HE HDR ⊢
 clear hE hW
 go_enter Tryz.func112,Tryz.ntmps112
 go_upto_region 2 with (fail)
 generalize hw2:World.alloc (World.alloc _ _) _=w2
 have hw2':(w.alloc (.cells nils.toArray 95)).alloc (.cells nils.toArray 95)=w2:=hw2
 rw [hw2'] at hb2 hA1 hA0 hz2
 clear hw2 hw2'
 have HR:=Lib.hid h
 have hKV0:KV w2 (w.heap.size+1) (w.heap.size+1) 95 73 (fun _=>[]):=⟨nils,hA1,KVs.nils _ _ _,fun k hk=>by rw [nils_get hk];simp [Value.ownBlock]⟩
 obtain ⟨g0,hg0⟩:∃ g,g=w.heap.size:=⟨_,rfl⟩
 have HG0:=Lib.hid hg0
 have HB2:=Lib.hid hb2
 have HA0:Hid (ArrV w2 g0 95 nils):=Lib.hid (by rw [hg0];exact hA0)
 rw [← hg0] at hKV0 hz2 ⊢
 have HZ2:=Lib.hid hz2
 clear h hb2 hA1 hA0 hg0 hz2
 go_wp2
 go_loopw [8] (fun i wr=>∃ (k:Nat) (F:Nat→List Ver),k≤n∧i = .int .i64 k∧KV wr (g0+1) (g0+1) 95 73 F∧Hid (KOk F)∧Hid (catK F 32=vsN E k)∧Below (g0+1) w2 wr) (fun i _=>n - (intOf i).toNat)
 case atStart=>exact ⟨0,_,Nat.zero_le _,rfl,hKV0,Lib.hid kok_nils,Lib.hid rfl,Below.refl _ _⟩
 case round =>
  clear hKV0
  obtain ⟨k,F,hk,rfl,hkv,HKF,HCF,hb⟩:=hrel
  by_cases hlt:k < n
  · have hbw:Below w.heap.size w wr:=HB2.out.trans (hb.mono (by have:=HG0.out;omega))
    obtain ⟨b4,o4,rfl,hsl⟩:=HR.out.at k hlt
    have hwr:=HWR.out k hlt
    have HEGk:=Lib.hid (HEG.out k)
    have HDRk:=Lib.hid (HDR.out k (by omega))
    have HNX:Hid (vsN E (k+1)=putL (vsN E k) (k:Int) (L.getD k noSlt).res.wrs):=Lib.hid (by show putL _ _ _ = _;rw [HEGk.out])
    obtain ⟨s,hs⟩:∃ s,s=L.getD k noSlt:=⟨_,rfl⟩
    rw [← hs] at hsl hwr HNX
    clear hs
    obtain ⟨s0,s1,⟨v2,s2,av,nv,cv,rfl,-,-,-⟩,s3,⟨v4,s4,aw,nw,cw,rfl,-,-,-⟩,v5,s5,ax,nx,cx,rfl,hrx,-,-⟩:=hsl
    have hl4:b4 < w.heap.size:=World.block_lt_of_cell? w ⟨b4,o4+k*6,none⟩ s0
    have s0:=below_cell hbw hl4 s0
    have s1:=below_cell hbw hl4 s1
    have s2:=below_cell hbw hl4 s2
    have s3:=below_cell hbw hl4 s3
    have s4:=below_cell hbw hl4 s4
    have s5:=below_cell hbw hl4 s5
    have HXB:Hid (∀ bb oo,0 < nx→ax=some ⟨bb,oo,none⟩→bb < g0+1):=Lib.hid (fun bb oo h0 he=>by
     obtain ⟨b',o',he',hc'⟩:=hrx.2.2.1 h0
     rw [he] at he'
     simp only [Option.some.injEq,Addr.mk.injEq] at he'
     have hlt':b' < w.heap.size:=World.block_lt_of_cell? w ⟨b',o'+0*2,none⟩ (hc' 0 h0).1
     have:=HG0.out
     omega)
    have hrx:=hrx.below hbw
    have HWB:=Lib.hid hwr
    have hnx:nx≤32:=by rw [← hrx.1];exact wr_len hwr
    obtain ⟨wo,hwo⟩:∃ wo,wo=wr:=⟨wr,rfl⟩
    subst hwo
    go_upto_region 5 with (fail)
    generalize hw5:World.alloc _ _=w5
    have hb5:Below wo.heap.size wo w5:=by rw [← hw5];exact (Below.refl _ _).alloc (Nat.le_refl _) _
    have p5:w5.cell? ⟨wo.heap.size,5,none⟩=some (.slice ax nx cx):=by rw [← hw5];simp [go_sem]
    have hkv5:=hkv.below hb5
    have hsz:g0+1 < wo.heap.size:=hkv.lt
    have HB5:=Lib.hid (hb.trans (hb5.mono (by omega)))
    have HRX:=Lib.hid (hrx.below hb5)
    have hk10:inB (k:Int) 0 9=true:=inB_yes (by omega) (by omega)
    have HPW:=Lib.hid (putWrites_impl (g0+1) (g0+1) F (vsN E k) (k:Int) ax nx cx s.res.wrs w5 hkv5 HKF.out (by rw [HCF.out,HDRk.out]) HRX.out hk10 hwr (Nat.le_refl _) HXB.out)
    clear hl4 hw5 hb hb5 hkv hkv5 hbw s0 s1 s2 s3 s4 s5 hrx hwr HR
    go_wp2_with fail
    refine HPW.out.mono ?_;rintro e w6 ⟨rfl,F6,hk6,HKF6,HCF6,hb6⟩
    have HKF6':=Lib.hid HKF6
    have HCF6':Hid (catK F6 32=vsN E (k+1)):=Lib.hid (by rw [HCF6,HNX.out])
    have HB6:=Lib.hid (HB5.out.trans hb6)
    clear HKF6 HCF6 hb6 HPW HKF HCF p5
    go_wp2
    go_roundw
    case rel=>exact ⟨k+1,F6,by omega,by go_num,hk6,HKF6',HCF6',HB6.out⟩
    case measure=>simp [intOf];omega
  · obtain rfl:n=k:=by omega
    obtain ⟨vs,hv1,hv2,hv3⟩:=hkv
    have HLV:=Lib.hid hv2.len
    have hone:=hv2.one
    have hA0:ArrV wr g0 95 nils:=HA0.out.keep (hb.block g0 (Nat.lt_succ_self _))
    have HNE:Hid (∀ k,k < 32→∀ b,(vs.getD k undef).ownBlock=some b→some g0≠some b):=Lib.hid (fun k hk b hb=>by have:=(hv2.lt hk hb).1;intro h;cases h;omega)
    have HV2:=Lib.hid hv2
    clear hv2 hv3
    go_wp2_with (first | (refine wpList_load_arrV rfl _ _ rfl _ (by rfl) 95 vs hv1 _ _ Tryz.underlying95 (by rw [HLV.out];exact infoKeys) ?_) | (refine wpList_store_arrV rfl _ _ _ rfl _ vs (by rfl) (by rfl) 95 _ hA0 (by rw [HLV.out];exact infoKeys) (by rw [HLV.out];rfl) hone ?_;intro w4 hV4 hg4 hz4))
    have hne:∀ k,k < 32→∀ b,(vs.getD k undef).ownBlock=some b→some g0≠some b:=HNE.out
    have hV4':=HV2.out.grown hg4 hne
    have HKO:=HKF
    have HBF:Hid (Below w.heap.size w w4):=Lib.hid ((HB2.out.trans (hb.mono (by have:=HG0.out;omega))).grown hg4 (by have:=(HB2.out.trans (hb.mono (by have:=HG0.out;omega))).size;omega) (fun k hk=>by cases hk;have:=HG0.out;omega))
    refine bodyPost_ret (v:=.agg vs.toArray) ?_ rfl ⟨vs,F,rfl,hV4'.mono (by have:=HG0.out;omega),HKO.out,HCF.out,HBF.out⟩
    exact results_cell_row Tryz.results112 _ _ g0 95 vs.toArray (0,0) _ (by rfl) hV4 Tryz.underlying95 rfl (by simpa [HLV.out] using infoKeys)
end Go.Proofs.YtaaffpolmecicabGreat
/- The contract of the program's EngineValid. -/
namespace Go.Proofs.YtaaffpolmecicabGreat
open Go.RowKit
set_option linter.unusedVariables false
set_option linter.unusedSimpArgs false
theorem ofK_catK {F:Nat→List Ver} (h:KOk F) {k:Nat} (hk:k < 32):ofK (catK F 32) k=F k:=by
 have hF:∀ n,n < 32→ofK (F n) k=if n=k then F n else []:=by
  intro n hn
  by_cases e:n=k
  · subst e
    rw [if_pos rfl]
    exact List.filter_eq_self.2 fun x hx=>decide_eq_true ((h n hn).1 x hx).2
  · rw [if_neg e]
    refine List.filter_eq_nil_iff.2 fun x hx hc=>?_
    have h1:=((h n hn).1 x hx).2
    have h2:=of_decide_eq_true hc
    omega
 have gen:∀ n,n≤32→ofK (catK F n) k=if k < n then F k else []:=by
  intro n
  induction n with
  | zero=>intro _;rfl
  | succ n ih =>
   intro hn
   have e1:ofK (catK F (n+1)) k=ofK (catK F n) k++ofK (F n) k:=by unfold ofK;rw [catK,List.filter_append]
   rw [e1,ih (by omega),hF n (by omega)]
   by_cases e:n=k
   · subst e;rw [if_neg (by omega),if_pos rfl,if_pos (by omega)];rfl
   · rw [if_neg e]
     by_cases e2:k < n
     · rw [if_pos e2,if_pos (by omega),List.append_nil]
     · rw [if_neg e2,if_neg (by omega)];rfl
 rw [gen 32 (Nat.le_refl _),if_pos hk]
def FstTo (e:Eng) (k:Nat):Prop:=∀ j,j < k→stg e j=2∧sameB e j=true
theorem FstTo.next {e:Eng} {k:Nat} (h:FstTo e k) (hk:stg e k=2∧sameB e k=true):FstTo e (k+1):=by
 intro j hj
 by_cases e1:j=k
 · rw [e1];exact hk
 · exact h j (by omega)
theorem engB_nope {e:Eng} (h:EngOk e→False):engB e=false:=by
 rw [Bool.eq_false_iff];intro hh;exact h ((engB_iff e).1 hh)
theorem wpList_load_arrG {P:Program} {ops:Array Oper} {rest:List Oper} {o:Oper} {a:Act} {w:World} {Q:Exit→Act→World→Prop} (hw:Region.wanted o (yielded ops a.tmps)=true) (ty:TypeId) (x:Operand) (ho:o.op = .load ty x)
  (g:Nat) (hx:a.eval x = .pointer (some ⟨g,0,none⟩)) (T:TypeId) (A:List Int) (h:Arr w g T A) (n:Nat) (e:TypeId)
  (hu:P.underlying ty=some (.array n e)) (hi:(P.info? ty).map (·.size)=some A.length)
  (hk:wpList P ops Q rest (a.put o.dst (.agg (cellsI A))) w):wpList P ops Q (o :: rest) a w :=
 wpList_step fun K hK=>by
  simp only [hw,if_true]
  exact wp_load_row ty x ho g hx T (cellsI A) (0,0) _ h hu rfl (by rw [cellsI_size];exact hi) (hK _ _ hk)
set_option maxRecDepth 100000 in
set_option maxHeartbeats 8000000 in
theorem engineValid_impl (v1 v2 v3 v4:Value) (e:Eng) (w:World) (h:EngRd w v1 v2 v3 v4 e) :
  Calls Tryz.prog 45 #[.agg #[v1,v2,v3,v4]] w (BoolB (engB e) w):=by
 have hb0:=(Below.refl w.heap.size w).alloc (Nat.le_refl _) (.cells #[v1,v2,v3,v4] 57)
 have hg0:=egAt_new w 57 v1 v2 v3 v4
 have HX:=Lib.hid (fun h=>engB_nope (e:=e) h)
 have HR0:=Lib.hid h
 obtain ⟨⟨a1,n1,c1,rfl,hr1,-,-⟩,⟨a2,n2,c2,rfl,hr2,-,-⟩,⟨a3,n3,c3,rfl,hr3,-,-⟩,a4,n4,c4,rfl,hr4,hz4,hcc4⟩:=h
 obtain ⟨W1,hW1⟩:∃ W1,W1=w.alloc (.cells #[.slice a1 n1 c1,.slice a2 n2 c2,.slice a3 n3 c3,.slice a4 n4 c4] 57):=⟨_,rfl⟩
 have hz1:w.heap.size < W1.heap.size:=by rw [hW1];simp
 have HW1:=Lib.hid hW1
 rw [← hW1] at hb0 hg0
 clear hW1
 have hl2:=hr2.1
 have hl4:=hr4.1
 have HL2:=Lib.hid hl2
 have HL4:=Lib.hid hl4
 have hm4:=hr4.2.1
 unfold maxLen at hm4
 -- what stays,from W1 on
 have hKK:∀ W',Below W1.heap.size W1 W'→(W'.cell? ⟨w.heap.size,0,none⟩=some (.slice a1 n1 c1)∧W'.cell? ⟨w.heap.size,1,none⟩=some (.slice a2 n2 c2)∧W'.cell? ⟨w.heap.size,2,none⟩=some (.slice a3 n3 c3)∧W'.cell? ⟨w.heap.size,3,none⟩=some (.slice a4 n4 c4))∧RowE W' a1 n1 e.base∧RowA W' a2 n2 e.list∧RowV W' a3 n3 e.vers∧RowSl W' a4 n4 e.slots∧Below w.heap.size w W':=fun W' hb=>by
  have hb':=hb0.trans (hb.mono hb0.size)
  exact ⟨⟨below_cell hb hz1 hg0.c0,below_cell hb hz1 hg0.c1,below_cell hb hz1 hg0.c2,below_cell hb hz1 hg0.c3⟩,(hr1.below hb0).below hb,(hr2.below hb0).below hb,(hr3.below hb0).below hb,(hr4.below hb0).below hb,hb'⟩
 have HKK:=Lib.hid hKK
 clear hKK hr1 hr2 hr3 hr4 hb0 HR0 hl2 hl4
 obtain ⟨g0,g1,g2,g3,-,-,-,-⟩:=hg0
 have h1w:=(HKK.out W1 (Below.refl _ _)).2.1
 go_enter Tryz.func45,Tryz.ntmps45
 go_upto_region 1 with (fail)
 rw [← HW1.out]
 clear HW1
 go_wp2_with fail
 refine (valuesOf_any a1 n1 c1 e.base _ h1w).mono ?_;rintro e1 w1 ⟨rfl,hb1⟩
 have hA0:=Arr.new w1 103 zeros
 have HAL:=Lib.hid (valsM_len e.base)
 have HAG:Hid (storeB e.base=true→∀ k:Nat,k < 32→(valsM e.base).getD k 0=atM e.base k):=Lib.hid (fun hs k hk=>by rw [show valsM e.base=arrOf e.base by simp [valsM,hs]];exact arrOf_get e.base k hk)
 obtain ⟨A,hA⟩:∃ A,A=valsM e.base:=⟨_,rfl⟩
 rw [← hA] at HAL HAG ⊢
 have HB1:=Lib.hid hb1
 clear hA h1w hb1 g0 g1 g2 g3
 go_upto_region 2 with (first | (refine wpList_store_arr' rfl _ _ _ rfl _ A (by rfl) (by rfl) 103 _ hA0 (by rw [HAL.out];exact infoArr) (by rw [HAL.out];rfl) ?_;intro w2 hA2 hg2 hz2))
 have HB2:Hid (Below W1.heap.size W1 w2):=Lib.hid ((HB1.out.alloc HB1.out.size _).grown hg2 (by simp;have:=HB1.out.size;omega) fun k hk=>by cases hk;exact HB1.out.size)
 have hgw:W1.heap.size≤w1.heap.size:=HB1.out.size
 obtain ⟨gA,hgA⟩:∃ g,g=w1.heap.size:=⟨_,rfl⟩
 rw [← hgA] at hA2 hgw ⊢
 clear hA0 hg2 hz2 HB1 hgA
 obtain ⟨⟨g0,g1,g2,g3⟩,-,k2,-,k4,hbw⟩:=HKK.out w2 HB2.out
 cases x1:storeB e.base with
 | false =>
  have HF:=Lib.hid (HX.out (fun hh=>by have:=hh.base;rw [x1] at this;cases this))
  clear HX HKK hA2 k2 k4
  go_wp2
  go_ret
  exact ⟨by rw [HF.out];rfl,hbw⟩
 | true =>
  have HAT:=Lib.hid (HAG.out x1)
  have HSB:=Lib.hid x1
  clear x1 HAG hbw k4
  go_wp2_with fail
  refine (actionsValid_impl a2 n2 c2 e.list _ k2).mono ?_;rintro e1 w3 ⟨rfl,hb3⟩
  have HB3:=Lib.hid (HB2.out.trans (hb3.mono HB2.out.size))
  have hA3:=hA2.after hb3
  obtain ⟨⟨g0,g1,g2,g3⟩,-,k2,-,k4,hbw⟩:=HKK.out w3 HB3.out
  clear hb3 hA2 HB2
  cases x2:actsB e.list with
  | false =>
   have HF:=Lib.hid (HX.out (fun hh=>by have:=hh.list;rw [x2] at this;cases this))
   clear HX HKK hA3 k2 k4
   go_wp2
   go_ret
   exact ⟨by rw [HF.out];rfl,hbw⟩
  | true =>
   have HAB:=Lib.hid x2
   have HSF:=Lib.hid (slotsFit_impl a4 n4 c4 e.slots a2 n2 c2 e.list w3 k4 k2 x2)
   clear x2 hbw k2 k4
   go_wp2_with fail
   refine HSF.out.mono ?_;rintro e1 w4 ⟨rfl,hb4⟩
   have HB4:=Lib.hid (HB3.out.trans (hb4.mono HB3.out.size))
   have hA4:=hA3.after hb4
   obtain ⟨⟨g0,g1,g2,g3⟩,-,-,-,k4,hbw⟩:=HKK.out w4 HB4.out
   clear hb4 hA3 HB3 HSF
   cases x3:fitAll e.slots e.list with
   | false =>
    have HF:=Lib.hid (HX.out (fun hh=>by have:=fitAll_iff.2 ⟨hh.len,hh.slot⟩;rw [x3] at this;cases this))
    clear HX HKK hA4 k4
    go_wp2
    go_ret
    exact ⟨by rw [HF.out];rfl,hbw⟩
   | true =>
    have hfit:=fitAll_iff.1 x3
    have HFIT:=Lib.hid hfit
    have hn10:n4≤10:=by rw [← HL4.out,hfit.1];exact (actsB_true HAB.out).1
    have HACT:Hid (∀ k,k < n4→actB (e.list.getD k noA)=true):=Lib.hid (fun k hk=>act_get HAB.out (by rw [← hfit.1,HL4.out];exact hk))
    have HWV:=Lib.hid (written_impl a4 n4 c4 e.slots w4 k4 hn10 (fun k hk=>slot_wr (HACT.out k hk) (hfit.2 k (by rw [HL4.out];exact hk))))
    clear x3 hfit k4 hbw
    go_wp2_with fail
    refine HWV.out.mono ?_;rintro e1 w5 ⟨vs,F,rfl,hK,HKF0,HCF0,hb5⟩
    have HKF:=Lib.hid HKF0
    have HCF:Hid (catK F 32=vsN (resL e) n4):=Lib.hid HCF0
    have HB5:=Lib.hid (HB4.out.trans (hb5.mono HB4.out.size))
    have hA5:=hA4.after hb5
    have hV0:=ArrV.new w5 95 nils
    have HLV:=Lib.hid hK.len
    have hone:=hK.one
    have hKV0:=fun w2 hA hg=>(hK.mono HB4.out.size).laid (T:=95) (w5:=w2) (.cells nils.toArray 95) hA hg
    have HKV:=Lib.hid hKV0
    clear hKV0 hK HKF0 HCF0 hb5 hA4 HB4 HWV g0 g1 g2 g3
    go_upto_region 5 with (first | (refine wpList_store_arrV rfl _ _ _ rfl _ vs (by rfl) (by rfl) 95 _ hV0 (by rw [HLV.out];exact infoKeys) (by rw [HLV.out];rfl) hone ?_;intro w6 hV6 hg6 hz6))
    have hk6:=HKV.out w6 hV6 hg6
    have HB6:Hid (Below W1.heap.size W1 w6):=Lib.hid ((HB5.out.alloc HB5.out.size _).grown hg6 (by simp;have:=HB5.out.size;omega) fun k hk=>by cases hk;exact HB5.out.size)
    have hA6:=(hA5.alloc (.cells nils.toArray 95)).grown hg6 (fun e=>by have:=hA5.lt;simp at e;omega)
    obtain ⟨gV,hgV⟩:∃ g,g=w5.heap.size:=⟨_,rfl⟩
    rw [← hgV] at hk6 ⊢
    clear hV0 hV6 hg6 hz6 hone HKV hA5 HB5 hgV
    obtain ⟨⟨g0,g1,g2,g3⟩,-,-,k3,-,-⟩:=HKK.out w6 HB6.out
    clear g0 g1 g3
    have HK3:=Lib.hid k3
    have HLI:=Lib.hid (fun (W:World) hk=>list_impl gV W1.heap.size 95 73 F W hk HKF.out)
    have hgZ:w.heap.size < w6.heap.size:=by have:=HB6.out.size;omega
    have HCE:Hid (∀ W',Below w6.heap.size w6 W'→W'.cell? ⟨w.heap.size,2,none⟩=some (.slice a3 n3 c3)):=Lib.hid (fun W' hb=>below_cell hb hgZ g2)
    have HLW:=Lib.hid (catK_len' HKF.out (Nat.le_refl 32))
    obtain ⟨V,hV⟩:∃ V,V=catK F 32:=⟨_,rfl⟩
    have HVE:=Lib.hid hV
    rw [← hV] at HLI HLW HCF
    clear hV k3
    go_region_held3 (fun w'=>w'.cell? ⟨w.heap.size,2,none⟩=some (.slice a3 n3 c3)) (first | exact g2 | exact k2' | exact k2'' | go_keep) (first | (go_at_call 79;refine (HLI.out w6.drew (hk6.below (Below.refl _ _).drew)).mono ?_;rintro e1 w7 ⟨vl,rfl,hol,hwl,hb7'⟩;have hb7:=(Below.refl w6.heap.size w6).drew.trans hb7';have k2':=HCE.out _ hb7;obtain ⟨al,cl,rfl,hrl,-⟩:=rowV_of_owns hol (Nat.le_trans HLW.out (by omega)) hwl) | (go_at_call 113;refine (equalV_any a3 al n3 c3 _ cl e.vers V _ (show RowV _ _ _ _ from HK3.out.below hb7) (show RowV _ _ _ _ from hrl)).mono ?_;rintro e1 w8 ⟨rfl,hdr8⟩;have k2'':=(hdr8.cell _).trans k2'))
    have hb8:=hb7.trans ((hdr8.below w7.heap.size).mono hb7.size)
    have HB8:=Lib.hid (HB6.out.trans (hb8.mono HB6.out.size))
    have hA8:=hA6.after hb8
    have hk8:=hk6.below hb8
    obtain ⟨⟨g0,g1,-,g3⟩,-,-,-,k4,hbw⟩:=HKK.out w8 HB8.out
    clear hb8 hb7 hb7' hdr8 k2'' hrl hol hwl hA6 hk6 HB6 HLI HCE HLW HK3 g0 g1
    cases x5:decide (e.vers=V) with
    | false =>
     have HF:=Lib.hid (HX.out (fun hh=>by
      have h5:=hh.vers
      rw [HL4.out,← HCF.out] at h5
      rw [decide_eq_true h5] at x5;cases x5))
     clear HX HKK hA8 hk8 k4 HCF
     go_wp2
     go_ret
     exact ⟨by rw [HF.out];rfl,hbw⟩
    | true =>
     have HVE2:=Lib.hid (of_decide_eq_true x5)
     have HK8:=Lib.hid hk8
     have HA8:=Lib.hid hA8
     have hlc:=cntC_le e n4
     have HCN:=Lib.hid (fun (W:World) (hr:RowSl W a4 n4 e.slots)=>checkedCount_impl a4 n4 c4 e W hr)
     obtain ⟨c,hc⟩:∃ c,c=cntC e n4:=⟨_,rfl⟩
     have HCC:=Lib.hid hc
     rw [← hc] at hlc HCN
     have HK4:=Lib.hid k4
     have hgZ8:w.heap.size < w8.heap.size:=by have:=HB8.out.size;omega
     have HCE:Hid (∀ W',Below w8.heap.size w8 W'→W'.cell? ⟨w.heap.size,3,none⟩=some (.slice a4 n4 c4)):=Lib.hid (fun W' hb=>below_cell hb hgZ8 g3)
     have i1:(0:Int)≤(c:Int):=by omega
     have i2:(c:Int)≤(n4:Int):=by omega
     have i3:(c:Int)≤(c4:Int):=by omega
     clear x5 hk8 hA8 hc k4 hbw
     go_upto_region 7 with (fail)
     go_region_held3 (fun w'=>w'.cell? ⟨w.heap.size,3,none⟩=some (.slice a4 n4 c4)) (first | exact g3 | exact k3' | go_keep) (first | (go_at_call 114;refine (HCN.out w8.drew (HK4.out.below (Below.refl _ _).drew)).mono ?_;rintro e1 w9 ⟨rfl,hb9'⟩;have hb9:=(Below.refl w8.heap.size w8).drew.trans hb9';have k3':=HCE.out _ hb9))
     have HB9:=Lib.hid (HB8.out.trans (hb9.mono HB8.out.size))
     have HA9:=Lib.hid (HA8.out.after hb9)
     have HK9:=Lib.hid (HK8.out.below hb9)
     have HFN:=Lib.hid (fun k (hk:k < c) hh=>engB_not (e:=e) (n:=k) (by rw [HL4.out,← HCC.out];exact hk) hh)
     have HVF:Hid (VOk e.vers∧∀ j,j < 32→F j=ofK e.vers j):=Lib.hid (by
      rw [HVE2.out,HVE.out]
      exact ⟨catK_ok HKF.out 32 (Nat.le_refl _),fun j hj=>(ofK_catK HKF.out hj).symm⟩)
     have HEND:Hid (FstTo e c→engB e=true):=Lib.hid (fun hf=>engB_prog HSB.out HAB.out HFIT.out.1 HFIT.out.2 (by rw [HVE2.out,HCF.out,HL4.out]) (fun n hn=>hf n (by rw [HCC.out];rw [HL4.out] at hn;exact hn)))
     have HGA:=Lib.hid hgw
     clear hb9 hb9' k3' g2 HB8 HA8 HK8 HX HK4 HCE HCN g3 i3 hgZ8 hgZ hm4 hz4 hcc4
     go_wp2
     go_loopw [45] (fun i wr=>∃ k:Nat,k≤c∧i = .int .i64 k∧FstTo e k∧Below w9.heap.size w9 wr) (fun i _=>c - (intOf i).toNat)
     case atStart=>exact ⟨0,Nat.zero_le _,rfl,fun j hj=>absurd hj (by omega),Below.refl _ _⟩
     case round =>
      obtain ⟨k,hk,rfl,hto,hb⟩:=hrel
      have HTO:=Lib.hid hto;clear hto
      have HBR:=Lib.hid (HB9.out.trans (hb.mono HB9.out.size))
      by_cases hlt:k < c
      · have hA:=HA9.out.after hb
        have hkv:=(HK9.out.below hb).congr HVF.out.2
        obtain ⟨-,-,-,-,k4,hbw⟩:=HKK.out wr HBR.out
        obtain ⟨b4,o4,rfl,hsl⟩:=k4.at k (by omega)
        have hst:(e.slots.getD k noSlt).stage=stg e k:=rfl
        have HSB2:=Lib.hid (HFIT.out.2 k (by rw [HL4.out];omega))
        have HACk:=Lib.hid (HACT.out k (by omega))
        have HNX:=Lib.hid (fun hh=>HTO.out.next (k:=k) hh)
        have HBD:=Lib.hid (HFN.out k hlt)
        have hsm:sameS e.base e.vers (e.slots.getD k noSlt) k=sameB e k:=rfl
        have HSI:Hid (stg e k=2→(∀ r∈(e.slots.getD k noSlt).res.rds,0≤r.1∧r.1≤31)∧(e.slots.getD k noSlt).res.rds.length≤(e.slots.getD k noSlt).from_.length):=Lib.hid (fun h2=>by
         have hsi:=slot_old HACk.out HSB2.out (by unfold stg at h2;omega)
         refine ⟨fun r hr=>?_,by rw [hsi.rds,List.length_map,hsi.flen];exact Nat.le_refl _⟩
         rw [hsi.rds] at hr
         obtain ⟨key,hkey,rfl⟩:=List.mem_map.1 hr
         exact readsM_bd _ key hkey)
        clear k4 HFN HKK HFIT HACT HSB2 HACk
        obtain ⟨st,hs1⟩:∃ st,st=stg e k:=⟨_,rfl⟩
        obtain ⟨sm,hs2⟩:∃ sm,sm=sameB e k:=⟨_,rfl⟩
        obtain ⟨s,hss⟩:∃ s,s=e.slots.getD k noSlt:=⟨_,rfl⟩
        rw [← hs1,← hs2] at HNX HBD
        rw [← hs1,← hss] at hst HSI
        rw [← hs2,← hss] at hsm
        rw [← hss] at hsl
        clear hs1 hs2 hss
        obtain ⟨s0,s1,⟨v2,s2,av,nv,cv,rfl,hrv,-,-⟩,s3,⟨v4,s4,aw,nw,cw,rfl,hrw,-,-⟩,v5,s5,ax,nx,cx,rfl,hrx,-,-⟩:=hsl
        rw [hst] at s0
        go_upto_region 10 with (fail)
        generalize hw5:World.alloc _ _=w10
        have hb10:Below wr.heap.size wr w10:=by rw [← hw5];exact (Below.refl _ _).alloc (Nat.le_refl _) _
        have p0:w10.cell? ⟨wr.heap.size,0,none⟩=some (.int .i64 st):=by rw [← hw5];simp [go_sem]
        have p1:w10.cell? ⟨wr.heap.size,1,none⟩=some (.int .i64 s.tries):=by rw [← hw5];simp [go_sem]
        have p2:w10.cell? ⟨wr.heap.size,2,none⟩=some (.slice av nv cv):=by rw [← hw5];simp [go_sem]
        have p3:w10.cell? ⟨wr.heap.size,3,none⟩=some (.bool s.res.done):=by rw [← hw5];simp [go_sem]
        have p4:w10.cell? ⟨wr.heap.size,4,none⟩=some (.slice aw nw cw):=by rw [← hw5];simp [go_sem]
        have p5:w10.cell? ⟨wr.heap.size,5,none⟩=some (.slice ax nx cx):=by rw [← hw5];simp [go_sem]
        have hA10:=hA.after hb10
        have HB10:=Lib.hid (hb.trans (hb10.mono hb.size))
        have HBW10:=Lib.hid (hbw.trans (hb10.mono hbw.size))
        cases t1:(st != 2) with
        | true =>
         have HF:=Lib.hid (HBD.out (fun hh=>by rw [hh.1] at t1;simp at t1))
         clear HNX HBD HSI HEND hA hA10 hkv hrv hrw hrx hsm hw5 hb10 hb hbw s0 s1 s2 s3 s4 s5
         go_wp2
         go_ret
         exact ⟨by rw [HF.out];rfl,HBW10.out⟩
        | false =>
         have hst2:st=2:=by simpa using t1
         have HSI2:=HSI.out hst2
         have HST:=Lib.hid hst2
         have HRS:=Lib.hid (readsSame_impl s k e.base e.vers A gV W1.heap.size av nv cv aw nw cw ax nx cx w10 (hrv.below hb10) (hrw.below hb10) (hkv.below hb10) HVF.out.1 HAL.out HAT.out HSI2.1 HSI2.2)
         rw [hsm,hst] at HRS
         clear HSI HSI2 hst2 hA hkv hrv hrw hrx hsm hst hw5 hb10 hb hbw s0 s1 s2 s3 s4 s5
         go_wp2_with (first | (refine wpList_load_arrG (by first | rfl | simp [Region.wanted,yielded]) _ _ rfl _ (by rfl) 103 A hA10 _ _ Tryz.underlying103 (by rw [HAL.out];exact infoArr) ?_))
         refine HRS.out.mono ?_;rintro e1 w11 ⟨rfl,hb11⟩
         have HB11:=Lib.hid (HB10.out.trans (hb11.mono HB10.out.size))
         have HBW11:=Lib.hid (HBW10.out.trans (hb11.mono HBW10.out.size))
         clear hb11 HRS hA10 p0 p1 p2 p3 p4 p5
         cases sm with
         | false =>
          have HF:=Lib.hid (HBD.out (fun hh=>by cases hh.2))
          clear HNX HBD HEND
          go_wp2
          go_ret
          exact ⟨by rw [HF.out];rfl,HBW11.out⟩
         | true =>
          have HF:=Lib.hid (HNX.out ⟨HST.out,rfl⟩)
          clear HNX HBD
          go_wp2
          go_roundw
          case rel=>exact ⟨k+1,by omega,by go_num,HF.out,HB11.out⟩
          case measure=>simp [intOf];omega
      · obtain rfl:c=k:=by omega
        have HF:=Lib.hid (HEND.out HTO.out)
        have HBW:=Lib.hid ((HKK.out wr HBR.out).2.2.2.2.2)
        clear HEND hb HKK HFN
        go_wp2
        go_ret
        exact ⟨by rw [HF.out];rfl,HBW.out⟩
end Go.Proofs.YtaaffpolmecicabGreat
/- The contract of the program's EngineDone (gen11/engdone.py). -/
namespace Go.Proofs.YtaaffpolmecicabGreat
open Go.RowKit
set_option linter.unusedVariables false
set_option linter.unusedSimpArgs false
set_option maxRecDepth 100000 in
set_option maxHeartbeats 8000000 in
theorem engineDone_impl (v1 v2 v3 v4:Value) (e:Eng) (w:World) (h:EngRd w v1 v2 v3 v4 e) :
  Calls Tryz.prog 48 #[.agg #[v1,v2,v3,v4]] w (BoolB (doneE e) w):=by
 have hb0:=(Below.refl w.heap.size w).alloc (Nat.le_refl _) (.cells #[v1,v2,v3,v4] 57)
 have hg0:=egAt_new w 57 v1 v2 v3 v4
 obtain ⟨⟨a1,n1,c1,rfl,hr1,hz1,hcc1⟩,⟨a2,n2,c2,rfl,hr2,hz2,hcc2⟩,⟨a3,n3,c3,rfl,hr3,hz3,hcc3⟩,a4,n4,c4,rfl,hr4,hz4,hcc4⟩:=h
 obtain ⟨W1,hW1⟩:∃ W1,W1=w.alloc (.cells #[.slice a1 n1 c1,.slice a2 n2 c2,.slice a3 n3 c3,.slice a4 n4 c4] 57):=⟨_,rfl⟩
 have hzz:w.heap.size < W1.heap.size:=by rw [hW1];simp
 have HW1:=Lib.hid hW1
 rw [← hW1] at hb0 hg0
 clear hW1
 have HL2:=Lib.hid hr2.1
 have HL4:=Lib.hid hr4.1
 have hKK:∀ W',Below W1.heap.size W1 W'→(W'.cell? ⟨w.heap.size,0,none⟩=some (.slice a1 n1 c1)∧W'.cell? ⟨w.heap.size,1,none⟩=some (.slice a2 n2 c2)∧W'.cell? ⟨w.heap.size,2,none⟩=some (.slice a3 n3 c3)∧W'.cell? ⟨w.heap.size,3,none⟩=some (.slice a4 n4 c4))∧EngRd W' (.slice a1 n1 c1) (.slice a2 n2 c2) (.slice a3 n3 c3) (.slice a4 n4 c4) e∧RowSl W' a4 n4 e.slots:=fun W' hb =>
  ⟨⟨below_cell hb hzz hg0.c0,below_cell hb hzz hg0.c1,below_cell hb hzz hg0.c2,below_cell hb hzz hg0.c3⟩,⟨⟨a1,n1,c1,rfl,(hr1.below hb0).below hb,hz1,hcc1⟩,⟨a2,n2,c2,rfl,(hr2.below hb0).below hb,hz2,hcc2⟩,⟨a3,n3,c3,rfl,(hr3.below hb0).below hb,hz3,hcc3⟩,a4,n4,c4,rfl,(hr4.below hb0).below hb,hz4,hcc4⟩,(hr4.below hb0).below hb⟩
 have HKK:=Lib.hid hKK
 have HB0:=Lib.hid hb0
 have hlc:=cntC_le e n4
 have HALL:Hid (engB e=true→doneE e=(cntC e n4 == n2)):=Lib.hid (fun hb=>by
  have hlen:=((engB_iff e).1 hb).len
  rw [HL4.out,HL2.out] at hlen
  subst hlen
  rw [Bool.eq_iff_iff,beq_iff_eq]
  constructor
  · intro hd
    unfold doneE at hd
    rw [Bool.and_eq_true,List.all_eq_true] at hd
    refine cntC_all.2 fun m hm=>of_decide_eq_true (hd.2 m (List.mem_range.2 (by rw [HL4.out];exact hm)))
  · intro hc
    exact doneE_yes hb fun m hm=>cntC_all.1 hc m (by rw [← HL4.out];exact hm))
 have HNO:=Lib.hid (fun hb=>doneE_no (e:=e) hb)
 clear hKK hr1 hr2 hr3 hr4 hb0 hz1 hz2 hz3 hz4 hcc1 hcc2 hcc3 hcc4 hg0
 go_enter Tryz.func48,Tryz.ntmps48
 go_upto_region 1 with (fail)
 rw [← HW1.out]
 clear HW1
 cases hb:engB e with
 | false =>
  have HEB:=Lib.hid hb
  have HF:=Lib.hid (HNO.out hb)
  clear hb HALL HNO
  refine wp_region_light (by kernel_rfl) (fun lz fz wz=>Vals [(0,3,(.agg #[.slice a1 n1 c1,.slice a2 n2 c2,.slice a3 n3 c3,.slice a4 n4 c4])),(1,4,(.bool false)),(2,5,(.bool false)),(10,13,(.bool false)),(11,2,(.bool false))] lz fz∧Facts W1 [] lz fz wz) 14 rfl [3,4,5,6,7,8,9,10,11,12,13,2] (by kernel_rfl) (by kernel_rfl) (by kernel_rfl) (fun f=>⟨Vals.nothing _ f,Facts.nothing _ _ f⟩) ?_ ?_
  · intro i hi
    rcases (by have:i < 12:=hi;omega:i=0∨i=1∨i=2∨i=3∨i=4∨i=5∨i=6∨i=7∨i=8∨i=9∨i=10∨i=11) with rfl | rfl | rfl | rfl | rfl | rfl | rfl | rfl | rfl | rfl | rfl | rfl
    · clear hi;intro o ho lz fz w' A hJ hli ha hA K hK
      obtain ⟨hv,hq⟩:=hJ
      obtain rfl:=Option.some.inj ho
      clear ho
      have hr:=hq
      have g1:=slot_out hA 1 _ (by decide) (by decide) rfl
      simp only [List.getD_cons_succ,List.getD_cons_zero] at g1
      have gg1:=slot_get g1
      rw [if_pos (by rfl)]
      obtain ⟨⟨k0,k1,k2,k3⟩,kr,kS⟩:=HKK.out w' hr.1
      have hF:=hK (.agg #[.slice a1 n1 c1,.slice a2 n2 c2,.slice a3 n3 c3,.slice a4 n4 c4]) w' ⟨hv.step 0 3 _ (by simp),hq.step 0 3 _ (Below.refl _ _) (by simp)⟩
      clear hv hq hr ha hK hA hli
      go_simp
      exact hF
    · clear hi;intro o ho lz fz w' A hJ hli ha hA K hK
      obtain ⟨hv,hq⟩:=hJ
      obtain rfl:=Option.some.inj ho
      clear ho
      have hr:=hq
      have g3:=slot_in hA 3 (by decide) (by decide) (hv (0,3,(.agg #[.slice a1 n1 c1,.slice a2 n2 c2,.slice a3 n3 c3,.slice a4 n4 c4])) (by simp) (ha 0 (by simp [aftersOf,Region.binds])))
      have gg3:=slot_get g3
      rw [if_pos (by rfl)]
      obtain ⟨⟨k0,k1,k2,k3⟩,kr,kS⟩:=HKK.out w' hr.1
      clear hA
      go_simp
      refine (engineValid_impl _ _ _ _ e w' kr).mono ?_
      rintro e9 w9 ⟨rfl,hb9⟩
      rw [HEB.out]
      exact hK (.bool false) w9 ⟨hv.step 1 4 _ (by simp),hq.step 1 4 _ hb9 (by simp)⟩
    · clear hi;intro o ho lz fz w' A hJ hli ha hA K hK
      obtain ⟨hv,hq⟩:=hJ
      obtain rfl:=Option.some.inj ho
      clear ho
      have hr:=hq
      have g4:=slot_in hA 4 (by decide) (by decide) (hv (1,4,(.bool false)) (by simp) (ha 1 (by simp [aftersOf,Region.binds])))
      have gg4:=slot_get g4
      rw [if_pos (by rfl)]
      have hF:=hK (.bool false) w' ⟨hv.step 2 5 _ (by simp),hq.step 2 5 _ (Below.refl _ _) (by simp)⟩
      clear hv hq hr ha hK hA hli
      go_simp
      exact hF
    · clear hi;intro o ho lz fz w' A hJ hli ha hA K hK
      obtain ⟨hv,hq⟩:=hJ
      obtain rfl:=Option.some.inj ho
      clear ho
      have hr:=hq
      have g5:=slot_in hA 5 (by decide) (by decide) (hv (2,5,(.bool false)) (by simp) (ha 2 (by simp [aftersOf,Region.binds])))
      have gg5:=slot_get g5
      have gw:=slot_bool g5
      rw [if_neg (by simp [Region.wanted,yielded,gw])]
      clear gw
      exact hK undef w' ⟨hv.step 3 6 _ (by simp),hq.step 3 6 _ (Below.refl _ _) (by simp)⟩
    · clear hi;intro o ho lz fz w' A hJ hli ha hA K hK
      obtain ⟨hv,hq⟩:=hJ
      obtain rfl:=Option.some.inj ho
      clear ho
      have hr:=hq
      have g5:=slot_in hA 5 (by decide) (by decide) (hv (2,5,(.bool false)) (by simp) (ha 2 (by simp [aftersOf,Region.binds])))
      have gg5:=slot_get g5
      have gw:=slot_bool g5
      rw [if_neg (by simp [Region.wanted,yielded,gw])]
      clear gw
      exact hK undef w' ⟨hv.step 4 7 _ (by simp),hq.step 4 7 _ (Below.refl _ _) (by simp)⟩
    · clear hi;intro o ho lz fz w' A hJ hli ha hA K hK
      obtain ⟨hv,hq⟩:=hJ
      obtain rfl:=Option.some.inj ho
      clear ho
      have hr:=hq
      have g5:=slot_in hA 5 (by decide) (by decide) (hv (2,5,(.bool false)) (by simp) (ha 2 (by simp [aftersOf,Region.binds])))
      have gg5:=slot_get g5
      have gw:=slot_bool g5
      rw [if_neg (by simp [Region.wanted,yielded,gw])]
      clear gw
      exact hK undef w' ⟨hv.step 5 8 _ (by simp),hq.step 5 8 _ (Below.refl _ _) (by simp)⟩
    · clear hi;intro o ho lz fz w' A hJ hli ha hA K hK
      obtain ⟨hv,hq⟩:=hJ
      obtain rfl:=Option.some.inj ho
      clear ho
      have hr:=hq
      have g5:=slot_in hA 5 (by decide) (by decide) (hv (2,5,(.bool false)) (by simp) (ha 2 (by simp [aftersOf,Region.binds])))
      have gg5:=slot_get g5
      have gw:=slot_bool g5
      rw [if_neg (by simp [Region.wanted,yielded,gw])]
      clear gw
      exact hK undef w' ⟨hv.step 6 9 _ (by simp),hq.step 6 9 _ (Below.refl _ _) (by simp)⟩
    · clear hi;intro o ho lz fz w' A hJ hli ha hA K hK
      obtain ⟨hv,hq⟩:=hJ
      obtain rfl:=Option.some.inj ho
      clear ho
      have hr:=hq
      have g5:=slot_in hA 5 (by decide) (by decide) (hv (2,5,(.bool false)) (by simp) (ha 2 (by simp [aftersOf,Region.binds])))
      have gg5:=slot_get g5
      have gw:=slot_bool g5
      rw [if_neg (by simp [Region.wanted,yielded,gw])]
      clear gw
      exact hK undef w' ⟨hv.step 7 10 _ (by simp),hq.step 7 10 _ (Below.refl _ _) (by simp)⟩
    · clear hi;intro o ho lz fz w' A hJ hli ha hA K hK
      obtain ⟨hv,hq⟩:=hJ
      obtain rfl:=Option.some.inj ho
      clear ho
      have hr:=hq
      have g5:=slot_in hA 5 (by decide) (by decide) (hv (2,5,(.bool false)) (by simp) (ha 2 (by simp [aftersOf,Region.binds])))
      have gg5:=slot_get g5
      have gw:=slot_bool g5
      rw [if_neg (by simp [Region.wanted,yielded,gw])]
      clear gw
      exact hK undef w' ⟨hv.step 8 11 _ (by simp),hq.step 8 11 _ (Below.refl _ _) (by simp)⟩
    · clear hi;intro o ho lz fz w' A hJ hli ha hA K hK
      obtain ⟨hv,hq⟩:=hJ
      obtain rfl:=Option.some.inj ho
      clear ho
      have hr:=hq
      have g5:=slot_in hA 5 (by decide) (by decide) (hv (2,5,(.bool false)) (by simp) (ha 2 (by simp [aftersOf,Region.binds])))
      have gg5:=slot_get g5
      have gw:=slot_bool g5
      rw [if_neg (by simp [Region.wanted,yielded,gw])]
      clear gw
      exact hK undef w' ⟨hv.step 9 12 _ (by simp),hq.step 9 12 _ (Below.refl _ _) (by simp)⟩
    · clear hi;intro o ho lz fz w' A hJ hli ha hA K hK
      obtain ⟨hv,hq⟩:=hJ
      obtain rfl:=Option.some.inj ho
      clear ho
      have hr:=hq
      have g5:=slot_in hA 5 (by decide) (by decide) (hv (2,5,(.bool false)) (by simp) (ha 2 (by simp [aftersOf,Region.binds])))
      have gg5:=slot_get g5
      rw [if_pos (by rfl)]
      have hF:=hK (.bool false) w' ⟨hv.step 10 13 _ (by simp),hq.step 10 13 _ (Below.refl _ _) (by simp)⟩
      clear hv hq hr ha hK hA hli
      go_simp
      exact hF
    · clear hi;intro o ho lz fz w' A hJ hli ha hA K hK
      obtain ⟨hv,hq⟩:=hJ
      obtain rfl:=Option.some.inj ho
      clear ho
      have hr:=hq
      have g13:=slot_in hA 13 (by decide) (by decide) (hv (10,13,(.bool false)) (by simp) (ha 10 (by simp [aftersOf,Region.binds])))
      have gg13:=slot_get g13
      rw [if_pos (by rfl)]
      have hF:=hK (.bool false) w' ⟨hv.step 11 2 _ (by simp),hq.step 11 2 _ (Below.refl _ _) (by simp)⟩
      clear hv hq hr ha hK hA hli
      go_simp
      exact hF
  · intro lz fz w7 hall hJ
    obtain ⟨hv,hq⟩:=hJ
    have h2:fz 2=(.bool false):=hv (11,2,(.bool false)) (by simp) (hall 11 (by decide))
    have hbR:=hq.1
    clear hv hq hall
    simp only [mixF,List.contains_cons,List.contains_nil]
    go_simp
    go_wp2
    go_ret
    exact ⟨by rw [HF.out];rfl,HB0.out.trans (hbR.mono HB0.out.size)⟩
 | true =>
  have HEB:=Lib.hid hb
  have HF0:=Lib.hid (HALL.out hb)
  clear hb HALL HNO
  obtain ⟨c,hc⟩:∃ c,c=cntC e n4:=⟨_,rfl⟩
  have HCC:=Lib.hid hc.symm
  rw [← hc] at HF0
  clear hc
  cases hd:((c:Int) == (n2:Int)) with
  | false =>
   have HF:=Lib.hid (HF0.out.trans (by simp at hd ⊢;omega:(c == n2)=false))
   refine wp_region_light (by kernel_rfl) (fun lz fz wz=>Vals [(0,3,(.agg #[.slice a1 n1 c1,.slice a2 n2 c2,.slice a3 n3 c3,.slice a4 n4 c4])),(1,4,(.bool true)),(2,5,(.bool true)),(3,6,(.pointer (some ⟨w.heap.size,3,none⟩))),(4,7,(.slice a4 n4 c4)),(5,8,(.int .i64 (c:Int))),(6,9,(.pointer (some ⟨w.heap.size,1,none⟩))),(7,10,(.slice a2 n2 c2)),(8,11,(.int .i64 (n2:Int))),(9,12,(.bool false)),(10,13,(.bool false)),(11,2,(.bool false))] lz fz∧Facts W1 [] lz fz wz) 14 rfl [3,4,5,6,7,8,9,10,11,12,13,2] (by kernel_rfl) (by kernel_rfl) (by kernel_rfl) (fun f=>⟨Vals.nothing _ f,Facts.nothing _ _ f⟩) ?_ ?_
   · intro i hi
     rcases (by have:i < 12:=hi;omega:i=0∨i=1∨i=2∨i=3∨i=4∨i=5∨i=6∨i=7∨i=8∨i=9∨i=10∨i=11) with rfl | rfl | rfl | rfl | rfl | rfl | rfl | rfl | rfl | rfl | rfl | rfl
     · clear hi;intro o ho lz fz w' A hJ hli ha hA K hK
       obtain ⟨hv,hq⟩:=hJ
       obtain rfl:=Option.some.inj ho
       clear ho
       have hr:=hq
       have g1:=slot_out hA 1 _ (by decide) (by decide) rfl
       simp only [List.getD_cons_succ,List.getD_cons_zero] at g1
       have gg1:=slot_get g1
       rw [if_pos (by rfl)]
       obtain ⟨⟨k0,k1,k2,k3⟩,kr,kS⟩:=HKK.out w' hr.1
       have hF:=hK (.agg #[.slice a1 n1 c1,.slice a2 n2 c2,.slice a3 n3 c3,.slice a4 n4 c4]) w' ⟨hv.step 0 3 _ (by simp),hq.step 0 3 _ (Below.refl _ _) (by simp)⟩
       clear hv hq hr ha hK hA hli
       go_simp
       exact hF
     · clear hi;intro o ho lz fz w' A hJ hli ha hA K hK
       obtain ⟨hv,hq⟩:=hJ
       obtain rfl:=Option.some.inj ho
       clear ho
       have hr:=hq
       have g3:=slot_in hA 3 (by decide) (by decide) (hv (0,3,(.agg #[.slice a1 n1 c1,.slice a2 n2 c2,.slice a3 n3 c3,.slice a4 n4 c4])) (by simp) (ha 0 (by simp [aftersOf,Region.binds])))
       have gg3:=slot_get g3
       rw [if_pos (by rfl)]
       obtain ⟨⟨k0,k1,k2,k3⟩,kr,kS⟩:=HKK.out w' hr.1
       clear hA
       go_simp
       refine (engineValid_impl _ _ _ _ e w' kr).mono ?_
       rintro e9 w9 ⟨rfl,hb9⟩
       rw [HEB.out]
       exact hK (.bool true) w9 ⟨hv.step 1 4 _ (by simp),hq.step 1 4 _ hb9 (by simp)⟩
     · clear hi;intro o ho lz fz w' A hJ hli ha hA K hK
       obtain ⟨hv,hq⟩:=hJ
       obtain rfl:=Option.some.inj ho
       clear ho
       have hr:=hq
       have g4:=slot_in hA 4 (by decide) (by decide) (hv (1,4,(.bool true)) (by simp) (ha 1 (by simp [aftersOf,Region.binds])))
       have gg4:=slot_get g4
       rw [if_pos (by rfl)]
       have hF:=hK (.bool true) w' ⟨hv.step 2 5 _ (by simp),hq.step 2 5 _ (Below.refl _ _) (by simp)⟩
       clear hv hq hr ha hK hA hli
       go_simp
       exact hF
     · clear hi;intro o ho lz fz w' A hJ hli ha hA K hK
       obtain ⟨hv,hq⟩:=hJ
       obtain rfl:=Option.some.inj ho
       clear ho
       have hr:=hq
       have g1:=slot_out hA 1 _ (by decide) (by decide) rfl
       simp only [List.getD_cons_succ,List.getD_cons_zero] at g1
       have g5:=slot_in hA 5 (by decide) (by decide) (hv (2,5,(.bool true)) (by simp) (ha 2 (by simp [aftersOf,Region.binds])))
       have gg1:=slot_get g1
       have gg5:=slot_get g5
       have gw:=slot_bool g5
       rw [if_pos (by simp [Region.wanted,yielded,gw])]
       clear gw
       have hF:=hK (.pointer (some ⟨w.heap.size,3,none⟩)) w' ⟨hv.step 3 6 _ (by simp),hq.step 3 6 _ (Below.refl _ _) (by simp)⟩
       clear hv hq hr ha hK hA hli
       go_simp
       exact hF
     · clear hi;intro o ho lz fz w' A hJ hli ha hA K hK
       obtain ⟨hv,hq⟩:=hJ
       obtain rfl:=Option.some.inj ho
       clear ho
       have hr:=hq
       have g6:=slot_in hA 6 (by decide) (by decide) (hv (3,6,(.pointer (some ⟨w.heap.size,3,none⟩))) (by simp) (ha 3 (by simp [aftersOf,Region.binds])))
       have g5:=slot_in hA 5 (by decide) (by decide) (hv (2,5,(.bool true)) (by simp) (ha 2 (by simp [aftersOf,Region.binds])))
       have gg6:=slot_get g6
       have gg5:=slot_get g5
       have gw:=slot_bool g5
       rw [if_pos (by simp [Region.wanted,yielded,gw])]
       clear gw
       obtain ⟨⟨k0,k1,k2,k3⟩,kr,kS⟩:=HKK.out w' hr.1
       have hF:=hK (.slice a4 n4 c4) w' ⟨hv.step 4 7 _ (by simp),hq.step 4 7 _ (Below.refl _ _) (by simp)⟩
       clear hv hq hr ha hK hA hli
       go_simp
       exact hF
     · clear hi;intro o ho lz fz w' A hJ hli ha hA K hK
       obtain ⟨hv,hq⟩:=hJ
       obtain rfl:=Option.some.inj ho
       clear ho
       have hr:=hq
       have g7:=slot_in hA 7 (by decide) (by decide) (hv (4,7,(.slice a4 n4 c4)) (by simp) (ha 4 (by simp [aftersOf,Region.binds])))
       have g5:=slot_in hA 5 (by decide) (by decide) (hv (2,5,(.bool true)) (by simp) (ha 2 (by simp [aftersOf,Region.binds])))
       have gg7:=slot_get g7
       have gg5:=slot_get g5
       have gw:=slot_bool g5
       rw [if_pos (by simp [Region.wanted,yielded,gw])]
       clear gw
       obtain ⟨⟨k0,k1,k2,k3⟩,kr,kS⟩:=HKK.out w' hr.1
       clear hA
       go_simp
       refine (checkedCount_impl a4 n4 c4 e w' kS).mono ?_
       rintro e9 w9 ⟨rfl,hb9⟩
       rw [HCC.out]
       exact hK (.int .i64 (c:Int)) w9 ⟨hv.step 5 8 _ (by simp),hq.step 5 8 _ hb9 (by simp)⟩
     · clear hi;intro o ho lz fz w' A hJ hli ha hA K hK
       obtain ⟨hv,hq⟩:=hJ
       obtain rfl:=Option.some.inj ho
       clear ho
       have hr:=hq
       have g1:=slot_out hA 1 _ (by decide) (by decide) rfl
       simp only [List.getD_cons_succ,List.getD_cons_zero] at g1
       have g5:=slot_in hA 5 (by decide) (by decide) (hv (2,5,(.bool true)) (by simp) (ha 2 (by simp [aftersOf,Region.binds])))
       have gg1:=slot_get g1
       have gg5:=slot_get g5
       have gw:=slot_bool g5
       rw [if_pos (by simp [Region.wanted,yielded,gw])]
       clear gw
       have hF:=hK (.pointer (some ⟨w.heap.size,1,none⟩)) w' ⟨hv.step 6 9 _ (by simp),hq.step 6 9 _ (Below.refl _ _) (by simp)⟩
       clear hv hq hr ha hK hA hli
       go_simp
       exact hF
     · clear hi;intro o ho lz fz w' A hJ hli ha hA K hK
       obtain ⟨hv,hq⟩:=hJ
       obtain rfl:=Option.some.inj ho
       clear ho
       have hr:=hq
       have g9:=slot_in hA 9 (by decide) (by decide) (hv (6,9,(.pointer (some ⟨w.heap.size,1,none⟩))) (by simp) (ha 6 (by simp [aftersOf,Region.binds])))
       have g5:=slot_in hA 5 (by decide) (by decide) (hv (2,5,(.bool true)) (by simp) (ha 2 (by simp [aftersOf,Region.binds])))
       have gg9:=slot_get g9
       have gg5:=slot_get g5
       have gw:=slot_bool g5
       rw [if_pos (by simp [Region.wanted,yielded,gw])]
       clear gw
       obtain ⟨⟨k0,k1,k2,k3⟩,kr,kS⟩:=HKK.out w' hr.1
       have hF:=hK (.slice a2 n2 c2) w' ⟨hv.step 7 10 _ (by simp),hq.step 7 10 _ (Below.refl _ _) (by simp)⟩
       clear hv hq hr ha hK hA hli
       go_simp
       exact hF
     · clear hi;intro o ho lz fz w' A hJ hli ha hA K hK
       obtain ⟨hv,hq⟩:=hJ
       obtain rfl:=Option.some.inj ho
       clear ho
       have hr:=hq
       have g10:=slot_in hA 10 (by decide) (by decide) (hv (7,10,(.slice a2 n2 c2)) (by simp) (ha 7 (by simp [aftersOf,Region.binds])))
       have g5:=slot_in hA 5 (by decide) (by decide) (hv (2,5,(.bool true)) (by simp) (ha 2 (by simp [aftersOf,Region.binds])))
       have gg10:=slot_get g10
       have gg5:=slot_get g5
       have gw:=slot_bool g5
       rw [if_pos (by simp [Region.wanted,yielded,gw])]
       clear gw
       have hF:=hK (.int .i64 (n2:Int)) w' ⟨hv.step 8 11 _ (by simp),hq.step 8 11 _ (Below.refl _ _) (by simp)⟩
       clear hv hq hr ha hK hA hli
       go_simp
       exact hF
     · clear hi;intro o ho lz fz w' A hJ hli ha hA K hK
       obtain ⟨hv,hq⟩:=hJ
       obtain rfl:=Option.some.inj ho
       clear ho
       have hr:=hq
       have g8:=slot_in hA 8 (by decide) (by decide) (hv (5,8,(.int .i64 (c:Int))) (by simp) (ha 5 (by simp [aftersOf,Region.binds])))
       have g11:=slot_in hA 11 (by decide) (by decide) (hv (8,11,(.int .i64 (n2:Int))) (by simp) (ha 8 (by simp [aftersOf,Region.binds])))
       have g5:=slot_in hA 5 (by decide) (by decide) (hv (2,5,(.bool true)) (by simp) (ha 2 (by simp [aftersOf,Region.binds])))
       have gg8:=slot_get g8
       have gg11:=slot_get g11
       have gg5:=slot_get g5
       have gw:=slot_bool g5
       rw [if_pos (by simp [Region.wanted,yielded,gw])]
       clear gw
       have hF:=hK (.bool false) w' ⟨hv.step 9 12 _ (by simp),hq.step 9 12 _ (Below.refl _ _) (by simp)⟩
       clear hv hq hr ha hK hA hli
       go_simp
       exact hF
     · clear hi;intro o ho lz fz w' A hJ hli ha hA K hK
       obtain ⟨hv,hq⟩:=hJ
       obtain rfl:=Option.some.inj ho
       clear ho
       have hr:=hq
       have g5:=slot_in hA 5 (by decide) (by decide) (hv (2,5,(.bool true)) (by simp) (ha 2 (by simp [aftersOf,Region.binds])))
       have g12:=slot_in hA 12 (by decide) (by decide) (hv (9,12,(.bool false)) (by simp) (ha 9 (by simp [aftersOf,Region.binds])))
       have gg5:=slot_get g5
       have gg12:=slot_get g12
       rw [if_pos (by rfl)]
       have hF:=hK (.bool false) w' ⟨hv.step 10 13 _ (by simp),hq.step 10 13 _ (Below.refl _ _) (by simp)⟩
       clear hv hq hr ha hK hA hli
       go_simp
       exact hF
     · clear hi;intro o ho lz fz w' A hJ hli ha hA K hK
       obtain ⟨hv,hq⟩:=hJ
       obtain rfl:=Option.some.inj ho
       clear ho
       have hr:=hq
       have g13:=slot_in hA 13 (by decide) (by decide) (hv (10,13,(.bool false)) (by simp) (ha 10 (by simp [aftersOf,Region.binds])))
       have gg13:=slot_get g13
       rw [if_pos (by rfl)]
       have hF:=hK (.bool false) w' ⟨hv.step 11 2 _ (by simp),hq.step 11 2 _ (Below.refl _ _) (by simp)⟩
       clear hv hq hr ha hK hA hli
       go_simp
       exact hF
   · intro lz fz w7 hall hJ
     obtain ⟨hv,hq⟩:=hJ
     have h2:fz 2=(.bool false):=hv (11,2,(.bool false)) (by simp) (hall 11 (by decide))
     have hbR:=hq.1
     clear hv hq hall
     simp only [mixF,List.contains_cons,List.contains_nil]
     go_simp
     go_wp2
     go_ret
     exact ⟨by rw [HF.out];rfl,HB0.out.trans (hbR.mono HB0.out.size)⟩
  | true =>
   have HF:=Lib.hid (HF0.out.trans (by simp at hd ⊢;omega:(c == n2)=true))
   refine wp_region_light (by kernel_rfl) (fun lz fz wz=>Vals [(0,3,(.agg #[.slice a1 n1 c1,.slice a2 n2 c2,.slice a3 n3 c3,.slice a4 n4 c4])),(1,4,(.bool true)),(2,5,(.bool true)),(3,6,(.pointer (some ⟨w.heap.size,3,none⟩))),(4,7,(.slice a4 n4 c4)),(5,8,(.int .i64 (c:Int))),(6,9,(.pointer (some ⟨w.heap.size,1,none⟩))),(7,10,(.slice a2 n2 c2)),(8,11,(.int .i64 (n2:Int))),(9,12,(.bool true)),(10,13,(.bool true)),(11,2,(.bool true))] lz fz∧Facts W1 [] lz fz wz) 14 rfl [3,4,5,6,7,8,9,10,11,12,13,2] (by kernel_rfl) (by kernel_rfl) (by kernel_rfl) (fun f=>⟨Vals.nothing _ f,Facts.nothing _ _ f⟩) ?_ ?_
   · intro i hi
     rcases (by have:i < 12:=hi;omega:i=0∨i=1∨i=2∨i=3∨i=4∨i=5∨i=6∨i=7∨i=8∨i=9∨i=10∨i=11) with rfl | rfl | rfl | rfl | rfl | rfl | rfl | rfl | rfl | rfl | rfl | rfl
     · clear hi;intro o ho lz fz w' A hJ hli ha hA K hK
       obtain ⟨hv,hq⟩:=hJ
       obtain rfl:=Option.some.inj ho
       clear ho
       have hr:=hq
       have g1:=slot_out hA 1 _ (by decide) (by decide) rfl
       simp only [List.getD_cons_succ,List.getD_cons_zero] at g1
       have gg1:=slot_get g1
       rw [if_pos (by rfl)]
       obtain ⟨⟨k0,k1,k2,k3⟩,kr,kS⟩:=HKK.out w' hr.1
       have hF:=hK (.agg #[.slice a1 n1 c1,.slice a2 n2 c2,.slice a3 n3 c3,.slice a4 n4 c4]) w' ⟨hv.step 0 3 _ (by simp),hq.step 0 3 _ (Below.refl _ _) (by simp)⟩
       clear hv hq hr ha hK hA hli
       go_simp
       exact hF
     · clear hi;intro o ho lz fz w' A hJ hli ha hA K hK
       obtain ⟨hv,hq⟩:=hJ
       obtain rfl:=Option.some.inj ho
       clear ho
       have hr:=hq
       have g3:=slot_in hA 3 (by decide) (by decide) (hv (0,3,(.agg #[.slice a1 n1 c1,.slice a2 n2 c2,.slice a3 n3 c3,.slice a4 n4 c4])) (by simp) (ha 0 (by simp [aftersOf,Region.binds])))
       have gg3:=slot_get g3
       rw [if_pos (by rfl)]
       obtain ⟨⟨k0,k1,k2,k3⟩,kr,kS⟩:=HKK.out w' hr.1
       clear hA
       go_simp
       refine (engineValid_impl _ _ _ _ e w' kr).mono ?_
       rintro e9 w9 ⟨rfl,hb9⟩
       rw [HEB.out]
       exact hK (.bool true) w9 ⟨hv.step 1 4 _ (by simp),hq.step 1 4 _ hb9 (by simp)⟩
     · clear hi;intro o ho lz fz w' A hJ hli ha hA K hK
       obtain ⟨hv,hq⟩:=hJ
       obtain rfl:=Option.some.inj ho
       clear ho
       have hr:=hq
       have g4:=slot_in hA 4 (by decide) (by decide) (hv (1,4,(.bool true)) (by simp) (ha 1 (by simp [aftersOf,Region.binds])))
       have gg4:=slot_get g4
       rw [if_pos (by rfl)]
       have hF:=hK (.bool true) w' ⟨hv.step 2 5 _ (by simp),hq.step 2 5 _ (Below.refl _ _) (by simp)⟩
       clear hv hq hr ha hK hA hli
       go_simp
       exact hF
     · clear hi;intro o ho lz fz w' A hJ hli ha hA K hK
       obtain ⟨hv,hq⟩:=hJ
       obtain rfl:=Option.some.inj ho
       clear ho
       have hr:=hq
       have g1:=slot_out hA 1 _ (by decide) (by decide) rfl
       simp only [List.getD_cons_succ,List.getD_cons_zero] at g1
       have g5:=slot_in hA 5 (by decide) (by decide) (hv (2,5,(.bool true)) (by simp) (ha 2 (by simp [aftersOf,Region.binds])))
       have gg1:=slot_get g1
       have gg5:=slot_get g5
       have gw:=slot_bool g5
       rw [if_pos (by simp [Region.wanted,yielded,gw])]
       clear gw
       have hF:=hK (.pointer (some ⟨w.heap.size,3,none⟩)) w' ⟨hv.step 3 6 _ (by simp),hq.step 3 6 _ (Below.refl _ _) (by simp)⟩
       clear hv hq hr ha hK hA hli
       go_simp
       exact hF
     · clear hi;intro o ho lz fz w' A hJ hli ha hA K hK
       obtain ⟨hv,hq⟩:=hJ
       obtain rfl:=Option.some.inj ho
       clear ho
       have hr:=hq
       have g6:=slot_in hA 6 (by decide) (by decide) (hv (3,6,(.pointer (some ⟨w.heap.size,3,none⟩))) (by simp) (ha 3 (by simp [aftersOf,Region.binds])))
       have g5:=slot_in hA 5 (by decide) (by decide) (hv (2,5,(.bool true)) (by simp) (ha 2 (by simp [aftersOf,Region.binds])))
       have gg6:=slot_get g6
       have gg5:=slot_get g5
       have gw:=slot_bool g5
       rw [if_pos (by simp [Region.wanted,yielded,gw])]
       clear gw
       obtain ⟨⟨k0,k1,k2,k3⟩,kr,kS⟩:=HKK.out w' hr.1
       have hF:=hK (.slice a4 n4 c4) w' ⟨hv.step 4 7 _ (by simp),hq.step 4 7 _ (Below.refl _ _) (by simp)⟩
       clear hv hq hr ha hK hA hli
       go_simp
       exact hF
     · clear hi;intro o ho lz fz w' A hJ hli ha hA K hK
       obtain ⟨hv,hq⟩:=hJ
       obtain rfl:=Option.some.inj ho
       clear ho
       have hr:=hq
       have g7:=slot_in hA 7 (by decide) (by decide) (hv (4,7,(.slice a4 n4 c4)) (by simp) (ha 4 (by simp [aftersOf,Region.binds])))
       have g5:=slot_in hA 5 (by decide) (by decide) (hv (2,5,(.bool true)) (by simp) (ha 2 (by simp [aftersOf,Region.binds])))
       have gg7:=slot_get g7
       have gg5:=slot_get g5
       have gw:=slot_bool g5
       rw [if_pos (by simp [Region.wanted,yielded,gw])]
       clear gw
       obtain ⟨⟨k0,k1,k2,k3⟩,kr,kS⟩:=HKK.out w' hr.1
       clear hA
       go_simp
       refine (checkedCount_impl a4 n4 c4 e w' kS).mono ?_
       rintro e9 w9 ⟨rfl,hb9⟩
       rw [HCC.out]
       exact hK (.int .i64 (c:Int)) w9 ⟨hv.step 5 8 _ (by simp),hq.step 5 8 _ hb9 (by simp)⟩
     · clear hi;intro o ho lz fz w' A hJ hli ha hA K hK
       obtain ⟨hv,hq⟩:=hJ
       obtain rfl:=Option.some.inj ho
       clear ho
       have hr:=hq
       have g1:=slot_out hA 1 _ (by decide) (by decide) rfl
       simp only [List.getD_cons_succ,List.getD_cons_zero] at g1
       have g5:=slot_in hA 5 (by decide) (by decide) (hv (2,5,(.bool true)) (by simp) (ha 2 (by simp [aftersOf,Region.binds])))
       have gg1:=slot_get g1
       have gg5:=slot_get g5
       have gw:=slot_bool g5
       rw [if_pos (by simp [Region.wanted,yielded,gw])]
       clear gw
       have hF:=hK (.pointer (some ⟨w.heap.size,1,none⟩)) w' ⟨hv.step 6 9 _ (by simp),hq.step 6 9 _ (Below.refl _ _) (by simp)⟩
       clear hv hq hr ha hK hA hli
       go_simp
       exact hF
     · clear hi;intro o ho lz fz w' A hJ hli ha hA K hK
       obtain ⟨hv,hq⟩:=hJ
       obtain rfl:=Option.some.inj ho
       clear ho
       have hr:=hq
       have g9:=slot_in hA 9 (by decide) (by decide) (hv (6,9,(.pointer (some ⟨w.heap.size,1,none⟩))) (by simp) (ha 6 (by simp [aftersOf,Region.binds])))
       have g5:=slot_in hA 5 (by decide) (by decide) (hv (2,5,(.bool true)) (by simp) (ha 2 (by simp [aftersOf,Region.binds])))
       have gg9:=slot_get g9
       have gg5:=slot_get g5
       have gw:=slot_bool g5
       rw [if_pos (by simp [Region.wanted,yielded,gw])]
       clear gw
       obtain ⟨⟨k0,k1,k2,k3⟩,kr,kS⟩:=HKK.out w' hr.1
       have hF:=hK (.slice a2 n2 c2) w' ⟨hv.step 7 10 _ (by simp),hq.step 7 10 _ (Below.refl _ _) (by simp)⟩
       clear hv hq hr ha hK hA hli
       go_simp
       exact hF
     · clear hi;intro o ho lz fz w' A hJ hli ha hA K hK
       obtain ⟨hv,hq⟩:=hJ
       obtain rfl:=Option.some.inj ho
       clear ho
       have hr:=hq
       have g10:=slot_in hA 10 (by decide) (by decide) (hv (7,10,(.slice a2 n2 c2)) (by simp) (ha 7 (by simp [aftersOf,Region.binds])))
       have g5:=slot_in hA 5 (by decide) (by decide) (hv (2,5,(.bool true)) (by simp) (ha 2 (by simp [aftersOf,Region.binds])))
       have gg10:=slot_get g10
       have gg5:=slot_get g5
       have gw:=slot_bool g5
       rw [if_pos (by simp [Region.wanted,yielded,gw])]
       clear gw
       have hF:=hK (.int .i64 (n2:Int)) w' ⟨hv.step 8 11 _ (by simp),hq.step 8 11 _ (Below.refl _ _) (by simp)⟩
       clear hv hq hr ha hK hA hli
       go_simp
       exact hF
     · clear hi;intro o ho lz fz w' A hJ hli ha hA K hK
       obtain ⟨hv,hq⟩:=hJ
       obtain rfl:=Option.some.inj ho
       clear ho
       have hr:=hq
       have g8:=slot_in hA 8 (by decide) (by decide) (hv (5,8,(.int .i64 (c:Int))) (by simp) (ha 5 (by simp [aftersOf,Region.binds])))
       have g11:=slot_in hA 11 (by decide) (by decide) (hv (8,11,(.int .i64 (n2:Int))) (by simp) (ha 8 (by simp [aftersOf,Region.binds])))
       have g5:=slot_in hA 5 (by decide) (by decide) (hv (2,5,(.bool true)) (by simp) (ha 2 (by simp [aftersOf,Region.binds])))
       have gg8:=slot_get g8
       have gg11:=slot_get g11
       have gg5:=slot_get g5
       have gw:=slot_bool g5
       rw [if_pos (by simp [Region.wanted,yielded,gw])]
       clear gw
       have hF:=hK (.bool true) w' ⟨hv.step 9 12 _ (by simp),hq.step 9 12 _ (Below.refl _ _) (by simp)⟩
       clear hv hq hr ha hK hA hli
       go_simp
       exact hF
     · clear hi;intro o ho lz fz w' A hJ hli ha hA K hK
       obtain ⟨hv,hq⟩:=hJ
       obtain rfl:=Option.some.inj ho
       clear ho
       have hr:=hq
       have g5:=slot_in hA 5 (by decide) (by decide) (hv (2,5,(.bool true)) (by simp) (ha 2 (by simp [aftersOf,Region.binds])))
       have g12:=slot_in hA 12 (by decide) (by decide) (hv (9,12,(.bool true)) (by simp) (ha 9 (by simp [aftersOf,Region.binds])))
       have gg5:=slot_get g5
       have gg12:=slot_get g12
       rw [if_pos (by rfl)]
       have hF:=hK (.bool true) w' ⟨hv.step 10 13 _ (by simp),hq.step 10 13 _ (Below.refl _ _) (by simp)⟩
       clear hv hq hr ha hK hA hli
       go_simp
       exact hF
     · clear hi;intro o ho lz fz w' A hJ hli ha hA K hK
       obtain ⟨hv,hq⟩:=hJ
       obtain rfl:=Option.some.inj ho
       clear ho
       have hr:=hq
       have g13:=slot_in hA 13 (by decide) (by decide) (hv (10,13,(.bool true)) (by simp) (ha 10 (by simp [aftersOf,Region.binds])))
       have gg13:=slot_get g13
       rw [if_pos (by rfl)]
       have hF:=hK (.bool true) w' ⟨hv.step 11 2 _ (by simp),hq.step 11 2 _ (Below.refl _ _) (by simp)⟩
       clear hv hq hr ha hK hA hli
       go_simp
       exact hF
   · intro lz fz w7 hall hJ
     obtain ⟨hv,hq⟩:=hJ
     have h2:fz 2=(.bool true):=hv (11,2,(.bool true)) (by simp) (hall 11 (by decide))
     have hbR:=hq.1
     clear hv hq hall
     simp only [mixF,List.contains_cons,List.contains_nil]
     go_simp
     go_wp2
     go_ret
     exact ⟨by rw [HF.out];rfl,HB0.out.trans (hbR.mono HB0.out.size)⟩
end Go.Proofs.YtaaffpolmecicabGreat
