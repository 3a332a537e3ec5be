/- Texts of ours that stand together: SpecEff3, SpecSer -/
import Derived.Test.YtpnjgmgmakmgeaaGreatEffA
import Derived.Test.YtpnjgmgmakmgeaaGreatSpecF
import Derived.Test.YtpnjgmgmakmgeaaGreatSpecS
import Derived.Deep.RegionHeld3
import Derived.Test.YtpnjgmgmakmgeaaGreatSpecX
import Derived.Test.YtpnjgmgmakmgeaaGreatSpecAct
import Derived.Test.YtpnjgmgmakmgeaaGreatEff
/- The contract of the model's ApplyEffect. -/
namespace Go.Proofs.YtpnjgmgmakmgeaaGreat
open Go.RowKit
set_option linter.unusedVariables false
theorem wf_of_okA {l:List Ent} (h:OkE l):WfE l:=fun e he=>by have:=h e he;exact ⟨WalkArith.wf_i64 (by omega),WalkArith.wf_i64 (by omega)⟩
theorem infoEntA:(Tryz.prog.info? 142).map (fun i=>(i.zero,i.size,i.bytes))=some (some (.agg #[.int .i64 0,.int .i64 0]),2,16):=by kernel_rfl
theorem below_cg {B G o:Nat} {w w':World} {v:Value} (hb:Below B w w') (hG:G < B) (hc:w.cell? ⟨G,o,none⟩=some v):w'.cell? ⟨G,o,none⟩=some v:=(hb.cell (p:=⟨G,o,none⟩) hG).trans hc
theorem rowE_apart {w w':World} {a:Option Addr} {n:Nat} {row:Option Nat} {l:List Ent} (h:RowE w a n l) (hg:w.grownBy w' row) (hne:0 < n→∀ b o,a=some ⟨b,o,none⟩→some b≠row):RowE w' a n l:=by
 obtain ⟨h1,h2,h3,h4⟩:=h
 refine ⟨h1,h2,fun hl=>?_,h4⟩
 obtain ⟨b,off,he,hc⟩:=h3 hl
 exact ⟨b,off,he,fun i hi=>⟨hg.cell (hc i hi).1 (hne hl b off he),hg.cell (hc i hi).2 (hne hl b off he)⟩⟩
theorem rowE_lt {w:World} {a:Option Addr} {n:Nat} {l:List Ent} (h:RowE w a n l) (h0:0 < n) (b o:Nat) (he:a=some ⟨b,o,none⟩):b < w.heap.size:=by
 obtain ⟨b',o',he',hc⟩:=h.2.2.1 h0
 rw [he] at he';simp only [Option.some.injEq,Addr.mk.injEq] at he'
 rw [he'.1];exact World.block_lt_of_cell? w ⟨b',o'+0*2,none⟩ (hc 0 h0).1
set_option maxRecDepth 100000 in
set_option maxHeartbeats 4000000 in
theorem applyEffect_spec (a:Option Addr) (n cap:Nat) (S:List Ent) (b:Bool) (ra:Option Addr) (rn rc:Nat) (wa:Option Addr) (wn wc:Nat) (W:List Ent) (w:World) (h:RowE w a n S) (h2:RowE w wa wn W) (hz:a=none→cap=0) :
  Calls Tryz.prog 174 #[.slice a n cap,.agg #[.bool b,.slice ra rn rc,.slice wa wn wc]] w (NewE w 142 (applyM S W)):=by
 have c2:(w.alloc (.cells #[.bool b,.slice ra rn rc,.slice wa wn wc] 178)).cell? ⟨w.heap.size,2,none⟩=some (.slice wa wn wc):=by simp [go_sem]
 have hb0:=(Below.refl w.heap.size w).alloc (Nat.le_refl _) (.cells #[.bool b,.slice ra rn rc,.slice wa wn wc] 178)
 have hsz:w.heap.size < (w.alloc (.cells #[.bool b,.slice ra rn rc,.slice wa wn wc] 178)).heap.size:=by simp
 go_enter Tryz.func174,Tryz.ntmps174
 go_wp2_with fail
 have hr0:=h.below hb0
 have hq0:=h2.below hb0
 obtain ⟨w0,hw0⟩:∃ w0,w0=w.alloc (.cells #[.bool b,.slice ra rn rc,.slice wa wn wc] 178):=⟨_,rfl⟩
 rw [← hw0] at c2 hb0 hr0 hq0 hsz ⊢
 clear hw0 h h2
 refine (storeValid_spec a n cap S _ hr0).mono ?_;rintro e w1 ⟨rfl,hd1⟩
 have hb1:=hd1.below w0.heap.size
 have hq1:=hq0.below hb1
 have hr1:=hr0.below hb1
 have d2:=below_cg hb1 hsz c2
 have hb01:=hb0.trans (hb1.mono hb0.size)
 have hs1:w.heap.size < w1.heap.size:=Nat.lt_of_lt_of_le hsz hb1.size
 clear hb1 hb0 hr0 hq0 hsz c2 hd1
 cases hS:storeB S with
 | false =>
  have HM:Hid (applyM S W=[]):=Lib.hid (applyM_no (by rw [hS];rfl))
  have ho:=own_lit (w:=w1) (B:=w.heap.size) 142 2 #[] 0 (by omega) (by unfold maxLen;omega) rfl
  have HB:=Lib.hid (hb01.alloc (Nat.le_of_lt hs1) (.cells #[] 142))
  clear hS hb01 hq1 hr1
  go_wp2
  go_ret
  exact ⟨_,rfl,by rw [HM.out];exact ho,by rw [HM.out];exact fun e he=>(by cases he),HB.out⟩
 | true =>
  have HSV:=Lib.hid hS
  clear hS
  go_wp2_with fail
  refine (l4Writes_spec wa wn wc W _ hq1).mono ?_;rintro e w2 ⟨rfl,hd2⟩
  have hb2:=hd2.below w1.heap.size
  have e2:=below_cg hb2 hs1 d2
  have hq2:=hq1.below hb2
  have hr2:=hr1.below hb2
  have hb02:=hb01.trans (hb2.mono hb01.size)
  have hs2:w.heap.size < w2.heap.size:=Nat.lt_of_lt_of_le hs1 hb2.size
  clear hb01 hb2 hq1 hr1 d2 hd2 hs1
  cases hW:writesB W with
  | false =>
   have HM:Hid (applyM S W=[]):=Lib.hid (applyM_no (by rw [hW,HSV.out];rfl))
   have ho:=own_lit (w:=w2) (B:=w.heap.size) 142 2 #[] 0 (by omega) (by unfold maxLen;omega) rfl
   have HB:=Lib.hid (hb02.alloc (Nat.le_of_lt hs2) (.cells #[] 142))
   clear hW hb02 hq2 hr2
   go_wp2
   go_ret
   exact ⟨_,rfl,by rw [HM.out];exact ho,by rw [HM.out];exact fun e he=>(by cases he),HB.out⟩
  | true =>
   have HWV:=Lib.hid hW
   clear hW
   have ho:=own_lit (w:=w2) (B:=w.heap.size) 142 2 #[] 0 (by omega) (by unfold maxLen;omega) rfl
   have hb3:=(Below.refl w2.heap.size w2).alloc (Nat.le_refl _) (.cells #[] 142)
   have hr3:=hr2.below hb3
   have hSl:=hr2.1
   have hS32:=store_len HSV.out
   have hnil:a=none→n=0∧cap=0:=fun e=>⟨by
    rcases Nat.eq_zero_or_pos n with h | h
    · exact h
    · obtain ⟨b',o',he,-⟩:=hr2.2.2.1 h;(rw [e] at he;cases he),hz e⟩
   have hb03:=hb02.trans (hb3.mono (Nat.le_of_lt hs2))
   have HR3:=Lib.hid hr3
   have HNL:=Lib.hid hnil
   have HLN:=Lib.hid (show (flatE S).length=n*2 by rw [flatE_len,hSl])
   have e3:=below_cg hb3 hs2 e2
   have hq3:=hq2.below hb3
   have hs3:w.heap.size < (w2.alloc (.cells #[] 142)).heap.size:=by simp;omega
   have HQ2:=Lib.hid (rowE_lt hq2)
   clear hz hnil hr3 hr2 hq2
   go_wp2_with (first | (at_builtin;refine wpList_append_rows rfl _ _ 23 rfl w.heap.size 142 (.agg #[.int .i64 0,.int .i64 0]) 2 16 Tryz.underlying23 infoEntA rfl (by decide) _ 0 [] (flatE S) (by rfl) ho a n cap (by rfl) HNL.out HLN.out HR3.out.news (flatE_oneCell S) (by omega) (by decide) (by omega) ?_;intro v5 w5 ho5 hg5;have hb5:=hb03.grown hg5 (Nat.le_of_lt hs3) (fun q hq=>(ho.1.lt q hq).1);have e5:w5.cell? ⟨w.heap.size,2,none⟩=some (.slice wa wn wc):=hg5.cell e3 (by simp [Value.ownBlock];omega);have hq5:RowE w5 wa wn W:=rowE_apart hq3 hg5 (fun h0 b' o' he=>by have:=HQ2.out h0 b' o' he;simp [Value.ownBlock];omega);clear hg5))
   rw [Nat.zero_add,List.nil_append] at ho5
   have HWL:=Lib.hid hq5.1
   have HQ5:=Lib.hid hq5
   have hwn:wn≤32:=by have:=wr_len HWV.out;rw [HWL.out] at this;exact this
   have hxl:w.heap.size < w5.heap.size:=World.block_lt_of_cell? w5 ⟨w.heap.size,2,none⟩ e5
   have hL0:Own w5 w.heap.size 142 2 v5 (applyL S (W.take 0)).length (flatE (applyL S (W.take 0))):=by
    show Own w5 w.heap.size 142 2 v5 S.length (flatE S)
    rw [hSl];exact ho5
   clear hb3 ho hb03 e3 hq3 hs3 ho5 e2 hb02 hs2 hSl hq5
   go_loopw [5,6] (fun v i wr=>∃ k:Nat,k≤wn∧i = .int .i64 k∧Own wr w.heap.size 142 2 v (applyL S (W.take k)).length (flatE (applyL S (W.take k)))∧Below w5.heap.size w5 wr) (fun _ i _=>wn - (intOf i).toNat)
   case atStart=>exact ⟨0,Nat.zero_le _,rfl,hL0,Below.refl _ _⟩
   case round =>
    clear hL0
    obtain ⟨k,hk,rfl,hown,hb⟩:=hrel
    have hex:=below_cg hb hxl e5
    have hok:Ok (applyL S (W.take k)):=ok_applyL ((storeB_ok S).1 HSV.out) ((writesB_ok _).1 (writesB_take HWV.out k)).2
    have hl32:=store_len ((storeB_ok _).2 hok)
    have HBW:=Lib.hid (hb5.trans (hb.mono (Nat.le_of_lt hxl)))
    by_cases hlt:k < wn
    · have hqr:=HQ5.out.below hb
      obtain ⟨b',off,rfl,hc⟩:=hqr.2.2.1 (by omega)
      obtain ⟨hc1,hc2⟩:=hc k hlt
      have hbl:b' < wr.heap.size:=World.block_lt_of_cell? wr ⟨b',off+k*2,none⟩ hc1
      have hbd:=wrE_mem HWV.out k (by rw [HWL.out];exact hlt)
      have HN:Hid (applyL S (W.take (k+1))=putRaw (W.getD k (0,0)).1 (W.getD k (0,0)).2 (applyL S (W.take k))):=Lib.hid (applyL_take S W k (by rw [HWL.out];exact hlt))
      obtain ⟨⟨x1,x2⟩,y1,y2⟩:=hbd
      clear hc hqr
      obtain ⟨x,hx⟩:∃ x,x=(W.getD k (0,0)).1:=⟨_,rfl⟩
      obtain ⟨y,hy⟩:∃ y,y=(W.getD k (0,0)).2:=⟨_,rfl⟩
      rw [← hx] at hc1 x1 x2
      rw [← hy] at hc2 y1 y2
      rw [← hx,← hy] at HN
      clear hx hy
      obtain ⟨L,hL⟩:∃ L,L=applyL S (W.take k):=⟨_,rfl⟩
      rw [← hL] at hok hl32 hown HN
      clear hL
      have hwf:=wf_of_okA hok.2
      obtain ⟨g,c,rfl,-,hrow⟩:=rowE_of_own hown (by omega) hwf
      have hxs:w.heap.size < wr.heap.size:=World.block_lt_of_cell? wr ⟨w.heap.size,2,none⟩ hex
      have HWX:=Lib.hid (show (Lit.int .i64 x).wf=true from WalkArith.wf_i64 (by omega))
      have HWY:=Lib.hid (show (Lit.int .i64 y).wf=true from WalkArith.wf_i64 (by omega))
      have q1:(0:Int)≤(k:Int):=by omega
      have q2:(k:Int) < (wn:Int):=by omega
      have HL32:=Lib.hid (show L.length≤1000 by omega)
      clear hown hok hl32 hwf
      go_wp2_with fail
      go_region_held3 (fun w'=>w'.cell? ⟨w.heap.size,2,none⟩=some (.slice (some ⟨b',off,none⟩) wn wc)∧w'.cell? ⟨b',off+k*2,none⟩=some (.int .i64 x)∧w'.cell? ⟨b',off+k*2+1,none⟩=some (.int .i64 y)) (first | exact ⟨hex,hc1,hc2⟩ | exact ⟨g1,g2,g3⟩ | go_keep)
       ((go_at_call 176;refine (l2Put_spec _ _ _ L x y _ (by exact hrow) HL32.out HWX.out HWY.out).mono ?_;rintro e w7 ⟨v7,rfl,ho7,hw7,hb7'⟩;have hb7:Below wr.heap.size wr w7:=(by first | exact hb7' | exact (Below.refl _ wr).drew.trans hb7' | exact (Below.refl _ wr).drew.drew.trans hb7');have g1:=below_cg hb7 hxs hex;have g2:=below_cg hb7 hbl hc1;have g3:=below_cg hb7 hbl hc2))
      all_goals
       have ho8:Own w7 w.heap.size 142 2 v7 (putRaw x y L).length (flatE (putRaw x y L)):=⟨owns_mono ho7.1 (by first | exact Nat.le_of_lt hxs),ho7.2⟩
       have hb8:=hb.trans (hb7.mono hb.size)
       have HO8:=Lib.hid ho8
       have HB8:=Lib.hid hb8
       clear ho7 ho8 hb7 hb7' hb8 hex hc1 hc2 g1 g2 g3 hb
       go_wp2
       go_roundw
       case rel=>exact ⟨k+1,by omega,by go_num,by rw [HN.out];exact HO8.out,HB8.out⟩
       case measure=>simp [intOf];omega
    · obtain rfl:k=wn:=by omega
      have e:W.take k=W:=List.take_of_length_le (by rw [HWL.out];omega)
      rw [e] at hown hok
      have HM:Hid (applyM S W=applyL S W):=Lib.hid (applyM_yes HSV.out HWV.out)
      have HWF:=Lib.hid (wf_of_okA hok.2)
      have HO:=Lib.hid hown
      clear e hown hok hl32
      go_wp2
      go_ret
      exact ⟨_,rfl,by rw [HM.out];exact HO.out,by rw [HM.out];exact HWF.out,HBW.out⟩
theorem infoEffS:(Tryz.prog.info? 178).map (fun i=>(i.zero,i.size,i.bytes))=some (some (.agg #[.bool false,.slice none 0 0,.slice none 0 0]),3,56):=by kernel_rfl
def SerAt (w wr:World) (S:List Ent) (L:List Acn) (k:Nat) (v u:Value):Prop :=
 OwnSF wr w.heap.size wr.heap.size 178 142 v u (serL S (L.take k)).1 (serL S (L.take k)).2∧Below w.heap.size w wr
set_option maxHeartbeats 4000000 in
theorem runSerial_spec (a:Option Addr) (n cap:Nat) (S:List Ent) (b:Option Addr) (m c2:Nat) (L:List Acn) (w:World) (h:RowE w a n S) (hz:a=none→cap=0) (h2:RowA w b m L) :
  Calls Tryz.prog 147 #[.slice a n cap,.slice b m c2] w (NewSF w 178 142 (serM S L).1 (serM S L).2):=by
 have hb0:=(Below.refl w.heap.size w).alloc (Nat.le_refl _) (.cells #[] 178)
 have hF0:Own2 (w.alloc (.cells #[] 178)) w.heap.size (w.heap.size+1) 178 3 (.slice (some ⟨w.heap.size,0,none⟩) 0 0) 0 [] []:=own2_lit _ _ (Nat.le_refl _) (Nat.lt_succ_self _)
 have hs0:(w.alloc (.cells #[] 178)).heap.size=w.heap.size+1:=by simp
 have HS:=Lib.hid (h.below hb0)
 have HA:=Lib.hid (h2.below hb0)
 have HAW:=Lib.hid h2
 have hm:=h.2.1
 clear h h2
 go_enter Tryz.func147,Tryz.ntmps147
 go_wp2_with fail
 obtain ⟨w0,hw0⟩:∃ w0,w0=w.alloc (.cells #[] 178):=⟨_,rfl⟩
 rw [← hw0] at hb0 hF0 hs0 HS HA ⊢
 have HS0:=Lib.hid hs0
 clear hw0 hs0
 refine (storeValid_spec a n cap S _ HS.out).mono ?_;rintro e w1 ⟨rfl,hd1⟩
 have hb1':=hd1.below w0.heap.size
 have HS1:=Lib.hid (HS.out.below hb1')
 have HA1:=Lib.hid (HA.out.below hb1')
 have hF1:=hF0.below hb1'
 have hb1:=hb0.trans (hb1'.mono hb0.size)
 have hs1:=hb1'.size
 clear HS HA hF0 hb0 hb1' hd1
 have hNO:(storeB S && actsB L)=false→serM S L=([],[]):=serM_no
 have HNO:=Lib.hid hNO
 clear hNO
 have hok:∀ w5 w6,Below w.heap.size w w5→w0.heap.size≤w5.heap.size→Own2 w5 w.heap.size (w.heap.size+1) 178 3 (.slice (some ⟨w.heap.size,0,none⟩) 0 0) 0 [] []→w6=w5.alloc (.cells #[] 142) →
   OwnSF w6 w.heap.size w6.heap.size 178 142 (.slice (some ⟨w5.heap.size,0,none⟩) 0 0) (.slice (some ⟨w.heap.size,0,none⟩) 0 0) [] []∧Below w.heap.size w w6:=fun w5 w6 hb hl hF e=>by
  have hs:=HS0.out
  subst e
  refine ⟨⟨(own_lit 142 2 #[] 0 hb.size (by simp) rfl).1,fun e he=>(by cases he),fun p hp=>(by simp [Value.ownBlock] at hp;simp;omega),by simp,[],(hF.alloc _).mono (Nat.le_refl _) (by simp;omega),fun y hy p hp hq=>?_⟩,hb.alloc hb.size _⟩
  simp at hy;subst hy
  simp [blk,Value.ownBlock] at hp hq
  omega
 have HOK:=Lib.hid hok
 clear hok
 cases hS:storeB S with
 | false =>
  have HE:=Lib.hid (HNO.out (by rw [hS];rfl))
  obtain ⟨hO,hB⟩:=HOK.out w1 _ hb1 hs1 hF1 rfl
  have HO:=Lib.hid hO
  have HB:=Lib.hid hB
  clear hS hF1 hb1 hO hB HNO HOK
  go_wp2
  go_ret2
  exact ⟨.slice (some ⟨w1.heap.size,0,none⟩) 0 0,.slice (some ⟨w.heap.size,0,none⟩) 0 0,rfl,by rw [HE.out];exact HO.out,HB.out⟩
 | true =>
  have HSB:=Lib.hid hS
  clear hS
  go_wp2_with fail
  refine (actionsValid_spec b m c2 L _ HA1.out).mono ?_;rintro e w2 ⟨rfl,hb2'⟩
  have HS2:=Lib.hid (HS1.out.below hb2')
  have HA2:=Lib.hid (HA1.out.below hb2')
  have hF2:=hF1.below hb2'
  have hb2:=hb1.trans (hb2'.mono hb1.size)
  have hs2:=Nat.le_trans hs1 hb2'.size
  clear HS1 HA1 hF1 hb1 hb2' hs1
  cases hA:actsB L with
  | false =>
   have HE:=Lib.hid (HNO.out (by rw [HSB.out,hA];rfl))
   obtain ⟨hO,hB⟩:=HOK.out w2 _ hb2 hs2 hF2 rfl
   have HO:=Lib.hid hO
   have HB:=Lib.hid hB
   clear hA hF2 hb2 hO hB HNO HOK
   go_wp2
   go_ret2
   exact ⟨.slice (some ⟨w2.heap.size,0,none⟩) 0 0,.slice (some ⟨w.heap.size,0,none⟩) 0 0,rfl,by rw [HE.out];exact HO.out,HB.out⟩
  | true =>
   have HSY:=Lib.hid (serM_yes HSB.out hA)
   have HM10:=Lib.hid (actsB_true hA).1
   clear hA HNO HOK
   have hS32:=store_len HSB.out
   have hSl:=HS2.out.1
   have hnil:a=none→n=0∧cap=0:=fun e=>⟨by
    rcases Nat.eq_zero_or_pos n with h | h
    · exact h
    · obtain ⟨b',o',he,-⟩:=HS2.out.2.2.1 h;(rw [e] at he;cases he),hz e⟩
   have HNL:=Lib.hid hnil
   have HLN:=Lib.hid (show (flatE S).length=n*2 by rw [flatE_len,hSl])
   have ho:=own_lit (w:=w2) (B:=w2.heap.size) 142 2 #[] 0 (Nat.le_refl _) (by unfold maxLen;omega) rfl
   have hb3:=(Below.refl w2.heap.size w2).alloc (Nat.le_refl _) (.cells #[] 142)
   have HR3:=Lib.hid (HS2.out.below hb3)
   have hn32:n≤32:=by omega
   have HSL:=Lib.hid hSl
   have hwfS:=Lib.hid HS2.out.2.2.2
   have hs0:=HS0.out
   have hwl:w.heap.size < w2.heap.size:=by omega
   clear hnil hSl hS32 hz hs0 hs2
   go_wp2_with (first | (at_builtin;refine wpList_append_rows rfl _ _ 23 rfl w2.heap.size 142 (.agg #[.int .i64 0,.int .i64 0]) 2 16 Tryz.underlying23 infoEntF rfl (by decide) _ 0 [] (flatE S) (by rfl) ho a n cap (by rfl) HNL.out HLN.out HR3.out.news (flatE_oneCell S) (by omega) (by decide) (by simp) ?_;intro v5 w5 ho5 hg5;have hb5:=hb3.grown hg5 (by simp) (fun q hq=>(ho.1.lt q hq).1)))
   rw [Nat.zero_add,List.nil_append] at ho5
   have hSA:SerAt w w5 S L 0 v5 (.slice (some ⟨w.heap.size,0,none⟩) 0 0):=by
    have hb25:=hb2.trans (hb5.mono hb2.size)
    rw [← HSL.out] at ho5
    refine ⟨⟨owns_mono ho5.1 hb2.size,hwfS.out,fun p hp=>(ho5.1.lt p hp).2,by simp [serL],[],(hF2.below hb5).mono (Nat.le_refl _) (by have:=hb5.size;omega),fun y hy p hp hq=>?_⟩,hb25⟩
    simp at hy;subst hy
    have h1:=(ho5.1.lt p hp).1
    simp [blk] at hq
    omega
   clear hb2 hF2 ho hb3 ho5 hg5 hb5 hwl
   go_loopw [6,7,8] (fun u v i wr=>∃ k:Nat,k≤m∧i = .int .i64 k∧SerAt w wr S L k v u) (fun _ _ i _=>m - (intOf i).toNat)
   case atStart=>exact ⟨0,Nat.zero_le _,rfl,hSA⟩
   case round =>
    clear hSA
    obtain ⟨k,hk,rfl,hSF,hb⟩:=hrel
    have hkl:=serL_len S (L.take k)
    have hTB:=store_ser (L.take k) HSB.out
    have hT32:=store_len hTB
    have hm10:=HM10.out
    have hLm:=HAW.out.1
    rw [List.length_take] at hkl
    have hk10:k≤10:=by omega
    have hkl2:(serL S (L.take k)).2.length≤10:=by omega
    by_cases hlt:k < m
    · have HNX:=Lib.hid (serL_next S L k (by omega))
      obtain ⟨b',off,rfl,hcc⟩:=HAW.out.2.2.1 (by omega)
      obtain ⟨c1,c2',c3,c4⟩:=hcc k hlt
      have hbB:b' < w.heap.size:=World.block_lt_of_cell? w ⟨b',off+k*4,none⟩ c1
      have d1:=(hb.cell (p:=⟨b',off+k*4,none⟩) hbB).trans c1
      have d2:=(hb.cell (p:=⟨b',off+k*4+1,none⟩) hbB).trans c2'
      have d3:=(hb.cell (p:=⟨b',off+k*4+2,none⟩) hbB).trans c3
      have d4:=(hb.cell (p:=⟨b',off+k*4+3,none⟩) hbB).trans c4
      obtain ⟨T,hT⟩:∃ T,T=(serL S (L.take k)).1:=⟨_,rfl⟩
      obtain ⟨E,hE⟩:∃ E,E=(serL S (L.take k)).2:=⟨_,rfl⟩
      rw [← hT,← hE] at hSF HNX
      rw [← hT] at hT32
      rw [← hE] at hkl2
      obtain ⟨p,q,r,t,hx⟩:∃ p q r t,L.getD k noA=⟨p,q,r,t⟩:=⟨_,_,_,_,rfl⟩
      rw [hx] at d1 d2 d3 d4 HNX
      simp only at d1 d2 d3 d4
      obtain ⟨av,cv,rfl,hrv,zv⟩:=hSF.row (by omega)
      obtain ⟨au,cu,rfl,-,-,-⟩:=rowFs_of_own hSF.effs
      have HZ:=Lib.hid zv
      clear hcc c1 c2' c3 c4 hT hE hx hTB hkl zv
      go_wp2_with fail
      refine (runAction_spec _ _ cv T p q r t _ hrv).mono ?_;rintro e w3 ⟨v3,rfl,hF3,hb3⟩
      have hXr:=runM_rlen T ⟨p,q,r,t⟩
      have hXw:=runM_wlen T ⟨p,q,r,t⟩
      obtain ⟨X,hX⟩:∃ X,X=runM T ⟨p,q,r,t⟩:=⟨_,rfl⟩
      rw [← hX] at hF3 hXr hXw HNX
      clear hX
      obtain ⟨ax,cx,bx,dx,rfl,hf3,-⟩:=hF3.rows (by omega) (by omega)
      have hN4:=eAt_new w3 178 X.done (.slice ax X.rds.length cx) (.slice bx X.wrs.length dx)
      have hbl:=(Below.refl w3.heap.size w3).alloc (Nat.le_refl _) (.cells #[.bool X.done,.slice ax X.rds.length cx,.slice bx X.wrs.length dx] 178)
      have hrv4:=hrv.below (hb3.trans (hbl.mono hb3.size))
      have hf4:=hf3.below hbl
      have hs34:=hbl.size
      clear hrv hf3
      go_wp2_with fail
      obtain ⟨w4,hw4⟩:∃ w4,w4=w3.alloc (.cells #[.bool X.done,.slice ax X.rds.length cx,.slice bx X.wrs.length dx] 178):=⟨_,rfl⟩
      rw [← hw4] at hN4 hbl hrv4 hf4 hs34 ⊢
      clear hw4
      refine (applyEffect_spec _ _ cv T _ _ _ _ _ _ _ X.wrs _ hrv4 hf4.2 HZ.out).mono ?_;rintro e w5 ⟨v5,rfl,ho5,hw5,hb5⟩
      have hN5:=hN4.below hb5
      have hb35:=hbl.trans (hb5.mono hbl.size)
      have hbw5:=hb.trans ((hb3.trans (hb35.mono hb3.size)).mono hb.size)
      have hTl:(applyM T X.wrs).length≤4000000:=by
       cases hT1:storeB T with
       | false=>rw [applyM_no (by rw [hT1];rfl)];simp
       | true =>
        cases hW1:writesB X.wrs with
        | false=>rw [applyM_no (by rw [hT1,hW1];rfl)];simp
        | true=>rw [applyM_yes hT1 hW1];have:=store_len (ok_applyM hT1 hW1);omega
      obtain ⟨T',hT'⟩:∃ T',T'=applyM T X.wrs:=⟨_,rfl⟩
      rw [← hT'] at ho5 hw5 HNX hTl
      clear hT'
      obtain ⟨g5,c5,rfl,-,-⟩:=ho5.slice
      obtain ⟨xs,hO,hub,h6,hnw,hap⟩:=ser_ready hSF hF3 (by omega) (by omega) hb3 hb35 ho5.1 hs34
      have hws:=hb.size
      have hs5:=(hb3.trans (hb35.mono hb3.size)).size
      have hs45:w.heap.size≤w4.heap.size:=by have:=hb3.size;omega
      have HUB:=Lib.hid hub
      have H6:=Lib.hid h6
      have HO5:=Lib.hid ho5.1
      have HBW:=Lib.hid hbw5
      obtain ⟨e0,e1,e2⟩:=hN5.1
      clear hSF hF3 hb3 hb hN4 hrv4 hf4 hbl hs34 hb5 hb35 hub h6 ho5 hbw5 d1 d2 d3 d4
      go_wp2_with (at_builtin;refine wpList_append_el2 rfl _ _ 152 rfl w.heap.size wr.heap.size 178 _ (.agg #[.bool false,.slice none 0 0,.slice none 0 0]) 3 56 Tryz.underlying152 infoEffS rfl (by decide) _ E.length _ xs (effC 142 X) [.bool X.done,.slice ax X.rds.length cx,.slice bx X.wrs.length dx] (by rfl) hO (by rfl) rfl rfl hnw hap ?c1 (by decide) ?c2 ?c3 ?c4 ?_)
      case c1=>omega
      case c2=>omega
      case c3=>exact hws
      case c4=>exact hs5
      intro u7 w7 ho7 hne7 hb7 hsz7 hg7 hat7
      have hSF7:=OwnSF.snoc (T:=0) (owns_mono HO5.out hs45) hw5 (by omega) H6.out HUB.out ho7 hg7 hat7
      have hb77:=HBW.out.trans hb7
      have hSA7:SerAt w w7 S L (k+1) (.slice (some ⟨g5,0,none⟩) T'.length c5) u7:=⟨by rw [HNX.out];exact hSF7,hb77⟩
      have HSA:=Lib.hid hSA7
      clear hO hnw hap ho7 hne7 hb7 hsz7 hg7 hat7 hSF7 hb77 hSA7 e0 e1 e2
      go_wp2
      go_roundw
      case rel=>exact ⟨k+1,by omega,by go_num,HSA.out⟩
      case measure=>simp [intOf];omega
    · obtain rfl:k=m:=by omega
      have e:L.take k=L:=List.take_of_length_le (by omega)
      rw [e] at hSF
      have HSF:=Lib.hid hSF
      clear e hSF hkl hkl2 hT32 hTB
      go_wp2
      go_ret2
      exact ⟨u7,u6,rfl,by rw [HSY.out];exact HSF.out,hb⟩
end Go.Proofs.YtpnjgmgmakmgeaaGreat
