/- Texts of ours that stand together: ConvEng, ConvEng2 -/
import Derived.Test.YtoiblfjafjoaeabGreatEngM
import Derived.Test.YtoiblfjafjoaeabGreatConvX
import Derived.Test.YtoiblfjafjoaeabGreatConv
import Derived.Test.YtoiblfjafjoaeabGreatConvA
import Derived.Test.YtoiblfjafjoaeabGreatConvV
import Derived.Deep.Cut
import Derived.StillTailTactics
import Derived.Test.YtoiblfjafjoaeabGreatCopG
/- The contracts of the laws' own helpers over slots and engines: weights. -/
namespace Go.Proofs.YtoiblfjafjoaeabGreat
open Go.RowKit
set_option linter.unusedVariables false
theorem szIntS_any (a:Option Addr) (n cap:Nat) (left:Int) (w:World) (h0:0≤left) (h1:left≤1048576) (hn:n≤maxLen) :
  Calls Tryz.prog 113 #[.slice a n cap,.int .i64 left] w fun e w'=>e = .returned (.int .i64 (if (n:Int)≤left then left - n else -1))∧w=w':=by
 unfold maxLen at hn
 by_cases h:(n:Int)≤left
 · rw [if_pos h]
   go_enter Tryz.func113,Tryz.ntmps113
   go_wp2
   go_ret
   exact ⟨rfl,rfl⟩
 · rw [if_neg h]
   go_enter Tryz.func113,Tryz.ntmps113
   go_wp2
   go_ret
   exact ⟨rfl,rfl⟩
def wtS (s:Slt):Nat:=s.from_.length+s.res.rds.length+s.res.wrs.length
def szN (n:Nat) (left:Int):Int:=if (n:Int)≤left then left - n else -1
theorem szN_yes {n:Nat} {left:Int} (h:(n:Int)≤left):szN n left=left - n:=by unfold szN;rw [if_pos h]
theorem szN_no {n:Nat} {left:Int} (h:left < (n:Int)):szN n left = -1:=by unfold szN;rw [if_neg (by omega)]
set_option maxHeartbeats 1000000 in
theorem szSlot_any (s:Slt) (n n1 n2:Nat) (a a1 a2:Option Addr) (c c1 c2:Nat) (left:Int) (w:World) (h0:0≤left) (h1:left≤1048576) (hn:n≤maxLen) (hn1:n1≤maxLen) (hn2:n2≤maxLen) :
  Calls Tryz.prog 80 #[.agg #[.int .i64 s.stage,.int .i64 s.tries,.slice a n c,.bool s.res.done,.slice a1 n1 c1,.slice a2 n2 c2],.int .i64 left] w fun e w'=>e = .returned (.int .i64 (szN (n+n1+n2) left))∧Below w.heap.size w w':=by
 have hb0:=(Below.refl w.heap.size w).alloc (Nat.le_refl _) (.cells #[.int .i64 s.stage,.int .i64 s.tries,.slice a n c,.bool s.res.done,.slice a1 n1 c1,.slice a2 n2 c2] 115)
 have HB:=Lib.hid hb0
 have HN1:=Lib.hid hn1
 have HN2:=Lib.hid hn2
 obtain ⟨st,tr,fr,rs⟩:=s
 obtain ⟨dn,X,Y⟩:=rs
 simp only at HB ⊢
 clear hb0 hn1 hn2
 go_enter Tryz.func80,Tryz.ntmps80
 go_wp2_with fail
 refine (szIntS_any a n c left _ h0 h1 hn).mono ?_;rintro e w' ⟨rfl,rfl⟩
 by_cases h:(n:Int)≤left
 · rw [if_pos h]
   have hlt:decide (left - (n:Int) < 0)=false:=by simp;omega
   clear hn
   go_wp2_with fail
   refine (szEffect_any dn a1 n1 c1 a2 n2 c2 (left - n) _ (by omega) (by omega) HN1.out HN2.out).mono ?_;rintro e w2 ⟨rfl,hb2⟩
   by_cases h2:((n1:Int)+n2)≤left - n
   · rw [if_pos h2]
     have hlt2:decide (left - (n:Int) - (n1:Int) - (n2:Int) < 0)=false:=by simp;omega
     have HR:Hid (szN (n+n1+n2) left=left - (n:Int) - (n1:Int) - (n2:Int)):=Lib.hid (by rw [szN_yes (by omega)];omega)
     go_wp2
     go_ret
     exact ⟨by rw [HR.out];rfl,HB.out.trans (hb2.mono HB.out.size)⟩
   · rw [if_neg h2]
     have HR:Hid (szN (n+n1+n2) left = -1):=Lib.hid (szN_no (by omega))
     go_wp2
     go_ret
     exact ⟨by rw [HR.out];rfl,HB.out.trans (hb2.mono HB.out.size)⟩
 · rw [if_neg h]
   have HR:Hid (szN (n+n1+n2) left = -1):=Lib.hid (szN_no (by omega))
   clear hn
   go_wp2
   go_ret
   exact ⟨by rw [HR.out];rfl,HB.out⟩
def sumSl:List Slt→Nat
 | []=>0
 | s :: r=>wtS s+sumSl r
theorem sumSl_append (l m:List Slt):sumSl (l++m)=sumSl l+sumSl m:=by
 induction l with
 | nil=>simp [sumSl]
 | cons a r ih=>simp only [List.cons_append,sumSl,ih];omega
theorem sumSl_next (L:List Slt) (k:Nat) (h:k < L.length):sumSl (L.take (k+1))=sumSl (L.take k)+wtS (L.getD k noSlt):=by
 rw [List.take_succ_eq_append_getElem h,sumSl_append,List.getD_eq_getElem?_getD,List.getElem?_eq_getElem h];simp [sumSl]
theorem sumSl_take (L:List Slt) (k:Nat):sumSl (L.take k)≤sumSl L:=by
 have h:=sumSl_append (L.take k) (L.drop k)
 rw [List.take_append_drop] at h;omega
def wtSl (L:List Slt):Nat:=L.length+sumSl L
set_option maxHeartbeats 2000000 in
theorem szSlotS_any (a:Option Addr) (n cap:Nat) (L:List Slt) (left:Int) (w:World) (h:RowSl w a n L) (h0:0≤left) (h1:left≤1048576) :
  Calls Tryz.prog 41 #[.slice a n cap,.int .i64 left] w fun e w'=>e = .returned (.int .i64 (szN (wtSl L) left))∧Below w.heap.size w w':=by
 obtain ⟨hl,hm,hc,-⟩:=h
 unfold maxLen at hm
 have HL:=Lib.hid hl;clear hl
 have HW:Hid (wtSl L=n+sumSl L):=Lib.hid (by rw [wtSl,HL.out])
 have HS:Hid (∀ k,sumSl (L.take k)≤sumSl L):=Lib.hid (sumSl_take L)
 have HNX:Hid (∀ k,k < n→sumSl (L.take (k+1))=sumSl (L.take k)+wtS (L.getD k noSlt)):=Lib.hid (fun k hk=>sumSl_next L k (by rw [HL.out];exact hk))
 have HALL:Hid (sumSl (L.take n)=sumSl L):=Lib.hid (by rw [List.take_of_length_le (by rw [HL.out];exact Nat.le_refl _)])
 by_cases hn:(n:Int)≤left
 · have hnl:¬ (left - (n:Int) < 0):=by omega
   go_enter Tryz.func41,Tryz.ntmps41
   go_wp2
   go_loopw [1,5] (fun q i wr=>∃ k:Nat,k≤n∧i = .int .i64 k∧q = .int .i64 (left - n - (sumSl (L.take k):Nat))∧(n:Int)+(sumSl (L.take k):Nat)≤left∧Below w.heap.size w wr) (fun _ i _=>n - (intOf i).toNat)
   case atStart=>exact ⟨0,Nat.zero_le _,rfl,by simp [sumSl],by simp [sumSl];omega,Below.refl _ _⟩
   case round =>
    obtain ⟨k,hk,rfl,rfl,hle,hb⟩:=hrel
    by_cases hlt:k < n
    · obtain ⟨b,off,rfl,hcc⟩:=hc (by omega)
      obtain ⟨g1,g2,⟨x,g3,hx⟩,g4,⟨y,g5,hy⟩,z,g6,hz⟩:=(hcc k hlt).below hb
      obtain ⟨a',n',cap',rfl,hr',-,-⟩:=hx
      obtain ⟨a2,n2,cap2,rfl,hr2,-,-⟩:=hy
      obtain ⟨a3,n3,cap3,rfl,hr3,-,-⟩:=hz
      have hln:=HNX.out k hlt
      have hst:=HS.out (k+1)
      unfold wtS at hln
      rw [hr'.1,hr2.1,hr3.1] at hln
      have HM1:=Lib.hid hr'.2.1;have HM2:=Lib.hid hr2.2.1;have HM3:=Lib.hid hr3.2.1
      clear hc hcc hr' hr2 hr3
      obtain ⟨X,hX⟩:∃ X,X=L.getD k noSlt:=⟨_,rfl⟩
      obtain ⟨s,hs⟩:∃ s,s=sumSl (L.take k):=⟨_,rfl⟩
      obtain ⟨s',hs'⟩:∃ s',s'=sumSl (L.take (k+1)):=⟨_,rfl⟩
      rw [← hs,← hs'] at hln
      rw [← hX] at g1 g2 g4
      rw [← hs] at hle ⊢
      rw [← hs'] at hst
      have HS1:=Lib.hid hs'
      have HLN:=Lib.hid hln
      clear hs hs' hX hln
      go_wp2_with fail
      refine (szSlot_any X n' n2 n3 a' a2 a3 cap' cap2 cap3 _ _ (by omega) (by omega) HM1.out HM2.out HM3.out).mono ?_;rintro e w2 ⟨rfl,hb2⟩
      have hb3:=hb.trans (hb2.mono hb.size)
      have hln:=HLN.out
      by_cases hq:((n'+n2+n3:Nat):Int)≤left - n - s
      · have HZ:Hid (szN (n'+n2+n3) (left - n - s)=left - n - s'):=Lib.hid (by rw [szN_yes hq];omega)
        rw [HZ.out]
        have hbq:¬ (left - (n:Int) - (s':Int) < 0):=by omega
        go_wp2
        go_roundw
        case rel=>exact ⟨k+1,by omega,by go_num,by rw [← HS1.out];first | rfl | (congr 1;omega),by rw [← HS1.out];omega,hb3⟩
        case measure=>simp [intOf];omega
      · have HZ:Hid (szN (n'+n2+n3) (left - n - s) = -1):=Lib.hid (szN_no (by omega))
        rw [HZ.out]
        have HR:Hid (szN (wtSl L) left = -1):=Lib.hid (szN_no (by rw [HW.out];omega))
        clear hq
        go_wp2
        go_ret
        exact ⟨by rw [HR.out];rfl,hb3⟩
    · obtain rfl:k=n:=by omega
      have HR:Hid (szN (wtSl L) left=left - k - (sumSl (L.take k):Nat)):=Lib.hid (by rw [szN_yes (by rw [HW.out,← HALL.out];omega),HW.out,← HALL.out];omega)
      clear hc
      go_wp2
      go_ret
      exact ⟨by rw [HR.out];rfl,hb⟩
 · have HR:Hid (szN (wtSl L) left = -1):=Lib.hid (szN_no (by rw [HW.out];omega))
   have hnl:left - (n:Int) < 0:=by omega
   clear hc
   go_enter Tryz.func41,Tryz.ntmps41
   go_wp2
   go_ret
   exact ⟨by rw [HR.out];rfl,Below.refl _ _⟩
def wtEng (e:Eng):Nat:=e.base.length+e.list.length+e.vers.length+wtSl e.slots
set_option maxHeartbeats 1000000 in
theorem szEngine_any (v1 v2 v3 v4:Value) (e:Eng) (left:Int) (w:World) (h:EngRd w v1 v2 v3 v4 e) (h0:0≤left) (h1:left≤1048576) :
  Calls Tryz.prog 10 #[.agg #[v1,v2,v3,v4],.int .i64 left] w fun en w'=>en = .returned (.int .i64 (szN (wtEng e) left))∧Below w.heap.size w w':=by
 obtain ⟨⟨a1,n1,c1,rfl,hr1,-,-⟩,⟨a2,n2,c2,rfl,hr2,-,-⟩,⟨a3,n3,c3,rfl,hr3,-,-⟩,a4,n4,c4,rfl,hr4,-,-⟩:=h
 have hb0:=(Below.refl w.heap.size w).alloc (Nat.le_refl _) (.cells #[.slice a1 n1 c1,.slice a2 n2 c2,.slice a3 n3 c3,.slice a4 n4 c4] 27)
 have HR4:=Lib.hid (hr4.below hb0)
 have HB:=Lib.hid hb0
 have HW:Hid (wtEng e=n1+n2+n3+wtSl e.slots):=Lib.hid (by rw [wtEng,hr1.1,hr2.1,hr3.1])
 have HM1:=Lib.hid hr1.2.1;have HM2:=Lib.hid hr2.2.1;have HM3:=Lib.hid hr3.2.1
 clear hr1 hr2 hr3 hr4 hb0
 obtain ⟨W4,hW4⟩:∃ W4,W4=wtSl e.slots:=⟨_,rfl⟩
 have HW4:=Lib.hid hW4
 rw [← hW4] at HW
 clear hW4
 go_enter Tryz.func10,Tryz.ntmps10
 go_wp2_with fail
 refine (szEntryS_any a1 n1 c1 left _ h0 h1 HM1.out).mono ?_;rintro en w' ⟨rfl,rfl⟩
 by_cases g1:(n1:Int)≤left
 · rw [if_pos g1]
   have k1:¬ (left - (n1:Int) < 0):=by omega
   go_wp2_with fail
   refine (szActionS_any a2 n2 c2 (left - n1) _ (by omega) (by omega) HM2.out).mono ?_;rintro en w' ⟨rfl,rfl⟩
   by_cases g2:(n2:Int)≤left - n1
   · rw [if_pos g2]
     have k2:¬ (left - (n1:Int) - (n2:Int) < 0):=by omega
     go_wp2_with fail
     refine (szVersionS_any a3 n3 c3 (left - n1 - n2) _ (by omega) (by omega) HM3.out).mono ?_;rintro en w' ⟨rfl,rfl⟩
     by_cases g3:(n3:Int)≤left - n1 - n2
     · rw [if_pos g3]
       have k3:¬ (left - (n1:Int) - (n2:Int) - (n3:Int) < 0):=by omega
       go_wp2_with fail
       refine (szSlotS_any a4 n4 c4 e.slots (left - n1 - n2 - n3) _ HR4.out (by omega) (by omega)).mono ?_;rintro en w5 ⟨rfl,hb5⟩
       rw [← HW4.out]
       by_cases g4:(W4:Int)≤left - n1 - n2 - n3
       · have HZ:Hid (szN W4 (left - n1 - n2 - n3)=left - n1 - n2 - n3 - W4):=Lib.hid (szN_yes g4)
         have HR:Hid (szN (wtEng e) left=left - n1 - n2 - n3 - W4):=Lib.hid (by rw [HW.out,szN_yes (by omega)];omega)
         rw [HZ.out]
         have k4:¬ (left - (n1:Int) - (n2:Int) - (n3:Int) - (W4:Int) < 0):=by omega
         go_wp2
         go_ret
         exact ⟨by rw [HR.out];rfl,HB.out.trans (hb5.mono HB.out.size)⟩
       · have HZ:Hid (szN W4 (left - n1 - n2 - n3) = -1):=Lib.hid (szN_no (by omega))
         have HR:Hid (szN (wtEng e) left = -1):=Lib.hid (by rw [HW.out];exact szN_no (by omega))
         rw [HZ.out]
         go_wp2
         go_ret
         exact ⟨by rw [HR.out];rfl,HB.out.trans (hb5.mono HB.out.size)⟩
     · rw [if_neg g3]
       have HR:Hid (szN (wtEng e) left = -1):=Lib.hid (by rw [HW.out];exact szN_no (by omega))
       go_wp2
       go_ret
       exact ⟨by rw [HR.out];rfl,HB.out⟩
   · rw [if_neg g2]
     have HR:Hid (szN (wtEng e) left = -1):=Lib.hid (by rw [HW.out];exact szN_no (by omega))
     go_wp2
     go_ret
     exact ⟨by rw [HR.out];rfl,HB.out⟩
 · rw [if_neg g1]
   have HR:Hid (szN (wtEng e) left = -1):=Lib.hid (by rw [HW.out];exact szN_no (by omega))
   go_wp2
   go_ret
   exact ⟨by rw [HR.out];rfl,HB.out⟩
end Go.Proofs.YtoiblfjafjoaeabGreat
/- The contracts of the laws' own helpers over slots and engines: comparisons. -/
namespace Go.Proofs.YtoiblfjafjoaeabGreat
open Go.RowKit
set_option linter.unusedVariables false
set_option maxHeartbeats 2000000 in
theorem eqSlot_same (s:Slt) (n n1 n2:Nat) (a a1 a2 a' a1' a2':Option Addr) (c c1 c2 c' c1' c2':Nat) (w:World) (h:RowI w a n s.from_) (h':RowI w a' n s.from_) (hf:RowF w a1 n1 a2 n2 s.res) (hf':RowF w a1' n1 a2' n2 s.res) :
  Calls Tryz.prog 100 #[slV s (.slice a n c) (.slice a1 n1 c1) (.slice a2 n2 c2),slV s (.slice a' n c') (.slice a1' n1 c1') (.slice a2' n2 c2')] w fun e w'=>e = .returned (.bool true)∧Below w.heap.size w w':=by
 obtain ⟨st,tr,fr,rs⟩:=s
 obtain ⟨dn,X,Y⟩:=rs
 simp only [slV] at h h' hf hf' ⊢
 have hb0:=((Below.refl w.heap.size w).alloc (Nat.le_refl _) (.cells #[.int .i64 st,.int .i64 tr,.slice a n c,.bool dn,.slice a1 n1 c1,.slice a2 n2 c2] 70)).alloc (by simp) (.cells #[.int .i64 st,.int .i64 tr,.slice a' n c',.bool dn,.slice a1' n1 c1',.slice a2' n2 c2'] 70)
 have H:=Lib.hid (h.below hb0);have H':=Lib.hid (h'.below hb0)
 have HF:=Lib.hid (hf.below hb0);have HF':=Lib.hid (hf'.below hb0)
 have HB:=Lib.hid hb0
 have e1:(st != st)=false:=by simp
 have e2:(tr != tr)=false:=by simp
 clear h h' hf hf' hb0
 go_enter Tryz.func100,Tryz.ntmps100
 go_wp2_with fail
 refine (eqIntS_same a a' n c c' fr _ H.out H'.out).mono ?_;rintro e w1 ⟨rfl,hb1⟩
 have H1:=Lib.hid (HF.out.below hb1);have H1':=Lib.hid (HF'.out.below hb1)
 have k3:w1.cell? ⟨w.heap.size,3,none⟩=some (.bool dn):=(hb1.cell (p:=⟨w.heap.size,3,none⟩) (by simp;omega)).trans (by simp [go_sem])
 have k4:w1.cell? ⟨w.heap.size,4,none⟩=some (.slice a1 n1 c1):=(hb1.cell (p:=⟨w.heap.size,4,none⟩) (by simp;omega)).trans (by simp [go_sem])
 have k5:w1.cell? ⟨w.heap.size,5,none⟩=some (.slice a2 n2 c2):=(hb1.cell (p:=⟨w.heap.size,5,none⟩) (by simp;omega)).trans (by simp [go_sem])
 have j3:w1.cell? ⟨w.heap.size+1,3,none⟩=some (.bool dn):=(hb1.cell (p:=⟨w.heap.size+1,3,none⟩) (by simp)).trans (by simp [go_sem])
 have j4:w1.cell? ⟨w.heap.size+1,4,none⟩=some (.slice a1' n1 c1'):=(hb1.cell (p:=⟨w.heap.size+1,4,none⟩) (by simp)).trans (by simp [go_sem])
 have j5:w1.cell? ⟨w.heap.size+1,5,none⟩=some (.slice a2' n2 c2'):=(hb1.cell (p:=⟨w.heap.size+1,5,none⟩) (by simp)).trans (by simp [go_sem])
 have HB1:=Lib.hid (HB.out.trans (hb1.mono HB.out.size))
 clear hb1
 go_wp2_with fail
 refine (eqEffect_same a1 n1 c1 a2 n2 c2 a1' c1' a2' c2' ⟨dn,X,Y⟩ _ H1.out H1'.out).mono ?_;rintro e w2 ⟨rfl,hb2⟩
 go_wp2
 go_ret
 exact ⟨rfl,HB1.out.trans (hb2.mono HB1.out.size)⟩
set_option maxRecDepth 100000 in
set_option maxHeartbeats 2000000 in
theorem eqSlotS_same (a a':Option Addr) (n cap cap':Nat) (L:List Slt) (w:World) (h:RowSl w a n L) (h':RowSl w a' n L) :
  Calls Tryz.prog 61 #[.slice a n cap,.slice a' n cap'] w fun e w'=>e = .returned (.bool true)∧Below w.heap.size w w':=by
 obtain ⟨hl,hm,hc,-⟩:=h
 obtain ⟨-,-,hc',-⟩:=h'
 unfold maxLen at hm
 have HN:=Lib.hid hl;clear hl
 by_cases h0:0 < n
 · obtain ⟨b,off,rfl,hcc⟩:=hc h0;clear hc
   obtain ⟨b',off',rfl,hcc'⟩:=hc' h0;clear hc'
   go_enter Tryz.func61,Tryz.ntmps61
   go_wp2
   go_loopw [5] (fun i wr=>∃ k:Nat,k≤n∧i = .int .i64 k∧Below w.heap.size w wr) (fun i _=>n - (intOf i).toNat)
   case atStart=>exact ⟨0,Nat.zero_le _,rfl,Below.refl _ _⟩
   case round =>
    obtain ⟨k,hk,rfl,hb⟩:=hrel
    by_cases hlt:k < n
    · obtain ⟨g1,g2,⟨x,g3,hx⟩,g4,⟨y,g5,hy⟩,z,g6,hz⟩:=(hcc k hlt).below hb
      obtain ⟨j1,j2,⟨x',j3,hx'⟩,j4,⟨y',j5,hy'⟩,z',j6,hz'⟩:=(hcc' k hlt).below hb
      obtain ⟨a1,n1,cap1,rfl,r1,-,-⟩:=hx
      obtain ⟨a2,n2,cap2,rfl,r2,-,-⟩:=hy
      obtain ⟨a3,n3,cap3,rfl,r3,-,-⟩:=hz
      obtain ⟨a4,n4,cap4,rfl,r4,-,-⟩:=hx'
      obtain ⟨a5,n5,cap5,rfl,r5,-,-⟩:=hy'
      obtain ⟨a6,n6,cap6,rfl,r6,-,-⟩:=hz'
      obtain rfl:n1=n4:=by rw [← r1.1,← r4.1]
      obtain rfl:n2=n5:=by rw [← r2.1,← r5.1]
      obtain rfl:n3=n6:=by rw [← r3.1,← r6.1]
      have HR1:=Lib.hid r1;have HR4:=Lib.hid r4
      have HR2:=Lib.hid (show RowF wr a2 n2 a3 n3 (L.getD k noSlt).res from ⟨r2,r3⟩)
      have HR5:=Lib.hid (show RowF wr a5 n2 a6 n3 (L.getD k noSlt).res from ⟨r5,r6⟩)
      clear hcc hcc' r1 r2 r3 r4 r5 r6
      obtain ⟨s,hs⟩:∃ s,s=L.getD k noSlt:=⟨_,rfl⟩
      rw [← hs] at g1 g2 g4 j1 j2 j4 HR1 HR2 HR4 HR5
      clear hs
      go_wp2
      go_still_tail 8,(by kernel_rfl)
      go_wp2_with fail
      refine (eqSlot_same s n1 n2 n3 a1 a2 a3 a4 a5 a6 cap1 cap2 cap3 cap4 cap5 cap6 _ (show RowI wr.drew _ _ s.from_ from HR1.out) (show RowI wr.drew _ _ s.from_ from HR4.out) (show RowF wr.drew _ _ _ _ s.res from HR2.out) (show RowF wr.drew _ _ _ _ s.res from HR5.out)).mono ?_;rintro e w1 ⟨rfl,hb1⟩
      go_wp2
      go_roundw
      case rel=>exact ⟨k+1,by omega,by go_num,by first | exact hb.trans (hb1.mono hb.size) | exact hb.drew.trans (hb1.mono hb.size) | exact (below_drewN' hb _).trans (hb1.mono hb.size)⟩
      case measure=>simp [intOf];omega
    · clear hcc hcc'
      go_wp2
      go_ret
      exact ⟨rfl,hb⟩
 · obtain rfl:n=0:=by omega
   clear hc hc'
   go_enter Tryz.func61,Tryz.ntmps61
   go_wp2
   go_loop [5] (fun i=>i = .int .i64 0) (fun _=>0)
   case atStart=>rfl
   case round =>
    subst hrel
    go_wp2
    go_ret
    exact ⟨rfl,Below.refl _ _⟩
set_option maxRecDepth 100000 in
set_option maxHeartbeats 2000000 in
theorem eqEngine_same (v1 v2 v3 v4 u1 u2 u3 u4:Value) (e:Eng) (w:World) (h:EngRd w v1 v2 v3 v4 e) (h':EngRd w u1 u2 u3 u4 e) :
  Calls Tryz.prog 14 #[.agg #[v1,v2,v3,v4],.agg #[u1,u2,u3,u4]] w fun en w'=>en = .returned (.bool true)∧Below w.heap.size w w':=by
 obtain ⟨⟨a1,n1,c1,rfl,r1,-,-⟩,⟨a2,n2,c2,rfl,r2,-,-⟩,⟨a3,n3,c3,rfl,r3,-,-⟩,a4,n4,c4,rfl,r4,-,-⟩:=h
 obtain ⟨⟨b1,m1,d1,rfl,s1,-,-⟩,⟨b2,m2,d2,rfl,s2,-,-⟩,⟨b3,m3,d3,rfl,s3,-,-⟩,b4,m4,d4,rfl,s4,-,-⟩:=h'
 obtain rfl:n1=m1:=by rw [← r1.1,← s1.1]
 obtain rfl:n2=m2:=by rw [← r2.1,← s2.1]
 obtain rfl:n3=m3:=by rw [← r3.1,← s3.1]
 obtain rfl:n4=m4:=by rw [← r4.1,← s4.1]
 have hb0:=((Below.refl w.heap.size w).alloc (Nat.le_refl _) (.cells #[.slice a1 n1 c1,.slice a2 n2 c2,.slice a3 n3 c3,.slice a4 n4 c4] 35)).alloc (by simp) (.cells #[.slice b1 n1 d1,.slice b2 n2 d2,.slice b3 n3 d3,.slice b4 n4 d4] 35)
 have q1:((w.alloc (.cells #[.slice a1 n1 c1,.slice a2 n2 c2,.slice a3 n3 c3,.slice a4 n4 c4] 35)).alloc (.cells #[.slice b1 n1 d1,.slice b2 n2 d2,.slice b3 n3 d3,.slice b4 n4 d4] 35)).heap.size=w.heap.size+2:=by simp
 have hg1:=(egAt_new w 35 (.slice a1 n1 c1) (.slice a2 n2 c2) (.slice a3 n3 c3) (.slice a4 n4 c4)).below ((Below.refl _ _).alloc (Nat.le_refl _) (.cells #[.slice b1 n1 d1,.slice b2 n2 d2,.slice b3 n3 d3,.slice b4 n4 d4] 35))
 have hg2:=egAt_new (w.alloc (.cells #[.slice a1 n1 c1,.slice a2 n2 c2,.slice a3 n3 c3,.slice a4 n4 c4] 35)) 35 (.slice b1 n1 d1) (.slice b2 n2 d2) (.slice b3 n3 d3) (.slice b4 n4 d4)
 rw [show (w.alloc (.cells #[.slice a1 n1 c1,.slice a2 n2 c2,.slice a3 n3 c3,.slice a4 n4 c4] 35)).heap.size=w.heap.size+1 by simp] at hg2
 have HA:=Lib.hid (fun (W:World) (hb:Below (w.heap.size+2) ((w.alloc (.cells #[.slice a1 n1 c1,.slice a2 n2 c2,.slice a3 n3 c3,.slice a4 n4 c4] 35)).alloc (.cells #[.slice b1 n1 d1,.slice b2 n2 d2,.slice b3 n3 d3,.slice b4 n4 d4] 35)) W) =>
  show EgAt W w.heap.size (.slice a1 n1 c1) (.slice a2 n2 c2) (.slice a3 n3 c3) (.slice a4 n4 c4)∧EgAt W (w.heap.size+1) (.slice b1 n1 d1) (.slice b2 n2 d2) (.slice b3 n3 d3) (.slice b4 n4 d4)∧RowA W a2 n2 e.list∧RowA W b2 n2 e.list∧RowV W a3 n3 e.vers∧RowV W b3 n3 e.vers∧RowSl W a4 n4 e.slots∧RowSl W b4 n4 e.slots from by
   have hb':=hb
   rw [← q1] at hb'
   exact ⟨hg1.below hb',hg2.below hb',(r2.below hb0).below hb',(s2.below hb0).below hb',(r3.below hb0).below hb',(s3.below hb0).below hb',(r4.below hb0).below hb',(s4.below hb0).below hb'⟩)
 have HR1:=Lib.hid (r1.below hb0);have HS1:=Lib.hid (s1.below hb0)
 have HB:=Lib.hid hb0
 clear r1 r2 r3 r4 s1 s2 s3 s4 hb0 hg1 hg2
 go_enter Tryz.func14,Tryz.ntmps14
 go_wp2_with fail
 refine (eqEntryS_same a1 b1 n1 c1 d1 e.base _ HR1.out HS1.out).mono ?_;rintro en w1 ⟨rfl,hb1⟩
 rw [q1] at hb1
 obtain ⟨p1,p2,p3,p4,p5,p6,p7,p8⟩:=HA.out w1 hb1
 have x1:=p1.c1;have y1:=p2.c1
 have HB1:=Lib.hid hb1
 clear p1 p2 p5 p6 p7 p8 hb1
 go_wp2_with fail
 refine (eqActionS_same a2 b2 n2 c2 d2 e.list _ p3 p4).mono ?_;rintro en w2 ⟨rfl,hb2⟩
 have hb2':=HB1.out.trans (hb2.mono (by rw [← q1];exact Nat.le_trans (Nat.le_of_eq rfl) (by have:=HB1.out.size;omega)))
 obtain ⟨p1,p2,p3',p4',p5,p6,p7,p8⟩:=HA.out w2 hb2'
 have x2:=p1.c2;have y2:=p2.c2
 have HB2:=Lib.hid hb2'
 clear p1 p2 p3 p4 p3' p4' p7 p8 hb2 hb2' x1 y1
 go_wp2_with fail
 refine (eqVersionS_same a3 b3 n3 c3 d3 e.vers _ p5 p6).mono ?_;rintro en w3 ⟨rfl,hb3⟩
 have hb3':=HB2.out.trans (hb3.mono (by have:=HB2.out.size;omega))
 obtain ⟨p1,p2,p3,p4,p5',p6',p7,p8⟩:=HA.out w3 hb3'
 have x3:=p1.c3;have y3:=p2.c3
 have HB3:=Lib.hid hb3'
 clear p1 p2 p3 p4 p5 p6 p5' p6' hb3 hb3' x2 y2
 go_wp2_with fail
 refine (eqSlotS_same a4 b4 n4 c4 d4 e.slots _ p7 p8).mono ?_;rintro en w4 ⟨rfl,hb4⟩
 have hb4':=HB3.out.trans (hb4.mono (by have:=HB3.out.size;omega))
 have HB4:=Lib.hid hb4'
 clear p7 p8 hb4 hb4' x3 y3
 go_wp2
 go_ret
 exact ⟨rfl,HB.out.trans (HB4.out.mono (by omega))⟩
end Go.Proofs.YtoiblfjafjoaeabGreat
