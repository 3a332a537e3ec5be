/- The contract of the program's areWrites. -/
import Derived.Test.YtpnjgmgmakmgeaaGreatTwo
import Derived.Test.YtpnjgmgmakmgeaaGreatLay
namespace Go.Proofs.YtpnjgmgmakmgeaaGreat
open Go.RowKit
set_option linter.unusedVariables false
theorem wrAt_last (l:List Ent) (k:Nat):wrAt l k=(inB (l.getD k (0,0)).1 0 31 && inB (l.getD k (0,0)).2 0 1000000 && decide (lastOf l k < (l.getD k (0,0)).1)):=by
 unfold wrAt
 cases k with
 | zero =>
  by_cases h:0≤(l.getD 0 (0,0)).1
  · have e:decide (lastOf l 0 < (l.getD 0 (0,0)).1)=true:=by rw [decide_eq_true_eq];show (-1:Int) < _;omega
    rw [e];rfl
  · rw [inB_no (by omega)];simp
 | succ k=>simp [lastOf]
set_option maxHeartbeats 1000000 in
theorem areWrites_impl (a:Option Addr) (n cap:Nat) (l:List Ent) (w:World) (h:RowE w a n l) :
  Calls Tryz.prog 197 #[.slice a n cap] w (BoolB (writesB l) w):=by
 have HR:=Lib.hid h
 obtain ⟨hl,hm,hc,-⟩:=h
 unfold maxLen at hm
 have HL:=Lib.hid hl;clear hl
 by_cases h0:0 < n
 · obtain ⟨b,off,rfl,hcc⟩:=hc h0;clear hc;have hc:=hcc;clear hcc
   have hbs:b < w.heap.size:=World.block_lt_of_cell? w ⟨b,off+0*2,none⟩ (hc 0 h0).1
   go_enter Tryz.func197,Tryz.ntmps197
   go_wp2
   go_loopw [3,8] (fun z i wr=>∃ k:Nat,k≤n∧i = .int .i64 k∧z = .int .i64 (lastOf l k)∧WrTo l k∧Below w.heap.size w wr) (fun _ i _=>n - (intOf i).toNat)
   case atStart=>exact ⟨0,Nat.zero_le _,rfl,rfl,WrTo.zero l,Below.refl _ _⟩
   case round =>
    obtain ⟨k,hk,rfl,rfl,hok,hb⟩:=hrel
    have HOK:=Lib.hid hok;clear hok
    by_cases hlt:k < n
    · have hc1:=(hb.cell (p:=⟨b,off+k*2,none⟩) hbs).trans (hc k hlt).1
      have hc2:=(hb.cell (p:=⟨b,off+k*2+1,none⟩) hbs).trans (hc k hlt).2
      have hz:=lastOf_bd HR.out k hk
      have hxb:=(HR.out.bd k hlt).1
      have HE:=Lib.hid (wrAt_last l k)
      have HB:=Lib.hid (writesB_bad l k (by rw [HL.out];exact hlt))
      have HLK:Hid (lastOf l (k+1)=(l.getD k (0,0)).1):=Lib.hid rfl
      clear hc
      obtain ⟨x,hx⟩:∃ x,x=(l.getD k (0,0)).1:=⟨_,rfl⟩
      obtain ⟨y,hy⟩:∃ y,y=(l.getD k (0,0)).2:=⟨_,rfl⟩
      obtain ⟨z,hzz⟩:∃ z,z=lastOf l k:=⟨_,rfl⟩
      rw [← hx] at hc1 hxb HLK
      rw [← hy] at hc2
      rw [← hx,← hy,← hzz] at HE
      rw [← hzz] at hz ⊢
      clear hx hy hzz
      cases e1:inB x 0 31 with
      | false =>
       have HF:=Lib.hid (HB.out (by rw [HE.out,e1];rfl))
       clear HE HB
       go_wp2_with (first | (go_at_call 161;refine (isKey_impl _ _).mono ?_;rintro e w' ⟨rfl,rfl⟩))
       go_ret
       exact ⟨by rw [HF.out];rfl,hb.alloc hb.size _⟩
      | true =>
       by_cases hle:x≤z
       · have hle':decide (x≤z)=true:=by simpa using hle
         have HF:=Lib.hid (HB.out (by rw [HE.out,e1];simp;omega))
         clear HE HB hle
         go_wp2_with (first | (go_at_call 161;refine (isKey_impl _ _).mono ?_;rintro e w' ⟨rfl,rfl⟩) | (go_at_call 162;refine (isValue_impl _ _).mono ?_;rintro e w' ⟨rfl,rfl⟩))
         go_ret
         exact ⟨by rw [HF.out];rfl,hb.alloc hb.size _⟩
       · have hle':decide (x≤z)=false:=by simpa using hle
         cases e2:inB y 0 1000000 with
         | false =>
          have HF:=Lib.hid (HB.out (by rw [HE.out,e2];simp))
          clear HE HB hle
          go_wp2_with (first | (go_at_call 161;refine (isKey_impl _ _).mono ?_;rintro e w' ⟨rfl,rfl⟩) | (go_at_call 162;refine (isValue_impl _ _).mono ?_;rintro e w' ⟨rfl,rfl⟩))
          go_ret
          exact ⟨by rw [HF.out];rfl,hb.alloc hb.size _⟩
         | true =>
          have HF:=Lib.hid (HOK.out.next (by rw [HE.out,e1,e2];simp;omega))
          clear HE HB hle
          go_wp2_with (first | (go_at_call 161;refine (isKey_impl _ _).mono ?_;rintro e w' ⟨rfl,rfl⟩) | (go_at_call 162;refine (isValue_impl _ _).mono ?_;rintro e w' ⟨rfl,rfl⟩))
          go_roundw
          case rel=>exact ⟨k+1,by omega,by go_num,by rw [HLK.out],HF.out,hb.alloc hb.size _⟩
          case measure=>simp [intOf];omega
    · have hs:writesB l=true:=(writesB_iff l).2 (fun j hj=>HOK.out j (by rw [HL.out] at hj;omega))
      have HF:=Lib.hid hs
      clear hc hs
      go_wp2
      go_ret
      exact ⟨by rw [HF.out];rfl,hb⟩
 · obtain rfl:n=0:=by omega
   obtain rfl:l=[]:=List.eq_nil_of_length_eq_zero HL.out
   clear hc
   go_enter Tryz.func197,Tryz.ntmps197
   go_wp2
   go_loop [3,8] (fun z i=>z = .int .i64 (-1)∧i = .int .i64 0) (fun _ _=>0)
   case atStart=>exact ⟨rfl,rfl⟩
   case round =>
    obtain ⟨rfl,rfl⟩:=hrel
    go_wp2
    go_ret
    exact ⟨rfl,Below.refl _ _⟩
end Go.Proofs.YtpnjgmgmakmgeaaGreat
