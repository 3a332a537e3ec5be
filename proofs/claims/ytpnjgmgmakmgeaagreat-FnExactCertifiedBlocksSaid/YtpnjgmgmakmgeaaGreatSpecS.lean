/- Texts of ours that stand together: SpecStore, SpecChanged -/
import Derived.Test.YtpnjgmgmakmgeaaGreatCore
/- The contracts of the model's StoreValid,ValueAt,StoreTotal. -/
namespace Go.Proofs.YtpnjgmgmakmgeaaGreat
open Go.RowKit
theorem l1In_spec (n lo hi:Int) (w:World) :
  Calls Tryz.prog 84 #[.int .i64 n,.int .i64 lo,.int .i64 hi] w fun e w'=>e = .returned (.bool (inB n lo hi))∧w'=w:=by
 by_cases h1:lo≤n
 · by_cases h2:n≤hi
   · rw [inB_yes h1 h2]
     go_enter Tryz.func84,Tryz.ntmps84
     go_wp2
     go_ret
     exact ⟨rfl,rfl⟩
   · rw [inB_no (by omega)]
     go_enter Tryz.func84,Tryz.ntmps84
     go_wp2
     go_ret
     exact ⟨rfl,rfl⟩
 · rw [inB_no (by omega)]
   go_enter Tryz.func84,Tryz.ntmps84
   go_wp2
   go_ret
   exact ⟨rfl,rfl⟩
set_option maxHeartbeats 1000000 in
theorem storeValid_spec (a:Option Addr) (n cap:Nat) (l:List Ent) (w:World) (h:RowE w a n l) :
  Calls Tryz.prog 83 #[.slice a n cap] w (BoolQ (storeB l) w):=by
 obtain ⟨hl,hm,hc,-⟩:=h
 unfold maxLen at hm
 have HL:=Lib.hid hl;clear hl
 by_cases h0:0 < n
 · obtain ⟨b,off,rfl,hcc⟩:=hc h0;clear hc;have hc:=hcc;clear hcc
   go_enter Tryz.func83,Tryz.ntmps83
   go_wp2
   go_loopw [3] (fun i wr=>∃ k:Nat,k≤n∧i = .int .i64 k∧OkTo l k∧Drawn w wr) (fun i _=>n - (intOf i).toNat)
   case atStart=>exact ⟨0,Nat.zero_le _,rfl,fun j hj=>absurd hj (Nat.not_lt_zero j),Drawn.refl _⟩
   case round =>
    obtain ⟨k,hk,rfl,hok,hd⟩:=hrel
    have HOK:=Lib.hid hok;clear hok
    by_cases hlt:k < n
    · have hc1:=(hd.cell _).trans (hc k hlt).1
      have hc2:=(hd.cell _).trans (hc k hlt).2
      have hcp:0 < k→wr.cell? ⟨b,off+(k - 1)*2,none⟩=some (.int .i64 (l.getD (k - 1) (0,0)).1):=fun _=>(hd.cell _).trans (hc (k - 1) (by omega)).1
      have HE:Hid (okAt l k=(inB (l.getD k (0,0)).1 0 31 && inB (l.getD k (0,0)).2 1 1000000 && (k == 0 || decide ((l.getD (k - 1) (0,0)).1 < (l.getD k (0,0)).1)))):=Lib.hid rfl
      have HB:=Lib.hid (storeB_bad l k (by rw [HL.out];exact hlt))
      clear hc
      obtain ⟨x,hx⟩:∃ x,x=(l.getD k (0,0)).1:=⟨_,rfl⟩
      obtain ⟨y,hy⟩:∃ y,y=(l.getD k (0,0)).2:=⟨_,rfl⟩
      obtain ⟨z,hz⟩:∃ z,z=(l.getD (k - 1) (0,0)).1:=⟨_,rfl⟩
      rw [← hx] at hc1
      rw [← hy] at hc2
      rw [← hx,← hy] at HE
      rw [← hz] at hcp HE
      clear hx hy hz
      cases e1:inB x 0 31 with
      | false =>
       have HF:=Lib.hid (HB.out (by rw [HE.out,e1];rfl))
       clear HE HB hcp hc2
       go_wp2
       go_quiet ((go_at_call 84;exact Calls.quiet_of_same (l1In_spec _ _ _ _)))
       go_wp2
       go_ret
       exact ⟨by rw [HF.out];rfl,hd.drewN _⟩
      | true =>
       cases e2:inB y 1 1000000 with
       | false =>
        have HF:=Lib.hid (HB.out (by rw [HE.out,e1,e2];rfl))
        clear HE HB hcp
        go_wp2
        go_quiet ((go_at_call 84;exact Calls.quiet_of_same (l1In_spec _ _ _ _)))
        go_wp2
        go_ret
        exact ⟨by rw [HF.out];rfl,hd.drewN _⟩
       | true =>
        by_cases hk0:0 < k
        · have hcp:=hcp hk0
          have hk1:(k == 0)=false:=by simp;omega
          have ek:IntKind.i64.wrap ((k:Int) - 1)=((k - 1:Nat):Int):=by rw [IntWalk.i64_in _ (by omega)];omega
          have hkz:decide ((0:Int) < (k:Int))=true:=by simp;omega
          by_cases hle:x≤z
          · have hle':decide (x≤z)=true:=by simpa using hle
            have HF:=Lib.hid (HB.out (by rw [HE.out,e1,e2,hk1];simp;omega))
            clear HE HB hk1 hle
            go_wp2
            go_quiet ((go_at_call 84;exact Calls.quiet_of_same (l1In_spec _ _ _ _)))
            go_wp2
            go_ret
            exact ⟨by rw [HF.out];rfl,hd.drewN _⟩
          · have hle':decide (x≤z)=false:=by simpa using hle
            have HF:=Lib.hid (HOK.out.next (by rw [HE.out,e1,e2,hk1];simp;omega))
            clear HE HB hk1 hle
            go_wp2
            go_quiet ((go_at_call 84;exact Calls.quiet_of_same (l1In_spec _ _ _ _)))
            go_wp2
            go_roundw
            case rel=>exact ⟨k+1,by omega,by go_num,HF.out,hd.drewN _⟩
            case measure=>simp [intOf];omega
        · obtain rfl:k=0:=by omega
          have HF:=Lib.hid (HOK.out.next (by rw [HE.out,e1,e2];rfl))
          clear HE HB hcp
          simp only [Nat.zero_mul,Nat.add_zero] at hc1 hc2
          go_wp2
          go_quiet ((go_at_call 84;exact Calls.quiet_of_same (l1In_spec _ _ _ _)))
          go_wp2
          go_roundw
          case rel=>exact ⟨1,by omega,by go_num,HF.out,hd.drewN _⟩
          case measure=>simp [intOf];omega
    · have hs:storeB l=true:=(storeB_iff l).2 (fun j hj=>HOK.out j (by rw [HL.out] at hj;omega))
      have HF:=Lib.hid hs
      clear hc hs
      go_wp2
      go_ret
      exact ⟨by rw [HF.out];rfl,hd⟩
 · obtain rfl:n=0:=by omega
   obtain rfl:l=[]:=List.eq_nil_of_length_eq_zero HL.out
   clear hc
   go_enter Tryz.func83,Tryz.ntmps83
   go_wp2
   go_loop [3] (fun i=>i = .int .i64 0) (fun _=>0)
   case atStart=>rfl
   case round =>
    subst hrel
    go_wp2
    go_ret
    exact ⟨rfl,Drawn.refl _⟩
set_option maxHeartbeats 1000000 in
theorem l2At_spec (a:Option Addr) (n cap:Nat) (l:List Ent) (key:Int) (w:World) (h:RowE w a n l) :
  Calls Tryz.prog 180 #[.slice a n cap,.int .i64 key] w fun e w'=>e = .returned (.int .i64 (atM l key))∧w=w':=by
 obtain ⟨hl,hm,hc,-⟩:=h
 unfold maxLen at hm
 have HL:=Lib.hid hl;clear hl
 by_cases h0:0 < n
 · obtain ⟨b,off,rfl,hcc⟩:=hc h0;clear hc;have hc:=hcc;clear hcc
   go_enter Tryz.func180,Tryz.ntmps180
   go_wp2
   go_loop [5] (fun i=>∃ k:Nat,k≤n∧i = .int .i64 k∧Absent l key k) (fun i=>n - (intOf i).toNat)
   case atStart=>exact ⟨0,Nat.zero_le _,rfl,Absent.zero _ _⟩
   case round =>
    obtain ⟨k,hk,rfl,hab⟩:=hrel
    have HA:=Lib.hid hab;clear hab
    by_cases hlt:k < n
    · obtain ⟨hc1,hc2⟩:=hc k hlt
      have HH:=Lib.hid (atM_hit l key k (by rw [HL.out];exact hlt) HA.out)
      have HN:=Lib.hid (fun h=>Absent.next HA.out h)
      clear hc
      obtain ⟨x,hx⟩:∃ x,x=(l.getD k (0,0)).1:=⟨_,rfl⟩
      obtain ⟨y,hy⟩:∃ y,y=(l.getD k (0,0)).2:=⟨_,rfl⟩
      rw [← hx] at hc1 HH HN
      rw [← hy] at hc2 HH
      clear hx hy
      by_cases he:x=key
      · have HH2:=Lib.hid (HH.out he)
        subst he
        go_wp2
        go_ret
        exact ⟨ret_int HH2.out.symm,rfl⟩
      · have HN2:=Lib.hid (HN.out he)
        have hb:(x == key)=false:=by simpa using he
        clear he
        go_wp2
        go_round
        case rel=>exact ⟨k+1,by omega,by go_num,HN2.out⟩
        case measure=>simp [intOf];omega
    · have HM:=Lib.hid (atM_miss l key (by rw [HL.out,show n=k by omega];exact HA.out))
      clear hc
      go_wp2
      go_ret
      exact ⟨ret_int HM.out.symm,rfl⟩
 · obtain rfl:n=0:=by omega
   obtain rfl:l=[]:=List.eq_nil_of_length_eq_zero HL.out
   clear hc
   go_enter Tryz.func180,Tryz.ntmps180
   go_wp2
   go_loop [5] (fun i=>i = .int .i64 0) (fun _=>0)
   case atStart=>rfl
   case round =>
    subst hrel
    go_wp2
    go_ret
    exact ⟨rfl,rfl⟩
theorem infoEnt:(Tryz.prog.info? 142).map (fun i=>(i.zero,i.size,i.bytes))=some (some (.agg #[.int .i64 0,.int .i64 0]),2,16):=by kernel_rfl
theorem infoIntC:(Tryz.prog.info? 3).map (fun i=>(i.zero,i.size,i.bytes))=some (some (.int .i64 0),1,8):=by kernel_rfl
def NewL (w:World) (e0:TypeId) (l:List Int) (e:Ending) (w':World):Prop :=
 ∃ v,e = .returned v∧Own w' w.heap.size e0 1 v l.length (l.map (Value.int .i64))∧(∀ x∈l,(Lit.int .i64 x).wf=true)∧Below w.heap.size w w'
end Go.Proofs.YtpnjgmgmakmgeaaGreat
