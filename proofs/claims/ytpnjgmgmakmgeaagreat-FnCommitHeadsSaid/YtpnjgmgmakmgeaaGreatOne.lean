/- Texts of ours that stand together: ImplSum, SpecSum, Alive -/
import Derived.Test.YtpnjgmgmakmgeaaGreatCore
import Derived.WalkSpells
/- The contract of the program's SumOf. -/
namespace Go.Proofs.YtpnjgmgmakmgeaaGreat
open Go.RowKit
set_option maxHeartbeats 400000 in
theorem sumOf_impl (t:Int) (a:Option Addr) (len cap:Nat) (l:List Int) (w:World) (h:RowI w a len l) :
  Calls Tryz.prog 73 #[.int .i64 t,.slice a len cap] w fun e w'=>e = .returned (.int .i64 (sumOfM t l))∧w=w':=by
 by_cases ht:0≤t∧t≤9
 · obtain ⟨ht1,ht2⟩:=ht
   have hbd:=fun k hk=>h.bd k hk
   obtain ⟨hl,hm,hc,-⟩:=h
   unfold maxLen at hm
   have HL:=Lib.hid hl;clear hl
   by_cases h0:0 < len
   · obtain ⟨b,off,rfl,hcc⟩:=hc h0;clear hc;have hc:=hcc;clear hcc
     go_enter Tryz.func73,Tryz.ntmps73
     go_wp2
     go_loop [5,15] (fun s i=>∃ k:Nat,k≤len∧i = .int .i64 k∧s = .int .i64 (sumFold (17+t) (l.take k))∧(l.take k).all okSummed=true) (fun _ i=>len - (intOf i).toNat)
     case atStart=>exact ⟨0,Nat.zero_le _,rfl,by simp [sumFold],rfl⟩
     case round =>
      obtain ⟨k,hk,rfl,rfl,hall⟩:=hrel
      have hs:=sumFold_bd (17+t) (l.take k) (by omega) (by omega)
      by_cases hlt:k < len
      · have hck:=hc k hlt
        by_cases hn:0≤l.getD k 0∧l.getD k 0≤2000000
        · obtain ⟨hn1,hn2⟩:=hn
          have HA:=Lib.hid (all_snoc l k (by rw [HL.out];exact hlt) hall hn1 hn2)
          have HS:=Lib.hid (sumFold_snoc (17+t) (l.take k) (l.getD k 0));rw [← take_snoc l k (by rw [HL.out];exact hlt)] at HS
          clear hall hc hbd
          obtain ⟨n,hn⟩:∃ n,n=l.getD k 0:=⟨_,rfl⟩
          rw [← hn] at hck hn1 hn2 HS
          clear hn
          go_wp2
          go_round
          case rel=>exact ⟨k+1,by omega,by go_num,by rw [HS.out];rfl,HA.out⟩
          case measure=>simp [intOf];omega
        · have HB:=Lib.hid (sumOfM_bad t l k (by rw [HL.out];exact hlt) hn)
          obtain ⟨n,hn'⟩:∃ n,n=l.getD k 0:=⟨_,rfl⟩
          rw [← hn'] at hck hn
          clear hn' hall hc hbd
          by_cases hn1:0≤n
          · have hn2:¬ n≤2000000:=by omega
            clear hn
            go_wp2
            go_ret
            exact ⟨ret_int HB.out.symm,rfl⟩
          · clear hn
            go_wp2
            go_ret
            exact ⟨ret_int HB.out.symm,rfl⟩
      · have hkl:l.take k=l:=List.take_of_length_le (by rw [HL.out];omega)
        have HB:=Lib.hid (sumOfM_yes t l ht1 ht2 (by rw [hkl] at hall;exact hall))
        have HK:=Lib.hid hkl
        clear hall hc hbd hkl
        go_wp2
        go_ret
        exact ⟨ret_int (by rw [HB.out,HK.out]),rfl⟩
   · obtain rfl:len=0:=by omega
     have:l=[]:=List.eq_nil_of_length_eq_zero HL.out
     rw [sumOfM_yes t l ht1 ht2 (by rw [this];rfl)]
     subst this
     clear hc hbd
     show Calls _ _ _ _ fun e w'=>e = .returned (.int .i64 (17+t))∧w=w'
     go_enter Tryz.func73,Tryz.ntmps73
     go_wp2
     go_loop [5,15] (fun s i=>s = .int .i64 (17+t)∧i = .int .i64 0) (fun _ _=>0)
     case atStart=>exact ⟨rfl,rfl⟩
     case round =>
      obtain ⟨rfl,rfl⟩:=hrel
      go_wp2
      go_ret
      exact ⟨rfl,rfl⟩
 · rw [sumOfM_no t l ht]
   clear h
   by_cases ht1:0≤t
   · have ht2:¬ t≤9:=by omega
     clear ht
     go_enter Tryz.func73,Tryz.ntmps73
     go_wp2
     go_ret
     exact ⟨rfl,rfl⟩
   · clear ht
     go_enter Tryz.func73,Tryz.ntmps73
     go_wp2
     go_ret
     exact ⟨rfl,rfl⟩
set_option maxHeartbeats 400000 in
theorem l1Sum_any (t:Int) (a:Option Addr) (len cap:Nat) (l:List Int) (w:World) (h:RowI w a len l) (ht1:0≤t) (ht2:t≤9) (hall:l.all okSummed=true) :
  Calls Tryz.prog 144 #[.int .i64 t,.slice a len cap] w fun e w'=>e = .returned (.int .i64 (sumFold (17+t) l))∧w=w':=by
 obtain ⟨hl,hm,hc,-⟩:=h
 unfold maxLen at hm
 have HL:=Lib.hid hl;clear hl
 have HA:=Lib.hid hall;clear hall
 by_cases h0:0 < len
 · obtain ⟨b,off,rfl,hcc⟩:=hc h0;clear hc;have hc:=hcc;clear hcc
   go_enter Tryz.func144,Tryz.ntmps144
   go_wp2
   go_loop [5,6] (fun s i=>∃ k:Nat,k≤len∧i = .int .i64 k∧s = .int .i64 (sumFold (17+t) (l.take k))) (fun _ i=>len - (intOf i).toNat)
   case atStart=>exact ⟨0,Nat.zero_le _,rfl,by simp [sumFold]⟩
   case round =>
    obtain ⟨k,hk,rfl,rfl⟩:=hrel
    have hs:=sumFold_bd (17+t) (l.take k) (by omega) (by omega)
    by_cases hlt:k < len
    · have hck:=hc k hlt
      have hn:=all_bd l HA.out k (by rw [HL.out];exact hlt)
      have HS:=Lib.hid (sumFold_snoc (17+t) (l.take k) (l.getD k 0));rw [← take_snoc l k (by rw [HL.out];exact hlt)] at HS
      clear hc
      obtain ⟨n,hn'⟩:∃ n,n=l.getD k 0:=⟨_,rfl⟩
      rw [← hn'] at hck hn HS
      clear hn'
      go_wp2
      go_round
      case rel=>exact ⟨k+1,by omega,by go_num,by rw [HS.out];rfl⟩
      case measure=>simp [intOf];omega
    · have hkl:l.take k=l:=List.take_of_length_le (by rw [HL.out];omega)
      have HK:=Lib.hid hkl
      clear hc hkl
      go_wp2
      go_ret
      exact ⟨ret_int (by rw [HK.out]),rfl⟩
 · obtain rfl:len=0:=by omega
   obtain rfl:l=[]:=List.eq_nil_of_length_eq_zero HL.out
   clear hc
   go_enter Tryz.func144,Tryz.ntmps144
   go_wp2
   go_loop [5,6] (fun s i=>s = .int .i64 (17+t)∧i = .int .i64 0) (fun _ _=>0)
   case atStart=>exact ⟨rfl,rfl⟩
   case round =>
    obtain ⟨rfl,rfl⟩:=hrel
    go_wp2
    go_ret
    exact ⟨rfl,rfl⟩
set_option maxHeartbeats 400000 in
theorem sumOf_spec (t:Int) (a:Option Addr) (len cap:Nat) (l:List Int) (w:World) (h:RowI w a len l) :
  Calls Tryz.prog 172 #[.int .i64 t,.slice a len cap] w fun e w'=>e = .returned (.int .i64 (sumOfM t l))∧w=w':=by
 have HR:=Lib.hid h
 obtain ⟨hl,hm,hc,-⟩:=h
 unfold maxLen at hm
 have HL:=Lib.hid hl;clear hl
 have HN:=Lib.hid (sumOfM_no t l)
 by_cases h0:0 < len
 · obtain ⟨b,off,rfl,hcc⟩:=hc h0;clear hc;have hc:=hcc;clear hcc
   go_enter Tryz.func172,Tryz.ntmps172
   go_wp2
   go_loop [5] (fun i=>∃ k:Nat,k≤len∧i = .int .i64 k∧BdTo l k) (fun i=>len - (intOf i).toNat)
   case atStart=>exact ⟨0,Nat.zero_le _,rfl,fun j hj=>absurd hj (Nat.not_lt_zero j)⟩
   case round =>
    obtain ⟨k,hk,rfl,hall⟩:=hrel
    have HA:=Lib.hid hall;clear hall
    by_cases hlt:k < len
    · have hck:=hc k hlt
      by_cases hn:0≤l.getD k 0∧l.getD k 0≤2000000
      · have HN:=Lib.hid hn
        obtain ⟨hn1,hn2⟩:=hn
        clear hc
        obtain ⟨n,hn'⟩:∃ n,n=l.getD k 0:=⟨_,rfl⟩
        rw [← hn'] at hck hn1 hn2
        clear hn'
        go_wp2
        go_round
        case rel=>exact ⟨k+1,by omega,by go_num,fun j hj=>if h:j=k then by rw [h];exact HN.out else HA.out j (by omega)⟩
        case measure=>simp [intOf];omega
      · have HB:=Lib.hid (sumOfM_bad t l k (by rw [HL.out];exact hlt) hn)
        obtain ⟨n,hn'⟩:∃ n,n=l.getD k 0:=⟨_,rfl⟩
        rw [← hn'] at hck hn
        clear hn' hc
        by_cases hn1:0≤n
        · have hn2:¬ n≤2000000:=by omega
          clear hn
          go_wp2
          go_ret
          exact ⟨ret_int HB.out.symm,rfl⟩
        · clear hn
          go_wp2
          go_ret
          exact ⟨ret_int HB.out.symm,rfl⟩
    · have hall:l.all okSummed=true:=all_of_bd l (fun j hj=>HA.out j (by rw [HL.out] at hj;omega))
      have HC:=fun (a1:0≤t) (a2:t≤9) (w:World) (h:RowI w (some ⟨b,off,none⟩) len l)=>l1Sum_any t (some ⟨b,off,none⟩) len cap l w h a1 a2 hall
      have HB:=Lib.hid (fun h1 h2=>sumOfM_yes t l h1 h2 hall)
      have HC:=Lib.hid HC
      clear hall hc
      by_cases ht1:0≤t
      · by_cases ht2:t≤9
        · go_wp2_with (first | (go_at_call 144;refine (HC.out ht1 ht2 _ HR.out).mono ?_;rintro e w' ⟨rfl,rfl⟩) | go_in)
          go_ret
          exact ⟨ret_int (HB.out ht1 ht2).symm,rfl⟩
        · go_wp2
          go_ret
          exact ⟨ret_int (HN.out (by omega)).symm,rfl⟩
      · go_wp2
        go_ret
        exact ⟨ret_int (HN.out (by omega)).symm,rfl⟩
 · obtain rfl:len=0:=by omega
   obtain rfl:l=[]:=List.eq_nil_of_length_eq_zero HL.out
   have HC:=Lib.hid (fun (a1:0≤t) (a2:t≤9) (w:World) (h:RowI w a 0 [])=>l1Sum_any t a 0 cap [] w h a1 a2 rfl)
   have HB:=Lib.hid (fun h1 h2=>sumOfM_yes t [] h1 h2 rfl)
   clear hc
   go_enter Tryz.func172,Tryz.ntmps172
   go_wp2
   go_loop [5] (fun i=>i = .int .i64 0) (fun _=>0)
   case atStart=>rfl
   case round =>
    subst hrel
    by_cases ht1:0≤t
    · by_cases ht2:t≤9
      · go_wp2_with (first | (go_at_call 144;refine (HC.out ht1 ht2 _ HR.out).mono ?_;rintro e w' ⟨rfl,rfl⟩) | go_in)
        go_ret
        exact ⟨ret_int (HB.out ht1 ht2).symm,rfl⟩
      · go_wp2
        go_ret
        exact ⟨ret_int (HN.out (by omega)).symm,rfl⟩
    · go_wp2
      go_ret
      exact ⟨ret_int (HN.out (by omega)).symm,rfl⟩
theorem rowI_empty (w:World) (a:Option Addr):RowI w a 0 []:=⟨rfl,by unfold maxLen;omega,fun h=>absurd h (by omega),fun n hn=>by cases hn⟩
theorem alive_any (w:World):Calls Tryz.prog 18 #[] w (LawTrue w):=by
 go_enter Tryz.func18,Tryz.ntmps18
 go_wp2_with fail
 refine (sumOf_impl 0 _ 0 0 [] _ (rowI_empty _ _)).mono ?_;rintro e w' ⟨rfl,rfl⟩
 have e:sumOfM 0 []=17:=rfl
 rw [e];clear e
 go_wp2
 go_ret
 exact ⟨rfl,(Below.refl _ _).alloc (Nat.le_refl _) _⟩
end Go.Proofs.YtpnjgmgmakmgeaaGreat
