/- Texts of ours that stand together: ImplStore, ImplVals, ImplPut, ImplChanged -/
import Derived.Test.YtpnjgmgmakmgeaaGreatSpecS
import Derived.Test.YtpnjgmgmakmgeaaGreatCore
/- The contracts of the program's isKey,isValue,StoreValid. -/
namespace Go.Proofs.YtpnjgmgmakmgeaaGreat
open Go.RowKit
def BoolB (b:Bool) (w:World) (e:Ending) (w':World):Prop:=e = .returned (.bool b)∧Below w.heap.size w w'
def IntB (n:Int) (w:World) (e:Ending) (w':World):Prop:=e = .returned (.int .i64 n)∧Below w.heap.size w w'
theorem isKey_impl (n:Int) (w:World) :
  Calls Tryz.prog 161 #[.int .i64 n] w fun e w'=>e = .returned (.bool (inB n 0 31))∧w=w':=by
 by_cases h1:0≤n
 · by_cases h2:n≤31
   · rw [inB_yes h1 h2]
     go_enter Tryz.func161,Tryz.ntmps161
     go_wp2
     go_ret
     exact ⟨rfl,rfl⟩
   · rw [inB_no (by omega)]
     go_enter Tryz.func161,Tryz.ntmps161
     go_wp2
     go_ret
     exact ⟨rfl,rfl⟩
 · rw [inB_no (by omega)]
   go_enter Tryz.func161,Tryz.ntmps161
   go_wp2
   go_ret
   exact ⟨rfl,rfl⟩
theorem isValue_impl (n:Int) (w:World) :
  Calls Tryz.prog 162 #[.int .i64 n] w fun e w'=>e = .returned (.bool (inB n 0 1000000))∧w=w':=by
 by_cases h1:0≤n
 · by_cases h2:n≤1000000
   · rw [inB_yes h1 h2]
     go_enter Tryz.func162,Tryz.ntmps162
     go_wp2
     go_ret
     exact ⟨rfl,rfl⟩
   · rw [inB_no (by omega)]
     go_enter Tryz.func162,Tryz.ntmps162
     go_wp2
     go_ret
     exact ⟨rfl,rfl⟩
 · rw [inB_no (by omega)]
   go_enter Tryz.func162,Tryz.ntmps162
   go_wp2
   go_ret
   exact ⟨rfl,rfl⟩
def lastOf (l:List Ent):Nat→Int
 | 0=>-1
 | k+1=>(l.getD k (0,0)).1
theorem okAt_last (l:List Ent) (k:Nat):okAt l k=(inB (l.getD k (0,0)).1 0 31 && inB (l.getD k (0,0)).2 1 1000000 && decide (lastOf l k < (l.getD k (0,0)).1)):=by
 unfold okAt
 cases k with
 | zero =>
  by_cases h:0≤(l.getD 0 (0,0)).1
  · have e:decide (lastOf l 0 < (l.getD 0 (0,0)).1)=true:=by rw [decide_eq_true_eq];show (-1:Int) < _;omega
    rw [e];rfl
  · rw [inB_no (by omega)];simp
 | succ k=>simp [lastOf]
theorem lastOf_bd {l:List Ent} {n:Nat} {w:World} {a:Option Addr} (h:RowE w a n l) (k:Nat) (hk:k≤n) : -9223372036854775808≤lastOf l k∧lastOf l k≤9223372036854775807:=by
 cases k with
 | zero=>simp [lastOf]
 | succ k=>exact (h.bd k (by omega)).1
set_option maxHeartbeats 1000000 in
theorem storeValid_impl (a:Option Addr) (n cap:Nat) (l:List Ent) (w:World) (h:RowE w a n l) :
  Calls Tryz.prog 125 #[.slice a n cap] w (BoolB (storeB l) w):=by
 have HR:=Lib.hid h
 obtain ⟨hl,hm,hc,-⟩:=h
 unfold maxLen at hm
 have HL:=Lib.hid hl;clear hl
 by_cases h0:0 < n
 · obtain ⟨b,off,rfl,hcc⟩:=hc h0;clear hc;have hc:=hcc;clear hcc
   have hbs:b < w.heap.size:=World.block_lt_of_cell? w ⟨b,off+0*2,none⟩ (hc 0 h0).1
   go_enter Tryz.func125,Tryz.ntmps125
   go_wp2
   go_loopw [3,8] (fun z i wr=>∃ k:Nat,k≤n∧i = .int .i64 k∧z = .int .i64 (lastOf l k)∧OkTo l k∧Below w.heap.size w wr) (fun _ i _=>n - (intOf i).toNat)
   case atStart=>exact ⟨0,Nat.zero_le _,rfl,rfl,fun j hj=>absurd hj (Nat.not_lt_zero j),Below.refl _ _⟩
   case round =>
    obtain ⟨k,hk,rfl,rfl,hok,hb⟩:=hrel
    have HOK:=Lib.hid hok;clear hok
    by_cases hlt:k < n
    · have hc1:=(hb.cell (p:=⟨b,off+k*2,none⟩) hbs).trans (hc k hlt).1
      have hc2:=(hb.cell (p:=⟨b,off+k*2+1,none⟩) hbs).trans (hc k hlt).2
      have hz:=lastOf_bd HR.out k hk
      have hxb:=(HR.out.bd k hlt).1
      have HE:=Lib.hid (okAt_last l k)
      have HB:=Lib.hid (storeB_bad l k (by rw [HL.out];exact hlt))
      have HLK:Hid (lastOf l (k+1)=(l.getD k (0,0)).1):=Lib.hid rfl
      clear hc
      obtain ⟨x,hx⟩:∃ x,x=(l.getD k (0,0)).1:=⟨_,rfl⟩
      obtain ⟨y,hy⟩:∃ y,y=(l.getD k (0,0)).2:=⟨_,rfl⟩
      obtain ⟨z,hzz⟩:∃ z,z=lastOf l k:=⟨_,rfl⟩
      rw [← hx] at hc1 hxb HLK
      rw [← hy] at hc2
      rw [← hx,← hy,← hzz] at HE
      rw [← hzz] at hz ⊢
      clear hx hy hzz
      cases e1:inB x 0 31 with
      | false =>
       have HF:=Lib.hid (HB.out (by rw [HE.out,e1];rfl))
       clear HE HB
       go_wp2_with (first | (go_at_call 161;refine (isKey_impl _ _).mono ?_;rintro e w' ⟨rfl,rfl⟩))
       go_ret
       exact ⟨by rw [HF.out];rfl,hb.alloc hb.size _⟩
      | true =>
       by_cases hle:x≤z
       · have hle':decide (x≤z)=true:=by simpa using hle
         have HF:=Lib.hid (HB.out (by rw [HE.out,e1];simp;omega))
         clear HE HB hle
         go_wp2_with (first | (go_at_call 161;refine (isKey_impl _ _).mono ?_;rintro e w' ⟨rfl,rfl⟩) | (go_at_call 162;refine (isValue_impl _ _).mono ?_;rintro e w' ⟨rfl,rfl⟩))
         go_ret
         exact ⟨by rw [HF.out];rfl,hb.alloc hb.size _⟩
       · have hle':decide (x≤z)=false:=by simpa using hle
         cases e2:inB y 0 1000000 with
         | false =>
          have HF:=Lib.hid (HB.out (by rw [HE.out,inB_no (n:=y) (by have:=inB_false e2;omega)];simp))
          clear HE HB hle
          go_wp2_with (first | (go_at_call 161;refine (isKey_impl _ _).mono ?_;rintro e w' ⟨rfl,rfl⟩) | (go_at_call 162;refine (isValue_impl _ _).mono ?_;rintro e w' ⟨rfl,rfl⟩))
          go_ret
          exact ⟨by rw [HF.out];rfl,hb.alloc hb.size _⟩
         | true =>
          have h2:=inB_true e2
          by_cases hy0:y=0
          · have HF:=Lib.hid (HB.out (by rw [HE.out,inB_no (n:=y) (by omega)];simp))
            have hyb:(y == 0)=true:=by simpa using hy0
            clear HE HB hle hy0
            go_wp2_with (first | (go_at_call 161;refine (isKey_impl _ _).mono ?_;rintro e w' ⟨rfl,rfl⟩) | (go_at_call 162;refine (isValue_impl _ _).mono ?_;rintro e w' ⟨rfl,rfl⟩))
            go_ret
            exact ⟨by rw [HF.out];rfl,hb.alloc hb.size _⟩
          · have HF:=Lib.hid (HOK.out.next (by rw [HE.out,e1,inB_yes (n:=y) (by omega) h2.2];simp;omega))
            have hyb:(y == 0)=false:=by simpa using hy0
            clear HE HB hle hy0
            go_wp2_with (first | (go_at_call 161;refine (isKey_impl _ _).mono ?_;rintro e w' ⟨rfl,rfl⟩) | (go_at_call 162;refine (isValue_impl _ _).mono ?_;rintro e w' ⟨rfl,rfl⟩))
            go_roundw
            case rel=>exact ⟨k+1,by omega,by go_num,by rw [HLK.out],HF.out,hb.alloc hb.size _⟩
            case measure=>simp [intOf];omega
    · have hs:storeB l=true:=(storeB_iff l).2 (fun j hj=>HOK.out j (by rw [HL.out] at hj;omega))
      have HF:=Lib.hid hs
      clear hc hs
      go_wp2
      go_ret
      exact ⟨by rw [HF.out];rfl,hb⟩
 · obtain rfl:n=0:=by omega
   obtain rfl:l=[]:=List.eq_nil_of_length_eq_zero HL.out
   clear hc HR
   go_enter Tryz.func125,Tryz.ntmps125
   go_wp2
   go_loop [3,8] (fun z i=>i = .int .i64 0∧z = .int .i64 (-1)) (fun _ _=>0)
   case atStart=>exact ⟨rfl,rfl⟩
   case round =>
    obtain ⟨rfl,rfl⟩:=hrel
    go_wp2
    go_ret
    exact ⟨rfl,Below.refl _ _⟩
def ArrB (A:List Int) (b:Bool) (w:World) (e:Ending) (w':World):Prop:=e = .returned (.tuple #[.agg (cellsI A),.bool b])∧Below w.heap.size w w'
theorem infoArr:(Tryz.prog.info? 201).map (·.size)=some 32:=by kernel_rfl
def zeros:List Int:=List.replicate 32 0
theorem arrOf_nil':arrOf []=zeros:=arrOf_nil
def valsM (l:List Ent):List Int:=if storeB l then arrOf l else zeros
theorem valsM_len (l:List Ent):(valsM l).length=32:=by unfold valsM;split;exact arrOf_len l;rfl
set_option maxHeartbeats 1000000 in
theorem valuesOf_no (a:Option Addr) (n cap:Nat) (l:List Ent) (w:World) (h:RowE w a n l) (hs:storeB l=false) :
  Calls Tryz.prog 194 #[.slice a n cap] w (ArrB zeros false w):=by
 have HR:=Lib.hid h;clear h
 have HS:=Lib.hid hs;clear hs
 go_enter Tryz.func194,Tryz.ntmps194
 go_wp2_with fail
 refine (storeValid_impl a n cap l _ (HR.out.below (((Below.refl _ _).alloc (Nat.le_refl _) _).alloc (by simp) _))).mono ?_;rintro e w1 ⟨rfl,hb⟩
 rw [HS.out]
 have hA0:Arr w1 w.heap.size 201 zeros:=(((Arr.new w 201 zeros).alloc _).after hb)
 have hA1:Arr w1 (w.heap.size+1) 201 zeros:=by
  have:=(Arr.new (w.alloc (.cells (cellsI zeros) 201)) 201 zeros).after hb
  simpa using this
 have hB:Below w.heap.size w w1:=(((Below.refl _ _).alloc (Nat.le_refl _) _).alloc (by simp) _).trans (hb.mono (by simp;omega))
 clear hb
 go_wp2_with (first | (refine wpList_load_arr rfl _ _ rfl _ (by rfl) 201 zeros hA1 _ _ Tryz.underlying201 infoArr ?_) | (refine wpList_store_arr rfl _ _ _ rfl _ zeros (by rfl) (by rfl) 201 _ hA0 infoArr rfl ?_))
 exact bodyPost_ret (results_arr_slot Tryz.results194 _ (by rfl) (.bool false) (by rfl) (hA0.setRow zeros) _ _ Tryz.underlying201 infoArr) rfl ⟨rfl,below_setRow hB (Nat.le_refl _) _⟩
set_option maxHeartbeats 2000000 in
theorem valuesOf_yes (a:Option Addr) (n cap:Nat) (l:List Ent) (w:World) (h:RowE w a n l) (hs:storeB l=true) :
  Calls Tryz.prog 194 #[.slice a n cap] w (ArrB (arrOf l) true w):=by
 have HR:=Lib.hid h;clear h
 have HS:=Lib.hid hs;clear hs
 have hm:=HR.out.2.1
 unfold maxLen at hm
 go_enter Tryz.func194,Tryz.ntmps194
 go_wp2_with fail
 refine (storeValid_impl a n cap l _ (HR.out.below (((Below.refl _ _).alloc (Nat.le_refl _) _).alloc (by simp) _))).mono ?_;rintro e w1 ⟨rfl,hb⟩
 rw [HS.out]
 have hA0:Arr w1 w.heap.size 201 zeros:=(((Arr.new w 201 zeros).alloc _).after hb)
 have hA1:Arr w1 (w.heap.size+1) 201 zeros:=by
  have:=(Arr.new (w.alloc (.cells (cellsI zeros) 201)) 201 zeros).after hb
  simpa using this
 have hB:Below w.heap.size w w1:=(((Below.refl _ _).alloc (Nat.le_refl _) _).alloc (by simp) _).trans (hb.mono (by simp;omega))
 clear hb
 go_wp2
 go_loopw [6,13] (fun _ i wr=>∃ k:Nat,k≤n∧i = .int .i64 k∧Arr wr w.heap.size 201 zeros∧Arr wr (w.heap.size+1) 201 (arrOf (l.take k))∧Below w.heap.size w wr) (fun _ i _=>n - (intOf i).toNat)
 case atStart=>exact ⟨0,Nat.zero_le _,rfl,hA0,by simpa [arrOf_nil'] using hA1,hB⟩
 case round =>
  clear hA0 hA1 hB
  obtain ⟨k,hk,rfl,hA0,hA1,hB⟩:=hrel
  by_cases hlt:k < n
  · obtain ⟨b,off,rfl,hc⟩:=HR.out.2.2.1 (by omega)
    have hbs:b < w.heap.size:=World.block_lt_of_cell? w ⟨b,off+k*2,none⟩ (hc k hlt).1
    have hc1:=(hB.cell (p:=⟨b,off+k*2,none⟩) hbs).trans (hc k hlt).1
    have hc2:=(hB.cell (p:=⟨b,off+k*2+1,none⟩) hbs).trans (hc k hlt).2
    have hok:=okAt_bd ((storeB_iff l).1 HS.out k (by rw [HR.out.1];exact hlt))
    have HN:=Lib.hid (arrOf_take ((storeB_ok l).1 HS.out) k (by rw [HR.out.1];exact hlt))
    obtain ⟨x1,x2,-⟩:=hok
    clear hc
    obtain ⟨x,hx⟩:∃ x,x=(l.getD k (0,0)).1:=⟨_,rfl⟩
    obtain ⟨y,hy⟩:∃ y,y=(l.getD k (0,0)).2:=⟨_,rfl⟩
    rw [← hx] at hc1 x1 x2
    rw [← hy] at hc2
    rw [← hx,← hy] at HN
    clear hx hy
    obtain ⟨A,hA⟩:∃ A,A=arrOf (l.take k):=⟨_,rfl⟩
    have hAl:A.length=32:=by rw [hA,arrOf_len]
    rw [← hA] at hA1 HN
    clear hA
    obtain ⟨m,rfl⟩:∃ m:Nat,x=(m:Int):=⟨x.toNat,by omega⟩
    have hcA:=hA1.cell m (by omega)
    have hfA:=hA1.frozen m
    have hlt1:=hA1.lt
    go_wp2
    go_roundw
    case rel=>exact ⟨k+1,by omega,by go_num,(hA0.setOther _ _ (by simp)).alloc _,by rw [HN.out,Int.toNat_natCast];exact (hA1.set m y).alloc _,(hB.setCell (by simp) _).alloc (by rw [size_setCell];omega) _⟩
    case measure=>simp [intOf];omega
  · obtain rfl:k=n:=by omega
    have e:l.take k=l:=List.take_of_length_le (by rw [HR.out.1];omega)
    rw [e] at hA1
    have HL:=Lib.hid (arrOf_len l)
    clear e
    go_wp2_with (first | (refine wpList_load_arr rfl _ _ rfl _ (by rfl) 201 (arrOf l) hA1 _ _ Tryz.underlying201 (by rw [HL.out];exact infoArr) ?_) | (refine wpList_store_arr rfl _ _ _ rfl _ (arrOf l) (by rfl) (by rfl) 201 _ hA0 (by rw [HL.out];exact infoArr) (by rw [HL.out];rfl) ?_))
    exact bodyPost_ret (results_arr_slot Tryz.results194 _ (by rfl) (.bool true) (by rfl) (hA0.setRow (arrOf l)) _ _ Tryz.underlying201 (by rw [HL.out];exact infoArr)) rfl ⟨rfl,below_setRow hB (Nat.le_refl _) _⟩
theorem valuesOf_any (a:Option Addr) (n cap:Nat) (l:List Ent) (w:World) (h:RowE w a n l) :
  Calls Tryz.prog 194 #[.slice a n cap] w (ArrB (valsM l) (storeB l) w):=by
 cases hs:storeB l with
 | true=>rw [show valsM l=arrOf l by simp [valsM,hs]];exact valuesOf_yes a n cap l w h hs
 | false=>rw [show valsM l=zeros by simp [valsM,hs]];exact valuesOf_no a n cap l w h hs
theorem below_new {w w1 w2:World} {T:TypeId} {cs:Array Value} (hb:Below w.heap.size w w1) (hg:(w1.alloc (.cells cs T)).grownBy w2 (some w1.heap.size)):Below w.heap.size w w2 :=
 (hb.alloc hb.size _).grown hg (by have:=hb.size;simp;omega) (fun k hk=>by simp at hk;have:=hb.size;omega)
theorem valsM_get {l:List Ent} (hs:storeB l=true) (k:Nat) (hk:k < 32):(valsM l).getD k 0=atM l k:=by
 rw [show valsM l=arrOf l by simp [valsM,hs]];exact arrOf_get l k hk
theorem run_index_vals (A:List Int) (hl:A.length=32) (k:Nat) (hk:k < 32) (W:World) :
  (Instr.index 201 (.agg (cellsI A)) (.int .i64 (k:Int))).run Tryz.prog W = .ok (.int .i64 (A.getD k 0)) W :=
 run_index_arr (P:=Tryz.prog) W 201 32 3 _ Tryz.underlying201 Tryz.underlying3 rfl (by kernel_rfl) A hl k hk
def NewLN (w:World) (l:List Int) (e:Ending) (w':World):Prop :=
 ∃ v,e = .returned v∧w'.ownsRow w.heap.size 3 1 v l.length (l.map (Value.int .i64))∧(∀ x∈l,(Lit.int .i64 x).wf=true)∧Below w.heap.size w w'
end Go.Proofs.YtpnjgmgmakmgeaaGreat
