/- Texts of ours that stand together: TreeLeaf, TreeProof, TreeProofS, TreeLevels, TreeRoot -/
import Derived.Test.YtpnjgmgmakmgeaaGreatCore
import Derived.Test.YtpnjgmgmakmgeaaGreatTwo
import Derived.Test.YtpnjgmgmakmgeaaGreatOne
import Derived.Deep.RegionWith
import Derived.Test.YtpnjgmgmakmgeaaGreatConv
import Derived.RegionTactic
/- The contracts of LeafSum and of the sum of two,the program's and the model's. -/
namespace Go.Proofs.YtpnjgmgmakmgeaaGreat
open Go.RowKit
theorem rowI_lit2 (w:World) (T:TypeId) (a b:Int) (ha : -9223372036854775808≤a∧a≤9223372036854775807) (hb : -9223372036854775808≤b∧b≤9223372036854775807) :
  RowI (w.alloc (.cells #[.int .i64 a,.int .i64 b] T)) (some ⟨w.heap.size,0,none⟩) 2 [a,b]:=by
 refine ⟨rfl,by unfold maxLen;omega,fun _=>⟨w.heap.size,0,rfl,fun i hi=>?_⟩,?_⟩
 · rcases (by omega:i=0∨i=1) with rfl | rfl <;> simp [go_sem]
 · intro n hn
   simp only [List.mem_cons,List.not_mem_nil,or_false] at hn
   rcases hn with rfl | rfl
   · exact WalkArith.wf_i64 ha
   · exact WalkArith.wf_i64 hb
theorem all_two {a b:Int} (h0:0≤a) (h1:a≤2000000) (h2:0≤b) (h3:b≤2000000) : [a,b].all okSummed=true:=by
 simp only [List.all_cons,List.all_nil,okSummed,Bool.and_true,Bool.and_eq_true,decide_eq_true_eq];omega
theorem leafSum_impl (k v:Int) (w:World) :
  Calls Tryz.prog 199 #[.int .i64 k,.int .i64 v] w (IntB (leafM k v) w):=by
 cases e1:inB k 0 31 with
 | false =>
  have HF:=Lib.hid (leafM_no (k:=k) (v:=v) (by have:=inB_false e1;omega))
  go_enter Tryz.func199,Tryz.ntmps199
  go_wp2_with (first | (go_at_call 161;refine (isKey_impl _ _).mono ?_;rintro e w' ⟨rfl,rfl⟩))
  go_ret
  exact ⟨ret_int HF.out.symm,Below.refl _ _⟩
 | true =>
  cases e2:inB v 0 1000000 with
  | false =>
   have HF:=Lib.hid (leafM_no (k:=k) (v:=v) (by have:=inB_false e2;omega))
   go_enter Tryz.func199,Tryz.ntmps199
   go_wp2_with (first | (go_at_call 161;refine (isKey_impl _ _).mono ?_;rintro e w' ⟨rfl,rfl⟩) | (go_at_call 162;refine (isValue_impl _ _).mono ?_;rintro e w' ⟨rfl,rfl⟩))
   go_ret
   exact ⟨ret_int HF.out.symm,Below.refl _ _⟩
  | true =>
   have h1:=inB_true e1
   have h2:=inB_true e2
   have HF:=Lib.hid (leafM_in h1.1 h1.2 h2.1 h2.2)
   have HS:=Lib.hid (sumOfM_yes 1 [k,v] (by omega) (by omega) (all_two h1.1 (by omega) h2.1 (by omega)))
   go_enter Tryz.func199,Tryz.ntmps199
   go_wp2_with (first | (go_at_call 161;refine (isKey_impl _ _).mono ?_;rintro e w' ⟨rfl,rfl⟩) | (go_at_call 162;refine (isValue_impl _ _).mono ?_;rintro e w' ⟨rfl,rfl⟩) | (go_at_call 73;refine (sumOf_impl 1 _ 2 2 [k,v] _ (rowI_lit2 _ _ _ _ (by omega) (by omega))).mono ?_;rintro e w' ⟨rfl,rfl⟩))
   go_ret
   exact ⟨ret_int (by rw [HF.out,HS.out];rfl),(Below.refl _ _).alloc (Nat.le_refl _) _⟩
theorem pairSum_impl (a b:Int) (w:World) (h0:0≤a) (h1:a≤1000002) (h2:0≤b) (h3:b≤1000002) :
  Calls Tryz.prog 200 #[.int .i64 a,.int .i64 b] w (IntB (pairM a b) w):=by
 have HS:=Lib.hid (sumOfM_yes 2 [a,b] (by omega) (by omega) (all_two h0 (by omega) h2 (by omega)))
 go_enter Tryz.func200,Tryz.ntmps200
 go_wp2_with (first | (go_at_call 73;refine (sumOf_impl 2 _ 2 2 [a,b] _ (rowI_lit2 _ _ _ _ (by omega) (by omega))).mono ?_;rintro e w' ⟨rfl,rfl⟩))
 go_ret
 exact ⟨ret_int (by rw [HS.out];rfl),(Below.refl _ _).alloc (Nat.le_refl _) _⟩
theorem leafSum_spec (k v:Int) (w:World) :
  Calls Tryz.prog 179 #[.int .i64 k,.int .i64 v] w (IntB (leafM k v) w):=by
 cases e1:inB k 0 31 with
 | false =>
  have HF:=Lib.hid (leafM_no (k:=k) (v:=v) (by have:=inB_false e1;omega))
  go_enter Tryz.func179,Tryz.ntmps179
  go_wp2_with (first | (go_at_call 84;refine (l1In_spec _ _ _ _).mono ?_;rintro e w' ⟨rfl,rfl⟩))
  go_ret
  exact ⟨ret_int HF.out.symm,Below.refl _ _⟩
 | true =>
  cases e2:inB v 0 1000000 with
  | false =>
   have HF:=Lib.hid (leafM_no (k:=k) (v:=v) (by have:=inB_false e2;omega))
   go_enter Tryz.func179,Tryz.ntmps179
   go_wp2_with (first | (go_at_call 84;refine (l1In_spec _ _ _ _).mono ?_;rintro e w' ⟨rfl,rfl⟩))
   go_ret
   exact ⟨ret_int HF.out.symm,Below.refl _ _⟩
  | true =>
   have h1:=inB_true e1
   have h2:=inB_true e2
   have HF:=Lib.hid (leafM_in h1.1 h1.2 h2.1 h2.2)
   have HA:=Lib.hid (all_two h1.1 (by omega) h2.1 (by omega))
   go_enter Tryz.func179,Tryz.ntmps179
   go_wp2_with (first | (go_at_call 84;refine (l1In_spec _ _ _ _).mono ?_;rintro e w' ⟨rfl,rfl⟩) | (go_at_call 144;refine (l1Sum_any 1 _ 2 2 [k,v] _ (rowI_lit2 _ _ _ _ (by omega) (by omega)) (by omega) (by omega) HA.out).mono ?_;rintro e w' ⟨rfl,rfl⟩))
   go_ret
   exact ⟨ret_int (by rw [HF.out]),(Below.refl _ _).alloc (Nat.le_refl _) _⟩
theorem l3Node_spec (a b:Int) (w:World) (h0:0≤a) (h1:a≤1000002) (h2:0≤b) (h3:b≤1000002) :
  Calls Tryz.prog 181 #[.int .i64 a,.int .i64 b] w (IntB (pairM a b) w):=by
 have HA:=Lib.hid (all_two h0 (by omega) h2 (by omega))
 go_enter Tryz.func181,Tryz.ntmps181
 go_wp2_with (first | (go_at_call 144;refine (l1Sum_any 2 _ 2 2 [a,b] _ (rowI_lit2 _ _ _ _ (by omega) (by omega)) (by omega) (by omega) HA.out).mono ?_;rintro e w' ⟨rfl,rfl⟩))
 go_ret
 exact ⟨ret_int (by rfl),(Below.refl _ _).alloc (Nat.le_refl _) _⟩
theorem isSum_impl (n:Int) (w:World) :
  Calls Tryz.prog 134 #[.int .i64 n] w fun e w'=>e = .returned (.bool (inB n 0 1000002))∧w=w':=by
 by_cases h1:0≤n
 · by_cases h2:n≤1000002
   · rw [inB_yes h1 h2]
     have h3:decide (n < 1000003)=true:=by simp;omega
     go_enter Tryz.func134,Tryz.ntmps134
     go_wp2
     go_ret
     exact ⟨rfl,rfl⟩
   · rw [inB_no (by omega)]
     have h3:decide (n < 1000003)=false:=by simp;omega
     go_enter Tryz.func134,Tryz.ntmps134
     go_wp2
     go_ret
     exact ⟨rfl,rfl⟩
 · rw [inB_no (by omega)]
   go_enter Tryz.func134,Tryz.ntmps134
   go_wp2
   go_ret
   exact ⟨rfl,rfl⟩
def SumTo (l:List Int) (k:Nat):Prop:=∀ j,j < k→inB (l.getD j 0) 0 1000002=true
theorem SumTo.next {l:List Int} {k:Nat} (h:SumTo l k) (hk:inB (l.getD k 0) 0 1000002=true):SumTo l (k+1):=by
 intro j hj
 by_cases e:j=k
 · rw [e];exact hk
 · exact h j (by omega)
theorem div_pow_cast (q k:Nat):(q:Int) / 2 ^ k=((q / 2 ^ k:Nat):Int):=by
 rw [Int.natCast_ediv,Int.natCast_pow];rfl
def LvTo (l:List Ent) (A:List Int) (k:Nat):Prop:=∀ q,q < k→∀ j,j < 32 / 2 ^ q→A.getD (q*32+j) 0=nodeM l q j
def LvAt (l:List Ent) (A:List Int) (k m:Nat):Prop:=LvTo l A k∧∀ j,j < m→A.getD (k*32+j) 0=nodeM l k j
theorem lvAt_zero (l:List Ent) (A:List Int):LvAt l A 0 0:=⟨fun q hq=>absurd hq (Nat.not_lt_zero q),fun j hj=>absurd hj (Nat.not_lt_zero j)⟩
theorem LvAt.next {l:List Ent} {A:List Int} {k m:Nat} (h:LvAt l A k m) (hm:m < 32) (hl:A.length=192) (hk:k < 6):LvAt l (A.set (k*32+m) (nodeM l k m)) k (m+1):=by
 refine ⟨fun q hq j hj=>?_,fun j hj=>?_⟩
 · have hj':j < 32:=Nat.lt_of_lt_of_le hj (Nat.div_le_self _ _)
   rw [getD_set A _ _ _ (by omega),if_neg (by omega)]
   exact h.1 q hq j hj
 · rw [getD_set A _ _ _ (by omega)]
   by_cases e:j=m
   · rw [e,if_pos rfl]
   · rw [if_neg (by omega)];exact h.2 j (by omega)
theorem LvAt.level {l:List Ent} {A:List Int} {k:Nat} (h:LvAt l A k (32 / 2 ^ k)):LvAt l A (k+1) 0:=by
 refine ⟨fun q hq j hj=>?_,fun j hj=>absurd hj (Nat.not_lt_zero j)⟩
 by_cases e:q=k
 · subst e;exact h.2 j hj
 · exact h.1 q (by omega) j hj
theorem halves (k:Nat) (hk:k < 5):32 / 2 ^ k=2*(32 / 2 ^ (k+1))∧32 / 2 ^ (k+1)≤16:=by
 rcases (by omega:k=0∨k=1∨k=2∨k=3∨k=4) with rfl | rfl | rfl | rfl | rfl <;> decide
theorem half_cast (k:Nat):(32:Int) / 2 ^ (k+1)=((32 / 2 ^ (k+1):Nat):Int):=div_pow_cast 32 (k+1)
theorem nodeM_next (l:List Ent) (k j:Nat):nodeM l (k+1) j=pairM (nodeM l k (2*j)) (nodeM l k (2*j+1)):=rfl
def LevelsB (l:List Ent) (w:World) (e:Ending) (w':World):Prop :=
 ∃ A:List Int,e = .returned (.tuple #[.agg (cellsI A),.bool (storeB l)])∧A.length=192∧(storeB l=true→LvTo l A 6)∧Below w.heap.size w w'
def zeros192:List Int:=List.replicate 192 0
theorem infoLv:(Tryz.prog.info? 192).map (·.size)=some 192:=by kernel_rfl
set_option maxHeartbeats 4000000 in
theorem levelsOf_yes (a:Option Addr) (n cap:Nat) (l:List Ent) (w:World) (h:RowE w a n l) (hs:storeB l=true) :
  Calls Tryz.prog 192 #[.slice a n cap] w (LevelsB l w):=by
 have HR:=Lib.hid h;clear h
 have HS:=Lib.hid hs;clear hs
 have HAT:=Lib.hid (fun k (hk:k < 32)=>valsM_get HS.out k hk)
 go_enter Tryz.func192,Tryz.ntmps192
 go_wp2_with fail
 refine (valuesOf_any a n cap l _ (HR.out.below (((Below.refl _ _).alloc (Nat.le_refl _) _).alloc (by simp) _))).mono ?_;rintro e w1 ⟨rfl,hb⟩
 rw [HS.out]
 have hA0:Arr w1 w.heap.size 192 zeros192:=(((Arr.new w 192 zeros192).alloc _).after hb)
 have hA1:Arr w1 (w.heap.size+1) 192 zeros192:=by
  have:=(Arr.new (w.alloc (.cells (cellsI zeros192) 192)) 192 zeros192).after hb
  simpa using this
 have hB:Below w.heap.size w w1:=(((Below.refl _ _).alloc (Nat.le_refl _) _).alloc (by simp) _).trans (hb.mono (by simp;omega))
 clear hb
 have HL:=Lib.hid (valsM_len l)
 obtain ⟨V,hV⟩:∃ A,A=valsM l:=⟨_,rfl⟩
 rw [← hV] at HL HAT ⊢
 clear hV
 have hAV:=Arr.new w1 201 zeros
 have hlt1:=hA1.lt
 go_wp2_with (first | (refine wpList_store_arr' rfl _ _ _ rfl _ V (by rfl) (by rfl) 201 _ hAV (by rw [HL.out];exact infoArr) (by rw [HL.out];rfl) ?_;intro w2 hAV2 hg2 hz2;have hb2:=hB.trans ((below_new (Below.refl _ _) hg2).mono (by simpa using hB.size));have hA02:=(hA0.alloc (.cells (cellsI zeros) 201)).grown hg2 (by simp;omega);have hA12:=(hA1.alloc (.cells (cellsI zeros) 201)).grown hg2 (by simp;omega)) | (refine wpList_load_arr rfl _ _ rfl _ (by rfl) 201 V hAV2 _ _ Tryz.underlying201 (by rw [HL.out];exact infoArr) ?_))
 have hg1:w.heap.size+1 < w2.heap.size:=hA12.lt
 have hsz:=hb2.size
 clear hA0 hA1 hB hAV hlt1 hg2 hz2
 go_loopw [21] (fun i wr=>∃ (k:Nat) (A:List Int),k≤32∧i = .int .i64 k∧A.length=192∧LvAt l A 0 k∧Arr wr w.heap.size 192 zeros192∧Arr wr (w.heap.size+1) 192 A∧Below w.heap.size w wr) (fun i _=>32 - (intOf i).toNat)
 case atStart=>exact ⟨0,zeros192,by omega,rfl,rfl,lvAt_zero _ _,hA02,hA12,hb2⟩
 case round =>
  clear hA02 hA12 hb2 hAV2
  obtain ⟨k,A,hk,rfl,hAl,hLv,hA0,hA1,hb⟩:=hrel
  have HAl:=Lib.hid hAl
  have HLv:=Lib.hid hLv
  clear hAl hLv
  by_cases hlt:k < 32
  · have hix:=run_index_vals V HL.out k hlt
    have HX:=Lib.hid (HAT.out k hlt)
    have hN:=Lib.hid (HLv.out.next hlt HAl.out (by omega))
    obtain ⟨x,hx⟩:∃ x,x=V.getD k 0:=⟨_,rfl⟩
    rw [← hx] at hix HX
    clear hx
    go_wp2_with fail
    refine (leafSum_impl _ _ _).mono ?_;rintro e w3 ⟨rfl,hb3⟩
    have hA03:=hA0.after hb3
    have hA13:=hA1.after hb3
    have hbb:=hb.trans (hb3.mono hb.size)
    have hcA:=hA13.cell k (by rw [HAl.out];omega)
    have hfA:=hA13.frozen k
    clear hA0 hA1 hb hb3
    obtain ⟨y,hy⟩:∃ y,y=A.getD k 0:=⟨_,rfl⟩
    rw [← hy] at hcA
    clear hy
    obtain ⟨z,hz⟩:∃ z,z=leafM (k:Int) x:=⟨_,rfl⟩
    have HZ:Hid (nodeM l 0 k=z):=Lib.hid (by rw [hz,HX.out];rfl)
    rw [← hz]
    clear hz
    go_wp2
    go_roundw
    case rel=>exact ⟨k+1,A.set (0*32+k) z,by omega,by go_num,by rw [List.length_set];exact HAl.out,by rw [← HZ.out];exact hN.out,hA03.setOther _ _ (by simp),by rw [Nat.zero_mul,Nat.zero_add];exact hA13.set k z,hbb.setCell (by simp) _⟩
    case measure=>simp [intOf];omega
  · have HLv1 : Hid (LvAt l A (0 + 1) 0) := Lib.hid (LvAt.level (k := 0) (by have e : k = 32 := by omega
                                                                             subst e;exact HLv.out))
    clear HLv HAT HL
    go_wp2
    go_loopw [32] (fun i wr=>∃ (k:Nat) (A:List Int),k≤5∧i = .int .i64 k∧A.length=192∧LvAt l A (k+1) 0∧Arr wr w.heap.size 192 zeros192∧Arr wr (w.heap.size+1) 192 A∧Below w.heap.size w wr) (fun i _=>5 - (intOf i).toNat)
    case atStart=>exact ⟨0,A,by omega,rfl,HAl.out,HLv1.out,hA0,hA1,hb⟩
    case round =>
     clear hA0 hA1 hb HAl HLv1
     obtain ⟨k,A,hk,rfl,hAl,hLv,hA0,hA1,hb⟩:=hrel
     have HAl:=Lib.hid hAl
     have HLv:=Lib.hid hLv
     clear hAl hLv
     by_cases hlt:k < 5
     · have hk5:decide ((k:Int) < 5)=true:=by simp;omega
       obtain ⟨h2M,hM16⟩:=halves k hlt
       obtain ⟨M,hM⟩:∃ M,M=32 / 2 ^ (k+1):=⟨_,rfl⟩
       have hMc:(32:Int) / 2 ^ (k+1)=(M:Int):=by rw [hM];exact half_cast k
       rw [← hM] at h2M hM16
       have HM:=Lib.hid hM
       have H2M:=Lib.hid h2M
       clear hM h2M
       go_wp2
       clear hMc
       go_loopw [40] (fun i wr=>∃ (m:Nat) (A:List Int),m≤M∧i = .int .i64 m∧A.length=192∧LvAt l A (k+1) m∧Arr wr w.heap.size 192 zeros192∧Arr wr (w.heap.size+1) 192 A∧Below w.heap.size w wr) (fun i _=>M - (intOf i).toNat)
       case atStart=>exact ⟨0,A,by omega,rfl,HAl.out,HLv.out,hA0,hA1,hb⟩
       case round =>
        clear hA0 hA1 hb HAl HLv
        obtain ⟨m,A,hm,rfl,hAl,hLv,hA0,hA1,hb⟩:=hrel
        by_cases hlm:m < M
        · have hc1:=hA1.cell (k*32+2*m) (by omega)
          have hc2:=hA1.cell (k*32+(2*m+1)) (by omega)
          rw [hLv.1 k (by omega) (2*m) (by rw [H2M.out];omega)] at hc1
          rw [hLv.1 k (by omega) (2*m+1) (by rw [H2M.out];omega)] at hc2
          have hn1:=nodeM_bd HS.out k (2*m) (fun _=>by omega)
          have hn2:=nodeM_bd HS.out k (2*m+1) (fun _=>by omega)
          have HN:=Lib.hid (hLv.next (by omega) hAl (by omega))
          rw [nodeM_next] at HN
          obtain ⟨x,hx⟩:∃ x,x=nodeM l k (2*m):=⟨_,rfl⟩
          obtain ⟨y,hy⟩:∃ y,y=nodeM l k (2*m+1):=⟨_,rfl⟩
          rw [← hx] at hc1 hn1 HN
          rw [← hy] at hc2 hn2 HN
          clear hx hy
          have HAl:=Lib.hid hAl
          clear hAl hLv
          have hcd:=hA1.cell ((k+1)*32+m) (by rw [HAl.out];omega)
          obtain ⟨d,hd⟩:∃ d,d=A.getD ((k+1)*32+m) 0:=⟨_,rfl⟩
          rw [← hd] at hcd
          clear hd
          have hfA:=hA1.frozen ((k+1)*32+m)
          have hg1':=hA1.lt
          go_wp2_with fail
          have q1:0≤2*(m:Int):=by omega
          have q2:2*(m:Int) < 32:=by omega
          have q3:0≤2*(m:Int)+1:=by omega
          have q4:2*(m:Int)+1 < 32:=by omega
          have q5:0≤(k:Int)+1:=by omega
          have q6:(k:Int)+1 < 6:=by omega
          have q7:(m:Int) < 32:=by omega
          have u1:(2*(m:Int)).toNat=2*m:=by omega
          have u2:(2*(m:Int)+1).toNat=2*m+1:=by omega
          have u3:((k:Int)+1).toNat=k+1:=by omega
          have v1:IntKind.i64.wrap (2*(m:Int))=2*(m:Int):=IntWalk.i64_in _ (by omega)
          have v2:IntKind.i64.wrap (2*(m:Int)+1)=2*(m:Int)+1:=IntWalk.i64_in _ (by omega)
          have v3:IntKind.i64.wrap ((k:Int)+1)=(k:Int)+1:=IntWalk.i64_in _ (by omega)
          go_region_with (go_at_call 200;refine (pairSum_impl x y _ hn1.1 hn1.2 hn2.1 hn2.2).mono ?_;rintro e w3 ⟨rfl,hb3⟩;have hcd3:w3.cell? ⟨w.heap.size+1,(k+1)*32+m,none⟩=some (.int .i64 d):=(hb3.cell (p:=⟨w.heap.size+1,(k+1)*32+m,none⟩) hg1').trans hcd;have hfA3:w3.frozen? ⟨w.heap.size+1,(k+1)*32+m,none⟩=false:=(hb3.frozen (p:=⟨w.heap.size+1,(k+1)*32+m,none⟩) hg1').trans hfA;have hb3':Below wr.heap.size wr w3:=(Below.refl _ wr).drew.trans hb3)
          all_goals
           have hA03:=hA0.after hb3'
           have hA13:=(hA1.after hb3').set ((k+1)*32+m) (pairM x y)
           have hbf:=hb.trans (hb3'.mono hb.size)
           clear hA0 hA1 hb hb3 hb3' v1 v2 v3 u1 u2 u3 q1 q2 q3 q4 q5 q6 q7 hcd3 hfA3
           go_wp2
           go_roundw
           case rel=>exact ⟨m+1,A.set ((k+1)*32+m) (pairM x y),by omega,by go_num,by rw [List.length_set];exact HAl.out,HN.out,hA03.setOther _ _ (by simp),hA13,hbf.setCell (by simp) _⟩
           case measure=>simp [intOf];omega
        · obtain rfl:m=M:=by omega
          have HLv2:=Lib.hid hLv
          have HAl:=Lib.hid hAl
          clear hLv hAl
          go_wp2
          go_roundw
          case rel=>exact ⟨k+1,A,by omega,by go_num,HAl.out,LvAt.level (by rw [← HM.out];exact HLv2.out),hA0,hA1,hb⟩
          case measure=>simp [intOf];omega
     · obtain rfl:k=5:=by omega
       go_wp2_with (first | (refine wpList_load_arr rfl _ _ rfl _ (by rfl) 192 A hA1 _ _ Tryz.underlying192 (by rw [HAl.out];exact infoLv) ?_) | (refine wpList_store_arr rfl _ _ _ rfl _ A (by rfl) (by rfl) 192 _ hA0 (by rw [HAl.out];exact infoLv) (by rw [HAl.out];rfl) ?_))
       exact bodyPost_ret (results_arr_slot Tryz.results192 _ (by rfl) (.bool true) (by rfl) (hA0.setRow A) _ _ Tryz.underlying192 (by rw [HAl.out];exact infoLv)) rfl ⟨A,by rw [HS.out],HAl.out,fun _=>HLv.out.1,below_setRow hb (Nat.le_refl _) _⟩
set_option maxHeartbeats 1000000 in
theorem levelsOf_no (a:Option Addr) (n cap:Nat) (l:List Ent) (w:World) (h:RowE w a n l) (hs:storeB l=false) :
  Calls Tryz.prog 192 #[.slice a n cap] w (LevelsB l w):=by
 have HR:=Lib.hid h;clear h
 have HS:=Lib.hid hs;clear hs
 go_enter Tryz.func192,Tryz.ntmps192
 go_wp2_with fail
 refine (valuesOf_any a n cap l _ (HR.out.below (((Below.refl _ _).alloc (Nat.le_refl _) _).alloc (by simp) _))).mono ?_;rintro e w1 ⟨rfl,hb⟩
 rw [HS.out]
 have hA0:Arr w1 w.heap.size 192 zeros192:=(((Arr.new w 192 zeros192).alloc _).after hb)
 have hA1:Arr w1 (w.heap.size+1) 192 zeros192:=by
  have:=(Arr.new (w.alloc (.cells (cellsI zeros192) 192)) 192 zeros192).after hb
  simpa using this
 have hB:Below w.heap.size w w1:=(((Below.refl _ _).alloc (Nat.le_refl _) _).alloc (by simp) _).trans (hb.mono (by simp;omega))
 clear hb
 have HL:=Lib.hid (valsM_len l)
 obtain ⟨V,hV⟩:∃ A,A=valsM l:=⟨_,rfl⟩
 rw [← hV] at HL ⊢
 clear hV
 have hAV:=Arr.new w1 201 zeros
 have hlt1:=hA1.lt
 go_wp2_with (first | (refine wpList_store_arr' rfl _ _ _ rfl _ V (by rfl) (by rfl) 201 _ hAV (by rw [HL.out];exact infoArr) (by rw [HL.out];rfl) ?_;intro w2 hAV2 hg2 hz2;have hb2:=hB.trans ((below_new (Below.refl _ _) hg2).mono (by simpa using hB.size));have hA02:=(hA0.alloc (.cells (cellsI zeros) 201)).grown hg2 (by simp;omega);have hA12:=(hA1.alloc (.cells (cellsI zeros) 201)).grown hg2 (by simp;omega)) | (refine wpList_load_arr rfl _ _ rfl _ (by rfl) 192 zeros192 hA12 _ _ Tryz.underlying192 infoLv ?_) | (refine wpList_store_arr rfl _ _ _ rfl _ zeros192 (by rfl) (by rfl) 192 _ hA02 infoLv rfl ?_))
 exact bodyPost_ret (results_arr_slot Tryz.results192 _ (by rfl) (.bool false) (by rfl) (hA02.setRow zeros192) _ _ Tryz.underlying192 infoLv) rfl ⟨zeros192,by rw [HS.out],rfl,fun h=>(by rw [HS.out] at h;cases h),below_setRow hb2 (Nat.le_refl _) _⟩
theorem levelsOf_any (a:Option Addr) (n cap:Nat) (l:List Ent) (w:World) (h:RowE w a n l) :
  Calls Tryz.prog 192 #[.slice a n cap] w (LevelsB l w):=by
 cases hs:storeB l with
 | true=>exact levelsOf_yes a n cap l w h hs
 | false=>exact levelsOf_no a n cap l w h hs
theorem rootOf_impl (a:Option Addr) (n cap:Nat) (l:List Ent) (w:World) (h:RowE w a n l) :
  Calls Tryz.prog 185 #[.slice a n cap] w (IntB (rootM l) w):=by
 go_enter Tryz.func185,Tryz.ntmps185
 go_wp2_with fail
 refine (levelsOf_any a n cap l _ h).mono ?_;rintro e w1 ⟨A,rfl,hAl,hLv,hb⟩
 have hA0:=Arr.new w1 192 zeros192
 have HAl:=Lib.hid hAl
 have HLv:=Lib.hid hLv
 clear hAl hLv
 cases hs:storeB l with
 | false =>
  have HF:Hid (rootM l = -1):=Lib.hid (by simp [rootM,hs])
  go_wp2_with (first | (refine wpList_store_arr' rfl _ _ _ rfl _ A (by rfl) (by rfl) 192 _ hA0 (by rw [HAl.out];exact infoLv) (by rw [HAl.out];rfl) ?_;intro w2 hA2 hg2 hz2;have hb2:=below_new hb hg2;clear hg2))
  go_ret
  exact ⟨ret_int HF.out.symm,hb2⟩
 | true =>
  have HF:Hid (rootM l=A.getD (5*32+0) 0):=Lib.hid (by rw [HLv.out hs 5 (by omega) 0 (by decide)];simp [rootM,hs])
  clear hs
  go_wp2_with (first | (refine wpList_store_arr' rfl _ _ _ rfl _ A (by rfl) (by rfl) 192 _ hA0 (by rw [HAl.out];exact infoLv) (by rw [HAl.out];rfl) ?_;intro w2 hA2 hg2 hz2;have hb2:=below_new hb hg2;clear hg2;have hc:=hA2.cell 160 (by rw [HAl.out];omega)))
  go_ret
  exact ⟨ret_int HF.out.symm,hb2⟩
end Go.Proofs.YtpnjgmgmakmgeaaGreat
