/- Texts of ours that stand together: TreeSpec, TreeSpec2 -/
import Derived.Test.YtpnjgmgmakmgeaaGreatTree
import Derived.Test.YtpnjgmgmakmgeaaGreatConv
import Derived.StillTailTactics
import Derived.Deep.RegionLaw
/- The contracts of the model's l3Level,RootOf and ProofOf. -/
namespace Go.Proofs.YtpnjgmgmakmgeaaGreat
open Go.RowKit
theorem step_append_one {P:Program} {W:World} {ops:Array Oper} {o:Oper} {a:Act} {K:Act→World→Prop} {Q:Exit→Act→World→Prop} {E:Prop} (hgd:o.guard=none) (s x:Operand) (t:TypeId)
  (ho:o.op = .call { callee:=.builtin .append,args:=#[s,x],argTypes:=#[t,t] })
  (B:Nat) (e e':TypeId) (z:Value) (size bytes:Nat) (ht:P.underlying t=some (.slice e)) (hinfo:(P.info? e).map (fun i=>(i.zero,i.size,i.bytes))=some (some z,size,bytes))
  (hzs:z.cells.size=size) (hsz:0 < size)
  (v:Value) (n:Nat) (xs news:List Value) (hs:a.eval s=v) (hown:W.ownsRow B e size v n xs) (hx:a.eval x = .slice (some ⟨W.heap.size,0,none⟩) 1 1)
  (hl:news.length=size) (h1:∀ u∈news,u.oneCell'=true)
  (hn:n≤4000000) (hby:bytes≤100000) (hbase:B≤W.heap.size)
  (h:∀ v' w',w'.ownsRow B e size v' (n+1) (xs++news)→v'≠.slice none 0 0→(W.alloc (.cells news.toArray e')).grownBy w' v.ownBlock→K (a.put o.dst v') w') :
  if Region.wanted o (yielded ops a.tmps)=true then Oper.wp P o a (W.alloc (.cells news.toArray e')) K Q else E:=by
 have hw:Region.wanted o (yielded ops a.tmps)=true:=by simp [Region.wanted,hgd]
 rw [if_pos hw]
 obtain ⟨i0,hi,hz0,hz1,hz2⟩:=info_parts hinfo
 refine wp_append_own (W.alloc (.cells news.toArray e')) s x t ho B e i0 z size bytes ht hi hz0 hz1 hz2 hzs hsz v n xs hs (hown.alloc _) ⟨W.heap.size,0,none⟩ 1 1 news hx (by rw [hl,Nat.one_mul]) ?_ h1 (by unfold maxLen;omega) ?_ (by simp;omega) ?_
 · intro j u hu
   rw [show (⟨W.heap.size,0,none⟩:Addr).add j=⟨W.heap.size,j,none⟩ by unfold Addr.add;split <;> simp_all]
   rw [cell_of_row (W.alloc (.cells news.toArray e')) W.heap.size j news.toArray e' (0,0) (heap_alloc_new W _)]
   rw [List.getElem?_toArray];exact hu
 · calc (n+1)*bytes≤4000001*100000:=Nat.mul_le_mul (by omega) hby
    _≤140737488355328:=by decide
 · intro v' w' h2 h3 h4
   exact h v' w' h2 (fun e=>by have:=(h4.1 e).2;omega) h3
def lvRow (l:List Ent) (q k:Nat):List Int:=(List.range k).map (nodeM l q)
theorem lvRow_len (l:List Ent) (q k:Nat):(lvRow l q k).length=k:=by simp [lvRow]
theorem lvRow_next (l:List Ent) (q k:Nat):lvRow l q (k+1)=lvRow l q k++[nodeM l q k]:=by simp [lvRow,List.range_succ]
theorem lvRow_get (l:List Ent) (q k j:Nat) (h:j < k):(lvRow l q k).getD j 0=nodeM l q j:=by
 unfold lvRow
 rw [List.getD_eq_getElem?_getD,List.getElem?_map,List.getElem?_range h];rfl
theorem lvRow_wf {l:List Ent} (h:storeB l=true) (q k:Nat) (hk:k≤32):∀ x∈lvRow l q k,(Lit.int .i64 x).wf=true:=by
 intro x hx
 obtain ⟨j,hj,rfl⟩:=List.mem_map.1 hx
 have:=nodeM_bd h q j (fun _=>by have:=List.mem_range.1 hj;omega)
 exact WalkArith.wf_i64 (by omega)
set_option maxRecDepth 100000 in
set_option maxHeartbeats 4000000 in
theorem l3Level_spec (a:Option Addr) (n cap:Nat) (l:List Ent) (lev:Nat) (w:World) (h:RowE w a n l) (hs:storeB l=true) (hlev:lev≤5) :
  Calls Tryz.prog 170 #[.slice a n cap,.int .i64 lev] w (NewL w 3 (levelL l lev)):=by
 have HR:=Lib.hid h;clear h
 have HS:=Lib.hid hs;clear hs
 have hnil:Own (w.alloc (.cells #[] 3)) w.heap.size 3 1 (.slice (some ⟨w.heap.size,0,none⟩) 0 0) 0 []:=own_lit 3 1 #[] 0 (Nat.le_refl _) (by simp) rfl
 have hb0:=(Below.refl w.heap.size w).alloc (Nat.le_refl _) (.cells #[] 3)
 go_enter Tryz.func170,Tryz.ntmps170
 go_wp2
 go_loopw [5,6] (fun v i wr=>∃ k:Nat,k≤32∧i = .int .i64 k∧Own wr w.heap.size 3 1 v k ((lvRow l 0 k).map (Value.int .i64))∧Below w.heap.size w wr) (fun _ i _=>32 - (intOf i).toNat)
 case atStart=>exact ⟨0,by omega,rfl,hnil,hb0⟩
 case round =>
  obtain ⟨k,hk,rfl,hown,hb⟩:=hrel
  clear hnil hb0
  by_cases hlt:k < 32
  · have hkb:decide ((k:Int)≤31)=true:=by simp;omega
    have HX:=Lib.hid (lvRow_next l 0 k)
    go_wp2_with fail
    refine (l2At_spec a n cap l k _ (HR.out.below hb)).mono ?_;rintro e w' ⟨rfl,rfl⟩
    go_wp2_with fail
    refine (leafSum_spec _ _ _).mono ?_;rintro e w3 ⟨rfl,hb3⟩
    have hown3:=hown.below hb3
    have hbb:=hb.trans (hb3.mono hb.size)
    obtain ⟨x,hx⟩:∃ x,x=leafM (k:Int) (atM l k):=⟨_,rfl⟩
    have HX2:Hid (nodeM l 0 k=x):=Lib.hid (by rw [hx];rfl)
    rw [← hx]
    clear hx hown hb3 hb
    go_wp2_with (at_builtin;refine wpList_append_one rfl _ _ 25 rfl w.heap.size 3 _ (.int .i64 0) 1 8 Tryz.underlying25 infoIntC rfl (by decide) _ _ _ [.int .i64 x] (by rfl) hown3 (by rfl) rfl ?c11 ?c21 (by decide) ?c31 ?_)
    case c11=>intro u hu;simp at hu;subst hu;rfl
    case c21=>omega
    case c31=>exact hbb.size
    intro v1 w5 ho1' hg1
    have hb5:Below w.heap.size w w5:=(hbb.alloc hbb.size _).grown hg1 (by have:=hbb.size;simp;omega) (fun k hk=>(hown3.1.lt k hk).1)
    clear hg1
    go_wp2
    go_roundw
    case rel=>exact ⟨k+1,by omega,by go_num,by rw [HX.out,HX2.out,List.map_append];exact ho1',hb5⟩
    case measure=>simp [intOf];omega
  · have hkb:decide ((k:Int)≤31)=false:=by simp;omega
    have e:k=32:=by omega
    have HO:Hid (Own wr w.heap.size 3 1 u5 (32 / 2 ^ 0) ((lvRow l 0 (32 / 2 ^ 0)).map (Value.int .i64))):=Lib.hid (by subst e;exact hown)
    clear hown
    go_wp2
    go_loopw [5,7] (fun v i wr=>∃ k:Nat,k≤lev∧i = .int .i64 k∧Own wr w.heap.size 3 1 v (32 / 2 ^ k) ((lvRow l k (32 / 2 ^ k)).map (Value.int .i64))∧Below w.heap.size w wr) (fun _ i _=>lev - (intOf i).toNat)
    case atStart=>exact ⟨0,by omega,rfl,HO.out,hb⟩
    case round =>
     clear hb HO hkb hlt hk e
     obtain ⟨q,hq,rfl,hown,hb⟩:=hrel
     obtain ⟨wo,hwo⟩:∃ wo,wo=wr:=⟨wr,rfl⟩
     subst hwo
     have hsz:=hb.size
     by_cases hlt:q < lev
     · have hq5:q < 5:=by omega
       obtain ⟨h2M,hM16⟩:=halves q hq5
       obtain ⟨M,hM⟩:∃ M,M=32 / 2 ^ (q+1):=⟨_,rfl⟩
       rw [← hM] at h2M hM16
       have HM:=Lib.hid hM
       rw [h2M] at hown
       have hgt:=fun j hj=>lvRow_get l q (2*M) j hj
       have hwf:=lvRow_wf HS.out q (2*M) (by omega)
       have hln:=lvRow_len l q (2*M)
       obtain ⟨R,hR⟩:∃ R,R=lvRow l q (2*M):=⟨_,rfl⟩
       rw [← hR] at hown hgt hwf hln
       clear hR hM h2M
       obtain ⟨L,hL⟩:∃ L,L=2*M:=⟨_,rfl⟩
       rw [← hL] at hown hln hgt
       have hL1:L≤2*M:=by omega
       have hL2:2*M≤L:=by omega
       have HLN:=Lib.hid hln
       have HGT:=Lib.hid hgt
       obtain ⟨g,c,rfl,hg1,hg2,hrow⟩:=rowI_of_own (l:=R) (by rw [hln];exact hown) (by omega) hwf
       rw [HLN.out] at hrow ⊢
       have hown8:Own (wo.alloc (.cells #[] 3)) wo.heap.size 3 1 (.slice (some ⟨wo.heap.size,0,none⟩) 0 0) 0 []:=own_lit 3 1 #[] 0 (Nat.le_refl _) (by simp) rfl
       have hb8:=(Below.refl wo.heap.size wo).alloc (Nat.le_refl _) (.cells #[] 3)
       clear hL hln hgt hwf hown
       go_wp2
       go_loopw [8,9] (fun v j wr=>∃ m:Nat,m≤M∧j = .int .i64 (2*(m:Int))∧Own wr wo.heap.size 3 1 v m ((lvRow l (q+1) m).map (Value.int .i64))∧Below wo.heap.size wo wr) (fun _ j _=>L - (intOf j).toNat)
       case atStart=>exact ⟨0,by omega,rfl,hown8,hb8⟩
       case round =>
        clear hown8 hb8
        obtain ⟨m,hm,rfl,hown,hbi⟩:=hrel
        by_cases hlm:m < M
        · obtain ⟨b',off',he,hcc⟩:=(hrow.below hbi).2.2.1 (by omega)
          simp at he
          obtain ⟨rfl,rfl⟩:=he
          have hc1:=hcc (2*m) (by omega)
          have hc2:=hcc (2*m+1) (by omega)
          rw [Nat.zero_add,HGT.out _ (by omega)] at hc1 hc2
          have hn1:=nodeM_bd HS.out q (2*m) (fun _=>by omega)
          have hn2:=nodeM_bd HS.out q (2*m+1) (fun _=>by omega)
          have HN:=Lib.hid (lvRow_next l (q+1) m)
          rw [nodeM_next] at HN
          obtain ⟨x,hx⟩:∃ x,x=nodeM l q (2*m):=⟨_,rfl⟩
          obtain ⟨y,hy⟩:∃ y,y=nodeM l q (2*m+1):=⟨_,rfl⟩
          rw [← hx] at hc1 hn1 HN
          rw [← hy] at hc2 hn2 HN
          have q1:0≤2*(m:Int):=by omega
          have q2:2*(m:Int) < (L:Int):=by omega
          have q3:0≤2*(m:Int)+1:=by omega
          have q4:2*(m:Int)+1 < (L:Int):=by omega
          have q5:decide (2*(m:Int)+1 < (L:Int))=true:=by simpa using q4
          have u1:(2*(m:Int)).toNat=2*m:=by omega
          have u2:(2*(m:Int)+1).toNat=2*m+1:=by omega
          have v2:IntKind.i64.wrap (2*(m:Int)+1)=2*(m:Int)+1:=IntWalk.i64_in _ (by omega)
          clear hx hy hcc
          go_wp2_with fail
          have hsz2:=hbi.size
          go_region_law (first | (refine step_append_one rfl (.tmp 36) (.tmp 47) 25 rfl wo.heap.size 3 _ (.int .i64 0) 1 8 Tryz.underlying25 infoIntC rfl (by decide) u8 m _ [.int .i64 (pairM x y)] (by rfl) hown3.1 (by rfl) rfl (by intro u hu;simp at hu;subst hu;rfl) (by omega) (by decide) hsz3 ?_;intro v1 w5 ho1' hnn hg1) | (go_simp;go_at_call 181;refine (l3Node_spec x y _ hn1.1 hn1.2 hn2.1 hn2.2).mono ?_;rintro e w3 ⟨rfl,hb3⟩;have hb3':Below wr.heap.size wr w3:=(Below.refl _ wr).drew.trans hb3;have hown3:=hown.below hb3';have hsz3:wo.heap.size≤w3.heap.size:=Nat.le_trans hsz2 hb3'.size))
          all_goals
           have hb5:Below wo.heap.size wo w5:=((hbi.trans (hb3'.mono hsz2)).alloc hsz3 _).grown hg1 (by simp;omega) (fun k hk=>(hown3.1.lt k hk).1)
           clear hg1 hb3 hb3' hown3 q1 q2 q3 q4 q5 u1 u2 v2 hc1 hc2
           go_wp2
           go_roundw
           case rel=>exact ⟨m+1,by omega,(by congr 1),by rw [HN.out,List.map_append];exact ⟨ho1',hnn⟩,hb5⟩
           case measure=>simp [intOf];omega
        · have e:m=M:=by omega
          have HO:Hid (Own wr w.heap.size 3 1 u8 (32 / 2 ^ (q+1)) ((lvRow l (q+1) (32 / 2 ^ (q+1))).map (Value.int .i64))):=Lib.hid (by rw [← HM.out,← e];exact hown.mono hsz)
          have q5:decide (2*(m:Int)+1 < (L:Int))=false:=by simp;omega
          clear hown e
          go_wp2
          go_roundw
          case rel=>exact ⟨q+1,by omega,by go_num,HO.out,hb.trans (hbi.mono hsz)⟩
          case measure=>simp [intOf];omega
     · have e:q=lev:=by omega
       have HO:Hid (Own wo w.heap.size 3 1 u5 (levelL l lev).length ((levelL l lev).map (Value.int .i64))):=Lib.hid (by subst e;rw [levelL_len];exact hown)
       have HW:=Lib.hid (lvRow_wf HS.out lev (32 / 2 ^ lev) (Nat.div_le_self _ _))
       clear hown e
       go_wp2
       go_ret
       exact ⟨_,rfl,HO.out,HW.out,hb⟩
theorem rootOf_spec (a:Option Addr) (n cap:Nat) (l:List Ent) (w:World) (h:RowE w a n l) :
  Calls Tryz.prog 145 #[.slice a n cap] w (IntB (rootM l) w):=by
 cases hs:storeB l with
 | false =>
  have HF:Hid (rootM l = -1):=Lib.hid (by simp [rootM,hs])
  go_enter Tryz.func145,Tryz.ntmps145
  go_wp2_with fail
  refine (storeValid_spec a n cap l _ h).mono ?_;rintro e w1 ⟨rfl,hd1⟩
  rw [hs]
  go_wp2
  go_ret
  exact ⟨ret_int HF.out.symm,hd1.below _⟩
 | true =>
  go_enter Tryz.func145,Tryz.ntmps145
  go_wp2_with fail
  refine (storeValid_spec a n cap l _ h).mono ?_;rintro e w1 ⟨rfl,hd1⟩
  rw [hs]
  have HR1:=Lib.hid (h.below (hd1.below _))
  have hb1:=hd1.below w.heap.size
  clear hd1 h
  have HC:=Lib.hid (fun (w:World) h=>l3Level_spec a n cap l 5 w h hs (by omega))
  have HF:Hid (rootM l=(levelL l 5).getD 0 0):=Lib.hid (by rw [levelL_get l 5 0 (by decide)];simp [rootM,hs])
  clear hs
  go_wp2_with fail
  refine (HC.out _ HR1.out).mono ?_;rintro e w2 ⟨v,rfl,hown,hwf,hb2⟩
  have hln:=levelL_len l 5
  obtain ⟨g,c,rfl,-,-,hrow⟩:=rowI_of_own hown (by rw [hln];decide) hwf
  obtain ⟨b',off',he,hcc⟩:=hrow.2.2.1 (by rw [hln];decide)
  simp at he
  obtain ⟨rfl,rfl⟩:=he
  have hc:=hcc 0 (by rw [hln];decide)
  rw [hln]
  clear hrow hcc hown hwf hln HC
  obtain ⟨x,hx⟩:∃ x,x=(levelL l 5).getD 0 0:=⟨_,rfl⟩
  rw [← hx] at hc HF
  clear hx
  go_wp2
  go_ret
  exact ⟨ret_int HF.out.symm,hb1.trans (hb2.mono hb1.size)⟩
end Go.Proofs.YtpnjgmgmakmgeaaGreat
