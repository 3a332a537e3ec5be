/- Texts of ours that stand together: TrFns, PathTr -/
import Derived.Test.YtpnjgmgmakmgeaaGreatImT
import Derived.Test.YtpnjgmgmakmgeaaGreatSpecTr2
import Derived.Test.YtpnjgmgmakmgeaaGreatCvB
/- The contracts of the program's BlockTreeValid and FindBlock,and of the model's FindBlock (gen16/lawtr.py). -/
namespace Go.Proofs.YtpnjgmgmakmgeaaGreat
open Go.RowKit
set_option linter.unusedVariables false
set_option linter.unusedSimpArgs false
/-! Ways: more mathematics. -/
theorem TreOk.wayEq {t:Tre} (h:TreOk t) {k:Nat} (hk:k < t.blocks.length):wayN t.bef k=wayN t.bef (t.bef.getD k 0)++[(k:Int)]:=wayN_next h.down (by rw [h.len];exact hk)
theorem way_neg (F:List Int):wayN F (-1)=[]:=wayN_no (by omega)
def NoInt (l:List Int) (x:Int) (k:Nat):Prop:=∀ j,j < k→l.getD j 0≠x
theorem NoInt.next {l:List Int} {x:Int} {k:Nat} (h:NoInt l x k) (hk:l.getD k 0≠x):NoInt l x (k+1):=by
 intro j hj
 by_cases e:j=k
 · rw [e];exact hk
 · exact h j (by omega)
theorem NoInt.all {l:List Int} {x:Int} {k:Nat} (h:NoInt l x k) (hk:l.length=k):decide (x∈l)=false:=by
 refine decide_eq_false (fun hm=>?_)
 obtain ⟨j,hj,e⟩:=List.getElem_of_mem hm
 exact h j (by omega) (by rw [List.getD_eq_getElem?_getD,List.getElem?_eq_getElem hj];exact e)
theorem RowI.newsP {w:World} {a:Option Addr} {n:Nat} {l:List Int} (h:RowI w a n l):∀ ad,a=some ad→∀ j u,(l.map (Value.int .i64))[j]? = some u→w.cell? (ad.add j)=some u:=by
 intro ad he j u hu
 have hj:j < n:=by
  have:=(List.getElem?_eq_some_iff.1 hu).1
  rw [List.length_map,h.1] at this;exact this
 obtain ⟨b,off,he',hc⟩:=h.2.2.1 (by omega)
 rw [he] at he'
 obtain rfl:=Option.some.inj he'
 rw [show (⟨b,off,none⟩:Addr).add j=⟨b,off+j,none⟩ by unfold Addr.add;split <;> simp_all,hc j hj]
 rw [List.getElem?_map,List.getElem?_eq_getElem (by rw [h.1];exact hj)] at hu
 simp only [Option.map_some,Option.some.injEq] at hu
 rw [← hu,List.getD_eq_getElem?_getD,List.getElem?_eq_getElem (by rw [h.1];exact hj)];rfl
def NewIs (w:World) (l:List Int) (e:Ending) (w':World):Prop :=
 ∃ v,e = .returned v∧w'.ownsRow w.heap.size 3 1 v l.length (l.map (Value.int .i64))∧(∀ x∈l,(Lit.int .i64 x).wf=true)∧l.length≤14∧Below w.heap.size w w'
theorem newIs_nil (w w':World) (h:Below w.heap.size w w'):NewIs w [] (.returned (.slice none 0 0)) w':=⟨_,rfl,World.ownsRow_nil _ _ _ _,fun x hx=>(by cases hx),by simp,h⟩
theorem way_ok {t:Tre} (h:TreOk t) {k:Nat} (hk:k < t.blocks.length):(∀ x∈wayN t.bef k,(Lit.int .i64 x).wf=true)∧(wayN t.bef k).length≤14:=by
 have hm:=h.most
 constructor
 · intro x hx
   have:=way_mem h.down k (by rw [h.len];exact hk) x hx
   exact WalkArith.wf_i64 (by omega)
 · have hgen:∀ n,n < t.blocks.length→(wayN t.bef n).length≤n+1:=by
    intro n
    induction n using Nat.strongRecOn with
    | _ n ih =>
     intro hn
     rw [h.wayEq hn,List.length_append,List.length_singleton]
     have hb:=h.befBd hn
     by_cases h0:t.bef.getD n 0 = -1
     · rw [h0,way_neg];simp
     · obtain ⟨m,hm2⟩:=Int.eq_ofNat_of_zero_le (show 0≤t.bef.getD n 0 by omega)
       rw [hm2] at hb ⊢
       have:=ih m (by omega) (by omega)
       omega
   have:=hgen k hk
   omega
theorem pathM_next {t:Tre} (h:treB t=true) {k:Nat} (hk:k < t.blocks.length):pathM t k=pathM t (t.bef.getD k 0)++[(k:Int)]:=by
 have htk:=(treB_iff t).1 h
 rw [pathM_yes h (by omega) (by omega),htk.wayEq hk]
 congr 1
 have hb:=htk.befBd hk
 by_cases e:t.bef.getD k 0 = -1
 · rw [e,way_neg,pathM_no (.inr (by omega))]
 · rw [pathM_yes h (by omega) (by omega)]
theorem pathM_ok (t:Tre) (n:Int):(∀ x∈pathM t n,(Lit.int .i64 x).wf=true)∧(pathM t n).length≤14:=by
 cases h:treB t with
 | false=>rw [pathM_no (.inl h)];exact ⟨fun x hx=>(by cases hx),by simp⟩
 | true =>
  by_cases hn:0≤n∧n < (t.blocks.length:Int)
  · obtain ⟨k,rfl⟩:=Int.eq_ofNat_of_zero_le hn.1
    rw [pathM_yes h hn.1 hn.2]
    exact way_ok ((treB_iff t).1 h) (by omega)
  · rw [pathM_no (.inr hn)];exact ⟨fun x hx=>(by cases hx),by simp⟩
set_option maxRecDepth 100000 in
set_option maxHeartbeats 4000000 in
theorem pathTo_spec (v1 v2 v3:Value) (t:Tre) (n:Int) (w:World) (h:TreRd w v1 v2 v3 t) :
  Calls Tryz.prog 82 #[.agg #[v1,v2,v3],.int .i64 n] w (NewIs w (pathM t n)):=by
 have hrd:=h
 obtain ⟨⟨a1,n1,c1,rfl,-⟩,⟨a2,n2,c2,rfl,r2,-,-⟩,a3,n3,c3,rfl,r3,-,-⟩:=h
 have hl2:t.blocks.length=n2:=r2.1
 have hm2:=r2.2.1
 unfold maxLen at hm2
 have hb0:=(Below.refl w.heap.size w).alloc (Nat.le_refl _) (.cells #[.slice a1 n1 c1,.slice a2 n2 c2,.slice a3 n3 c3] 27)
 have hg0:=trAt_new w 27 (.slice a1 n1 c1) (.slice a2 n2 c2) (.slice a3 n3 c3)
 have hr0:=hrd.below hb0
 obtain ⟨W0,hW0⟩:∃ W0,W0=w.alloc (.cells #[.slice a1 n1 c1,.slice a2 n2 c2,.slice a3 n3 c3] 27):=⟨_,rfl⟩
 have hr3:=r3.below (hW0 ▸ hb0)
 rw [← hW0] at hb0 hg0 hr0
 have hw0s:W0.heap.size=w.heap.size+1:=by rw [hW0];simp
 have ho0:=(own_lit (w:=W0) (B:=W0.heap.size) 3 1 #[] 0 (Nat.le_refl _) (by unfold maxLen;omega) rfl).1
 have hb1:=(Below.refl W0.heap.size W0).alloc (Nat.le_refl _) (.cells #[] 3)
 obtain ⟨W1,hW1⟩:∃ W1,W1=W0.alloc (.cells #[] 3):=⟨_,rfl⟩
 have HW1:=Lib.hid hW1
 have HW0:=Lib.hid hW0
 rw [← hW1] at ho0 hb1
 clear hW1 hW0 hrd r2 r3
 have HK:=Lib.hid (fun (W:World) (hb:Below W0.heap.size W0 W)=>(⟨hg0.below hb,hr0.below hb,hr3.below hb,hb0.trans (hb.mono hb0.size)⟩:TrAt W w.heap.size (.slice a1 n1 c1) (.slice a2 n2 c2) (.slice a3 n3 c3)∧TreRd W (.slice a1 n1 c1) (.slice a2 n2 c2) (.slice a3 n3 c3) t∧RowI W a3 n3 t.bef∧Below w.heap.size w W))
 have HO:=Lib.hid ho0
 have HB1:=Lib.hid hb1
 have HS0:=Lib.hid hb0.size
 have HL2:=Lib.hid hl2
 obtain ⟨X,hX⟩:∃ X,X=pathM t n:=⟨_,rfl⟩
 have HX:=Lib.hid hX
 obtain ⟨hxw,hxl⟩:=pathM_ok t n
 rw [← hX] at hxw hxl ⊢
 have HXW:=Lib.hid hxw
 have HXL:=Lib.hid hxl
 clear ho0 hb1 hb0 hg0 hr0 hr3 hl2 hX hxw hxl
 go_enter Tryz.func82,Tryz.ntmps82
 go_wp2_with fail
 rw [← HW0.out,← hw0s,← HW1.out]
 clear HW0 HW1
 clear hw0s
 go_loopw [1,5] (fun q v wr=>∃ (p:Int) (rest:List Int),q = .int .i64 p∧pathM t p++rest=X∧wr.ownsRow W0.heap.size 3 1 v rest.length (rest.map (Value.int .i64))∧Below W0.heap.size W0 wr) (fun q _ _=>(intOf q+1).toNat)
 case atStart=>exact ⟨n,[],rfl,by rw [← HX.out,List.append_nil],HO.out,HB1.out⟩
 case round =>
  clear HO HB1
  obtain ⟨p,rest,rfl,hX,hown,hb⟩:=hrel
  have hrl:rest.length≤14:=by
   have:=congrArg List.length hX
   rw [List.length_append] at this
   have:=HXL.out
   omega
  have hrw:∀ x∈rest,(Lit.int .i64 x).wf=true:=fun x hx=>HXW.out x (by rw [← hX];exact List.mem_append.2 (.inr hx))
  obtain ⟨a4,c4,rfl,r4⟩:=rowI_of_owns hown (by unfold maxLen;omega) hrw
  have hnl:a4=none→rest.length=0∧c4=0:=fun e=>by
   rcases slice_of_owns hown with ⟨e2,e3⟩ | ⟨g,cap,e2,-⟩
   · simp only [Value.slice.injEq] at e2;exact ⟨e3,e2.2.2⟩
   · simp only [Value.slice.injEq] at e2;rw [e] at e2;cases e2.1
  have HNL:=Lib.hid hnl
  have HXE:=Lib.hid hX
  have HOW:=Lib.hid hown
  have HR4:=Lib.hid r4
  have HB:=Lib.hid hb
  clear hX hown r4 hb hnl hrw
  obtain ⟨⟨x0,x1,x2,-⟩,hrd,-,-⟩:=HK.out wr HB.out
  have HRD:=Lib.hid hrd
  clear hrd
  go_wp2_with fail
  refine (blockTreeValid_spec _ _ _ t _ HRD.out).mono ?_;rintro e w2 ⟨rfl,hb2⟩
  have HB2:=Lib.hid (HB.out.trans (hb2.mono HB.out.size))
  have HOW2:=Lib.hid (owns_below HOW.out hb2)
  have HR42:=Lib.hid (HR4.out.below hb2)
  clear x0 x1 x2 hb2 HRD HOW HR4
  obtain ⟨⟨x0,x1,x2,-⟩,-,-,hbf⟩:=HK.out w2 HB2.out
  have HBF:=Lib.hid hbf
  clear hbf
  cases ht:treB t with
  | false =>
   have HE:Hid (rest=X):=Lib.hid (by rw [← HXE.out,pathM_no (.inl ht)];rfl)
   clear ht
   go_wp2_with fail
   go_ret
   rw [← HE.out];exact ⟨_,rfl,owns_mono HOW2.out HS0.out,fun x hx=>HXW.out x (by rw [← HE.out];exact hx),hrl,HBF.out⟩
  | true =>
   have HT:=Lib.hid ht
   clear ht
   have hw1:IntKind.i64.wrap ((n2:Int) - 1)=(n2:Int) - 1:=IntWalk.i64_in _ (by omega)
   by_cases hp:0≤p∧p≤(n2:Int) - 1
   · have hd:inB p 0 ((n2:Int) - 1)=true:=inB_yes hp.1 hp.2
     obtain ⟨k,rfl⟩:=Int.eq_ofNat_of_zero_le hp.1
     have hkn:k < n2:=by omega
     have htk:=(treB_iff t).1 HT.out
     have hbb:=htk.befBd (k:=k) (by rw [HL2.out];exact hkn)
     have hpn:=pathM_next HT.out (k:=k) (by rw [HL2.out];exact hkn)
     have hrow:=(HK.out w2 HB2.out).2.2.1
     obtain rfl:n2=n3:=by rw [← HL2.out,← hrow.1,htk.len]
     obtain ⟨b3,off3,rfl,hc3⟩:=hrow.2.2.1 (by omega)
     have hc3k:=hc3 k hkn
     obtain ⟨f,hf⟩:∃ f,f=t.bef.getD k 0:=⟨_,rfl⟩
     rw [← hf] at hbb hpn hc3k
     have HPN:=Lib.hid hpn
     have HBB:=Lib.hid hbb
     have hb3w:=World.block_lt_of_cell? w2 ⟨b3,off3+k,none⟩ hc3k
     have HC3:=Lib.hid (fun (W:World) (hb:Below w2.heap.size w2 W)=>below_cell hb hb3w hc3k)
     have hlit:=own_lit (w:=w2) (B:=W0.heap.size) 3 1 #[.int .i64 (k:Int)] 1 HB2.out.size (by unfold maxLen;omega) rfl
     have hba:=(Below.refl w2.heap.size w2).alloc (Nat.le_refl _) (.cells #[.int .i64 (k:Int)] 3)
     have HRA:=Lib.hid (HR42.out.below hba)
     have HBA:=Lib.hid (HB2.out.trans (hba.mono HB2.out.size))
     have HLIT:=Lib.hid hlit
     have HSA:=Lib.hid hba
     have i1:(0:Int)≤(k:Int):=by omega
     have i2:(k:Int) < (n2:Int):=by omega
     clear hp htk hbb hpn hrow hc3 hc3k hf hb3w hlit hba
     go_wp2_with (first | (go_at_call 84;refine (l1In_spec _ _ _ _).mono ?_;rintro e w2 ⟨rfl,rfl⟩;rw [hd]) | (at_builtin;refine wpList_append_rows rfl _ _ 25 rfl W0.heap.size 3 (.int .i64 0) 1 8 Tryz.underlying25 infoIntP rfl (by decide) _ 1 [.int .i64 (k:Int)] (rest.map (Value.int .i64)) (by rfl) HLIT.out a4 rest.length c4 (by rfl) HNL.out (by simp) HRA.out.newsP ?c1 (by omega) (by decide) ?c2 ?_))
     case c1=>intro u hu;obtain ⟨y,-,rfl⟩:=List.mem_map.1 hu;rfl
     case c2=>exact HBA.out.size
     intro v5 w5 ho5 hg5
     have hb5:Below W0.heap.size W0 w5:=HBA.out.grown hg5 HBA.out.size (fun q hq=>(HLIT.out.1.lt q hq).1)
     have hb25:Below w2.heap.size w2 w5:=HSA.out.grown hg5 HSA.out.size (fun q hq=>by simp [Value.ownBlock] at hq;omega)
     have HO5:Hid (w5.ownsRow W0.heap.size 3 1 v5 ((k:Int) :: rest).length (((k:Int) :: rest).map (Value.int .i64))):=Lib.hid (by
      have:=ho5.1
      have e9:((k:Int) :: rest).length=1+rest.length:=by simp [Nat.add_comm]
      rw [e9];exact this)
     have HB5:=Lib.hid hb5
     obtain ⟨pa,pn,pc,rfl⟩:=slice_form ho5.1
     have hcz:=HC3.out w5 hb25
     obtain ⟨⟨z0,z1,z2,-⟩,-,-,-⟩:=HK.out w5 hb5
     clear ho5 hg5 hb5 hb25 x0 x1 x2
     go_wp2_with fail
     go_roundw
     case rel=>exact ⟨f,(k:Int) :: rest,rfl,by rw [← HXE.out,HPN.out];simp,HO5.out,HB5.out⟩
     case measure=>have hbb:=HBB.out;simp [intOf];omega
   · have hd:inB p 0 ((n2:Int) - 1)=false:=inB_no (by omega)
     have HE:Hid (rest=X):=Lib.hid (by rw [← HXE.out,pathM_no (.inr (by rw [HL2.out];omega))];rfl)
     clear hp
     go_wp2_with (first | (go_at_call 84;refine (l1In_spec _ _ _ _).mono ?_;rintro e w' ⟨rfl,rfl⟩;rw [hd]))
     go_ret
     rw [← HE.out];exact ⟨_,rfl,owns_mono HOW2.out HS0.out,fun x hx=>HXW.out x (by rw [← HE.out];exact hx),hrl,HBF.out⟩
end Go.Proofs.YtpnjgmgmakmgeaaGreat
