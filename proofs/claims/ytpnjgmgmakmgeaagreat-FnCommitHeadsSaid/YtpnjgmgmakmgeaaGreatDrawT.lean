/- Texts of ours that stand together: DrawTree, DrawTrees -/
import Derived.Test.YtpnjgmgmakmgeaaGreatDrawS
import Derived.Test.YtpnjgmgmakmgeaaGreatTreeS
/- The contracts of the draws of chapter 3. -/
namespace Go.Proofs.YtpnjgmgmakmgeaaGreat
open Go.RowKit
set_option linter.unusedVariables false
theorem Own.cap {w:World} {B:Nat} {e:TypeId} {size n:Nat} {a:Option Addr} {c:Nat} {xs:List Value} (h:Own w B e size (.slice a n c) n xs):n≤c:=by
 rcases h.1.2 with ⟨h1,_⟩ | ⟨g,cap,cur,h1,_,_,h2,_⟩
 · exact absurd h1 h.2
 · simp only [Value.slice.injEq] at h1
   omega
theorem odd_zero (R:Nat) (w:World) :
  Calls Tryz.prog 93 #[.pointer (some ⟨R,0,none⟩),.int .i64 0] w fun e w'=>e = .returned (.bool false)∧w=w':=by
 go_enter Tryz.func93,Tryz.ntmps93
 go_wp2
 go_ret
 exact ⟨rfl,rfl⟩
theorem Upd.setNew {R g o:Nat} {w w9:World} {v:Value} (h:Upd R w w9) (hg:w.heap.size≤g):Upd R w (w9.setCell ⟨g,o,none⟩ v) :=
 ⟨h.os,h.tape,h.output,by simpa [World.setCell] using h.size,fun k hk hr=>(Below.heap_setCell _ _ _ _ (by simp;omega)).trans (h.block k hk hr)⟩
theorem RowI.tail {w:World} {g n:Nat} {l:List Int} (h:RowI w (some ⟨g,0,none⟩) (n+1) l):RowI w (some ⟨g,1,none⟩) n (l.drop 1):=by
 obtain ⟨h1,h2,h3,h4⟩:=h
 refine ⟨by rw [List.length_drop];omega,by omega,fun hn=>⟨g,1,rfl,fun i hi=>?_⟩,fun x hx=>h4 x (List.mem_of_mem_drop hx)⟩
 obtain ⟨b,off,he,hc⟩:=h3 (by omega)
 simp at he
 obtain ⟨rfl,rfl⟩:=he
 have:=hc (1+i) (by omega)
 rw [Nat.zero_add] at this
 rw [this,List.getD_eq_getElem?_getD,List.getD_eq_getElem?_getD,List.getElem?_drop]
def DrawV (w:World) (R P c:Nat) (e0:TypeId) (e:Ending) (w':World):Prop :=
 ∃ (v:Value) (l:List Ent),e = .returned v∧Own w' w.heap.size e0 2 v l.length (flatE l)∧WfE l∧storeB l=true∧Rd w' R (P+c)∧Upd R w w'
set_option maxHeartbeats 4000000 in
theorem l20Store_valid (R P:Nat) (w:World) (h:Rd w R P) (hP:P≤800000) :
  Calls Tryz.prog 123 #[.pointer (some ⟨R,0,none⟩),.int .i64 0] w (DrawV w R P 60 142):=by
 have hRw:=h.lt
 have hnil:Own (w.alloc (.cells #[] 142)) w.heap.size 142 2 (.slice (some ⟨w.heap.size,0,none⟩) 0 0) 0 []:=own_lit 142 2 #[] 0 (Nat.le_refl _) (by simp) rfl
 go_enter Tryz.func123,Tryz.ntmps123
 go_wp2_with fail
 refine (pick_pos R P 7 _ (h.alloc _) (by omega) (by omega) (by omega)).mono ?_;rintro e w1 ⟨x1,rfl,hx0,hx1,hr1,hu1⟩
 have ho1:=hnil.upd hu1 hRw
 have hu1':Upd R w w1:=((Upd.refl R w).alloc _).trans hu1
 obtain ⟨k0,hk0⟩:∃ k0:Nat,x1=(k0:Int):=⟨x1.toNat,by omega⟩
 subst hk0
 clear hu1 hnil h
 go_wp2_with fail
 go_loopw [5,6] (fun v i wr=>∃ (k:Nat) (l:List Ent),k≤7∧i = .int .i64 k∧Own wr w.heap.size 142 2 v l.length (flatE l)∧WfE l∧storeB l=true∧Rd wr R (P+1+6*(7 - k))∧Upd R w wr) (fun _ i _=>(intOf i).toNat)
 case atStart=>exact ⟨k0,[],by omega,rfl,ho1,fun e he=>(by cases he),rfl,hr1.mono (by omega),hu1'⟩
 case round =>
  obtain ⟨k,l,hk,rfl,hown,hwf,hst,hr,hu⟩:=hrel
  have HST:=Lib.hid hst
  have hlen:=store_len hst
  clear ho1 hu1' hr1 hx0 hx1 hst
  by_cases hlt:0 < k
  · go_wp2_with fail
    refine (l20Key_any R _ _ hr (by omega)).mono ?_;rintro e w2 ⟨x2,rfl,hy0,hy1,hr2,hu2⟩
    go_wp2_with fail
    refine (l20Value_any R _ _ hr2 (by omega)).mono ?_;rintro e w3 ⟨x3,rfl,hz0,hz1,hr3,hu3⟩
    have hown3:=(hown.upd hu2 hRw).upd hu3 hRw
    have hu3':=(hu.trans hu2).trans hu3
    obtain ⟨g,c,rfl,hg,hrow⟩:=rowE_of_own hown3 (by omega) hwf
    have HS4:Hid (storeB (putM l x2 x3).1=true):=Lib.hid (by
     rw [putM,if_pos HST.out,inB_yes hy0 hy1,inB_yes hz0 hz1]
     exact (storeB_ok _).2 (ok_put ((storeB_ok l).1 HST.out) hy0 hy1 hz0 hz1))
    clear hown hown3 hu hu2 hu3 hr hr2
    go_wp2_with fail
    refine (putValue_spec _ _ c l x2 x3 _ hrow (by omega) (fun h=>by cases h) (WalkArith.wf_i64 (by omega)) (WalkArith.wf_i64 (by omega))).mono ?_;rintro e w4 ⟨v4,rfl,ho4,hw4,hb4⟩
    have hu4:=hu3'.trans (Upd.ofBelow R hb4)
    have hr4:=hr3.below hb4
    have ho4':=ho4.mono hu3'.size
    clear hrow hb4 hr3 hu3' ho4
    obtain ⟨l4,hl4⟩:∃ l4,l4=(putM l x2 x3).1:=⟨_,rfl⟩
    rw [← hl4] at ho4' hw4 HS4
    clear hl4
    go_wp2
    go_roundw
    case rel=>exact ⟨k - 1,l4,by omega,by congr 1;omega,ho4',hw4,HS4.out,hr4.mono (by omega),hu4⟩
    case measure=>simp [intOf];omega
  · obtain rfl:k=0:=by omega
    clear hlt
    have hr':=hr.mono (show P+1+6*(7 - 0)≤P+43 by omega)
    clear hlen hr
    go_wp2_with fail
    refine (odd_zero R _).mono ?_;rintro e w2 ⟨rfl,rfl⟩
    go_wp2
    go_ret
    exact ⟨_,l,rfl,hown,hwf,HST.out,hr'.mono (by omega),hu⟩
end Go.Proofs.YtpnjgmgmakmgeaaGreat
