/- The contracts of the model's actions: ActionValid,ActionReads,ActionWrites. -/
import Derived.Test.YtpnjgmgmakmgeaaGreatActs

import Derived.Test.YtpnjgmgmakmgeaaGreatSpecS
namespace Go.Proofs.YtpnjgmgmakmgeaaGreat
open Go.RowKit
set_option linter.unusedVariables false
set_option linter.unusedSimpArgs false
theorem l1In_spec_hid (n lo hi:Int) (w:World) :
  Calls Tryz.prog 84 #[.int .i64 n,.int .i64 lo,.int .i64 hi] w fun e w'=>e = .returned (.bool (inB n lo hi))∧w=w' :=
 (l1In_spec n lo hi w).mono fun _ _ ⟨h1,h2⟩=>⟨h1,h2.symm⟩
def BoolS (b:Bool) (w:World) (e:Ending) (w':World):Prop:=e = .returned (.bool b)∧Below w.heap.size w w'
set_option maxHeartbeats 4000000 in
theorem actionValid_spec (k s d m:Int) (w:World) :
  Calls Tryz.prog 169 #[.agg #[.int .i64 k,.int .i64 s,.int .i64 d,.int .i64 m]] w (BoolS (actB ⟨k,s,d,m⟩) w):=by
 cases e1:inB s 0 31 with
 | false =>
  rw [actB_src e1]
  go_enter Tryz.func169,Tryz.ntmps169
  go_wp2_with (first | (go_at_call 84;refine (l1In_spec_hid _ _ _ _).mono ?_;rintro e w' ⟨rfl,rfl⟩))
  go_ret
  exact ⟨rfl,(Below.refl _ _).alloc (Nat.le_refl _) _⟩
 | true =>
 cases e2:inB d 0 31 with
 | false =>
  rw [actB_dst e2]
  go_enter Tryz.func169,Tryz.ntmps169
  go_wp2_with (first | (go_at_call 84;refine (l1In_spec_hid _ _ _ _).mono ?_;rintro e w' ⟨rfl,rfl⟩))
  go_ret
  exact ⟨rfl,(Below.refl _ _).alloc (Nat.le_refl _) _⟩
 | true =>
 cases e3:inB m 0 1000000 with
 | false =>
  rw [actB_amt e3]
  go_enter Tryz.func169,Tryz.ntmps169
  go_wp2_with (first | (go_at_call 84;refine (l1In_spec_hid _ _ _ _).mono ?_;rintro e w' ⟨rfl,rfl⟩))
  go_ret
  exact ⟨rfl,(Below.refl _ _).alloc (Nat.le_refl _) _⟩
 | true =>
 rw [actB_rest e1 e2 e3]
 rcases kind_cases k with rfl | rfl | rfl | rfl | rfl | rfl | hk
 · have HE:=Lib.hid (show restB 1 d m=decide (d=0) from rfl)
   by_cases h:d=0
   · subst h
     go_enter Tryz.func169,Tryz.ntmps169
     go_wp2_with (first | (go_at_call 84;refine (l1In_spec_hid _ _ _ _).mono ?_;rintro e w' ⟨rfl,rfl⟩))
     go_ret
     exact ⟨by rw [HE.out];rfl,(Below.refl _ _).alloc (Nat.le_refl _) _⟩
   · have e4:decide (d=0)=false:=by simpa using h
     have e5:(d == 0)=false:=by simpa using h
     have HF:=Lib.hid e4
     clear h e4
     go_enter Tryz.func169,Tryz.ntmps169
     go_wp2_with (first | (go_at_call 84;refine (l1In_spec_hid _ _ _ _).mono ?_;rintro e w' ⟨rfl,rfl⟩))
     go_ret
     exact ⟨by rw [HE.out,HF.out];rfl,(Below.refl _ _).alloc (Nat.le_refl _) _⟩
 · have HE:=Lib.hid (show restB 2 d m=true from rfl)
   go_enter Tryz.func169,Tryz.ntmps169
   go_wp2_with (first | (go_at_call 84;refine (l1In_spec_hid _ _ _ _).mono ?_;rintro e w' ⟨rfl,rfl⟩))
   go_ret
   exact ⟨by rw [HE.out];rfl,(Below.refl _ _).alloc (Nat.le_refl _) _⟩
 · have HE:=Lib.hid (show restB 3 d m=decide (m=0) from rfl)
   by_cases h:m=0
   · subst h
     go_enter Tryz.func169,Tryz.ntmps169
     go_wp2_with (first | (go_at_call 84;refine (l1In_spec_hid _ _ _ _).mono ?_;rintro e w' ⟨rfl,rfl⟩))
     go_ret
     exact ⟨by rw [HE.out];rfl,(Below.refl _ _).alloc (Nat.le_refl _) _⟩
   · have e4:decide (m=0)=false:=by simpa using h
     have e5:(m == 0)=false:=by simpa using h
     have HF:=Lib.hid e4
     clear h e4
     go_enter Tryz.func169,Tryz.ntmps169
     go_wp2_with (first | (go_at_call 84;refine (l1In_spec_hid _ _ _ _).mono ?_;rintro e w' ⟨rfl,rfl⟩))
     go_ret
     exact ⟨by rw [HE.out,HF.out];rfl,(Below.refl _ _).alloc (Nat.le_refl _) _⟩
 · have HE:=Lib.hid (show restB 4 d m=decide (m=0) from rfl)
   by_cases h:m=0
   · subst h
     go_enter Tryz.func169,Tryz.ntmps169
     go_wp2_with (first | (go_at_call 84;refine (l1In_spec_hid _ _ _ _).mono ?_;rintro e w' ⟨rfl,rfl⟩))
     go_ret
     exact ⟨by rw [HE.out];rfl,(Below.refl _ _).alloc (Nat.le_refl _) _⟩
   · have e4:decide (m=0)=false:=by simpa using h
     have e5:(m == 0)=false:=by simpa using h
     have HF:=Lib.hid e4
     clear h e4
     go_enter Tryz.func169,Tryz.ntmps169
     go_wp2_with (first | (go_at_call 84;refine (l1In_spec_hid _ _ _ _).mono ?_;rintro e w' ⟨rfl,rfl⟩))
     go_ret
     exact ⟨by rw [HE.out,HF.out];rfl,(Below.refl _ _).alloc (Nat.le_refl _) _⟩
 · have HE:=Lib.hid (show restB 5 d m=decide (m=0) from rfl)
   by_cases h:m=0
   · subst h
     go_enter Tryz.func169,Tryz.ntmps169
     go_wp2_with (first | (go_at_call 84;refine (l1In_spec_hid _ _ _ _).mono ?_;rintro e w' ⟨rfl,rfl⟩))
     go_ret
     exact ⟨by rw [HE.out];rfl,(Below.refl _ _).alloc (Nat.le_refl _) _⟩
   · have e4:decide (m=0)=false:=by simpa using h
     have e5:(m == 0)=false:=by simpa using h
     have HF:=Lib.hid e4
     clear h e4
     go_enter Tryz.func169,Tryz.ntmps169
     go_wp2_with (first | (go_at_call 84;refine (l1In_spec_hid _ _ _ _).mono ?_;rintro e w' ⟨rfl,rfl⟩))
     go_ret
     exact ⟨by rw [HE.out,HF.out];rfl,(Below.refl _ _).alloc (Nat.le_refl _) _⟩
 · have HE:=Lib.hid (show restB 6 d m=decide (d=0) from rfl)
   by_cases h:d=0
   · subst h
     go_enter Tryz.func169,Tryz.ntmps169
     go_wp2_with (first | (go_at_call 84;refine (l1In_spec_hid _ _ _ _).mono ?_;rintro e w' ⟨rfl,rfl⟩))
     go_ret
     exact ⟨by rw [HE.out];rfl,(Below.refl _ _).alloc (Nat.le_refl _) _⟩
   · have e4:decide (d=0)=false:=by simpa using h
     have e5:(d == 0)=false:=by simpa using h
     have HF:=Lib.hid e4
     clear h e4
     go_enter Tryz.func169,Tryz.ntmps169
     go_wp2_with (first | (go_at_call 84;refine (l1In_spec_hid _ _ _ _).mono ?_;rintro e w' ⟨rfl,rfl⟩))
     go_ret
     exact ⟨by rw [HE.out,HF.out];rfl,(Below.refl _ _).alloc (Nat.le_refl _) _⟩
 · have HE:=Lib.hid (restB_no (d:=d) (m:=m) hk)
   obtain ⟨h1,h2,h3,h4,h5,h6⟩:=hk
   go_enter Tryz.func169,Tryz.ntmps169
   go_wp2_with (first | (go_at_call 84;refine (l1In_spec_hid _ _ _ _).mono ?_;rintro e w' ⟨rfl,rfl⟩))
   go_ret
   exact ⟨by rw [HE.out];rfl,(Below.refl _ _).alloc (Nat.le_refl _) _⟩
set_option maxHeartbeats 1000000 in
theorem actionsValid_spec (a:Option Addr) (n cap:Nat) (l:List Acn) (w:World) (h:RowA w a n l) :
  Calls Tryz.prog 143 #[.slice a n cap] w (BoolS (actsB l) w):=by
 obtain ⟨hl,hm,hc,-⟩:=h
 unfold maxLen at hm
 have HL:=Lib.hid hl;clear hl
 by_cases h0:0 < n
 · obtain ⟨b,off,rfl,hcc⟩:=hc h0;clear hc;have hc:=hcc;clear hcc
   have hbs:b < w.heap.size:=World.block_lt_of_cell? w ⟨b,off+0*4,none⟩ (hc 0 h0).1
   go_enter Tryz.func143,Tryz.ntmps143
   go_wp2
   go_loopw [3] (fun i wr=>∃ k:Nat,k≤n∧i = .int .i64 k∧OkActs l k∧Below w.heap.size w wr) (fun i _=>n - (intOf i).toNat)
   case atStart=>exact ⟨0,Nat.zero_le _,rfl,fun j hj=>absurd hj (Nat.not_lt_zero j),Below.refl _ _⟩
   case round =>
    obtain ⟨k,hk,rfl,hok,hb⟩:=hrel
    by_cases hlt:k < n
    · obtain ⟨d1,d2,d3,d4⟩:=hc k hlt
      have c1:=(hb.cell (p:=⟨b,off+k*4,none⟩) hbs).trans d1
      have c2:=(hb.cell (p:=⟨b,off+k*4+1,none⟩) hbs).trans d2
      have c3:=(hb.cell (p:=⟨b,off+k*4+2,none⟩) hbs).trans d3
      have c4:=(hb.cell (p:=⟨b,off+k*4+3,none⟩) hbs).trans d4
      clear hc d1 d2 d3 d4
      have HN:actB (l.getD k noA)=true→OkActs l (k+1):=fun h=>hok.next h
      have HM:=getD_memA l k (by rw [HL.out];exact hlt)
      obtain ⟨x,hx⟩:∃ x,x=l.getD k noA:=⟨_,rfl⟩
      rw [← hx] at c1 c2 c3 c4 HN HM
      clear hx hok
      obtain ⟨p,q,r,t⟩:=x
      simp only at c1 c2 c3 c4
      have HN':=Lib.hid HN;have HM':=Lib.hid HM
      clear HN HM
      go_wp2_with fail
      refine (actionValid_spec p q r t _).mono ?_;rintro e w2 ⟨rfl,hb2⟩
      have hb3:=hb.trans (hb2.mono hb.size)
      cases hv:actB ⟨p,q,r,t⟩ with
      | false =>
       have HF:=Lib.hid (actsB_bad HM'.out hv)
       clear hv hb
       go_wp2
       go_ret
       exact ⟨by rw [HF.out];rfl,hb3⟩
      | true =>
       have HO:=Lib.hid (HN'.out hv)
       clear hv hb
       go_wp2
       go_roundw
       case rel=>exact ⟨k+1,by omega,by go_num,HO.out,hb3⟩
       case measure=>simp [intOf];omega
    · obtain rfl:k=n:=by omega
      clear hc
      have HA:=Lib.hid (OkActs.all (by rw [HL.out];exact hok))
      by_cases h10:k≤10
      · have h10':(k:Int)≤10:=by omega
        have HF:=Lib.hid (actsB_yes (by rw [HL.out];exact h10) HA.out)
        go_wp2
        go_ret
        exact ⟨by rw [HF.out];rfl,hb⟩
      · have h10':decide ((k:Int)≤10)=false:=by simp;omega
        have HF:=Lib.hid (actsB_no (l:=l) (by rw [HL.out];omega))
        clear h10
        go_wp2
        go_ret
        exact ⟨by rw [HF.out];rfl,hb⟩
 · obtain rfl:n=0:=by omega
   obtain rfl:l=[]:=List.eq_nil_of_length_eq_zero HL.out
   clear hc
   go_enter Tryz.func143,Tryz.ntmps143
   go_wp2
   go_loop [3] (fun i=>i = .int .i64 0) (fun _=>0)
   case atStart=>rfl
   case round =>
    subst hrel
    go_wp2
    go_ret
    exact ⟨rfl,Below.refl _ _⟩
theorem newL_lit {w w0:World} (l:List Int) (hb:Below w.heap.size w w0) (hl:l.length≤1000) (hw:∀ x∈l,(Lit.int .i64 x).wf=true) :
  NewL w 3 l (.returned (.slice (some ⟨w0.heap.size,0,none⟩) l.length l.length)) (w0.alloc (.cells (l.map (Value.int .i64)).toArray 3)) :=
 ⟨_,rfl,own_lit (w:=w0) 3 1 (l.map (Value.int .i64)).toArray l.length hb.size (by unfold maxLen;omega) (by simp),hw,hb.alloc hb.size _⟩
theorem wf_keyS {a:Int} (h:0≤a∧a≤31):(Lit.int .i64 a).wf=true:=WalkArith.wf_i64 (by omega)
set_option maxHeartbeats 8000000 in
theorem actionReads_spec (k s d m:Int) (w:World) :
  Calls Tryz.prog 188 #[.agg #[.int .i64 k,.int .i64 s,.int .i64 d,.int .i64 m]] w (NewL w 3 (readsM ⟨k,s,d,m⟩)):=by
 cases hv:actB ⟨k,s,d,m⟩ with
 | false =>
  have e:readsM ⟨k,s,d,m⟩=[]:=by simp [readsM,hv]
  rw [e];clear e
  go_enter Tryz.func188,Tryz.ntmps188
  go_wp2_with (first | (go_at_call 169;refine (actionValid_spec _ _ _ _ _).mono ?_;rintro e w1 ⟨rfl,hb1⟩;obtain ⟨hcc,hff⟩:=bcell hb1;have hz:=hb1.size))
  go_ret
  exact newL_lit [] (((Below.refl _ _).alloc (Nat.le_refl _) _).trans (hb1.mono (by simp))) (by simp) (fun x hx=>by cases hx)
 | true =>
 rcases kind_cases k with rfl | rfl | rfl | rfl | rfl | rfl | hk
 · have hbd:=actB_bd hv
   have HBD:=Lib.hid hbd;clear hbd
   have e:readsM ⟨1,s,d,m⟩=[]:=by simp [readsM,hv,readsK,onceM,ascM]
   rw [e];clear e
   go_enter Tryz.func188,Tryz.ntmps188
   go_wp2_with (first | (go_at_call 169;refine (actionValid_spec _ _ _ _ _).mono ?_;rintro e w1 ⟨rfl,hb1⟩;obtain ⟨hcc,hff⟩:=bcell hb1;have hz:=hb1.size))
   go_ret
   exact newL_lit [] (((Below.refl _ _).alloc (Nat.le_refl _) _).trans (hb1.mono (by simp))) (by simp) (fun x hx=>by simp at hx;)
 · have hbd:=actB_bd hv
   have HBD:=Lib.hid hbd;clear hbd
   by_cases h:s=d
   · subst h
     have e:readsM ⟨2,s,s,m⟩=[s]:=by simp [readsM,hv,readsK,onceM,ascM]
     rw [e];clear e
     go_enter Tryz.func188,Tryz.ntmps188
     go_wp2_with (first | (go_at_call 169;refine (actionValid_spec _ _ _ _ _).mono ?_;rintro e w1 ⟨rfl,hb1⟩;obtain ⟨hcc,hff⟩:=bcell hb1;have hz:=hb1.size))
     go_ret
     exact newL_lit [s] (((Below.refl _ _).alloc (Nat.le_refl _) _).trans (hb1.mono (by simp))) (by simp) (fun x hx=>by simp at hx;subst hx;exact wf_keyS HBD.out.1)
   · have h2:(s == d)=false:=by simpa using h
     have HE:=Lib.hid (show readsM ⟨2,s,d,m⟩=[s,d] by simp [readsM,hv,readsK,onceM,h])
     rw [HE.out];clear HE
     go_enter Tryz.func188,Tryz.ntmps188
     go_wp2_with (first | (go_at_call 169;refine (actionValid_spec _ _ _ _ _).mono ?_;rintro e w1 ⟨rfl,hb1⟩;obtain ⟨hcc,hff⟩:=bcell hb1;have hz:=hb1.size))
     go_ret
     exact newL_lit [s,d] (((Below.refl _ _).alloc (Nat.le_refl _) _).trans (hb1.mono (by simp))) (by simp) (fun x hx=>by simp at hx;rcases hx with rfl | rfl;exact wf_keyS HBD.out.1;exact wf_keyS HBD.out.2.1)
 · have hbd:=actB_bd hv
   have HBD:=Lib.hid hbd;clear hbd
   have e:readsM ⟨3,s,d,m⟩=[s]:=by simp [readsM,hv,readsK,onceM,ascM]
   rw [e];clear e
   go_enter Tryz.func188,Tryz.ntmps188
   go_wp2_with (first | (go_at_call 169;refine (actionValid_spec _ _ _ _ _).mono ?_;rintro e w1 ⟨rfl,hb1⟩;obtain ⟨hcc,hff⟩:=bcell hb1;have hz:=hb1.size))
   go_ret
   exact newL_lit [s] (((Below.refl _ _).alloc (Nat.le_refl _) _).trans (hb1.mono (by simp))) (by simp) (fun x hx=>by simp at hx;subst hx;exact wf_keyS HBD.out.1)
 · have hbd:=actB_bd hv
   have HBD:=Lib.hid hbd;clear hbd
   by_cases h:s=d
   · subst h
     have e:readsM ⟨4,s,s,m⟩=[s]:=by simp [readsM,hv,readsK,onceM,ascM]
     rw [e];clear e
     go_enter Tryz.func188,Tryz.ntmps188
     go_wp2_with (first | (go_at_call 169;refine (actionValid_spec _ _ _ _ _).mono ?_;rintro e w1 ⟨rfl,hb1⟩;obtain ⟨hcc,hff⟩:=bcell hb1;have hz:=hb1.size))
     go_ret
     exact newL_lit [s] (((Below.refl _ _).alloc (Nat.le_refl _) _).trans (hb1.mono (by simp))) (by simp) (fun x hx=>by simp at hx;subst hx;exact wf_keyS HBD.out.1)
   · have h2:(s == d)=false:=by simpa using h
     have HE:=Lib.hid (show readsM ⟨4,s,d,m⟩=[s,d] by simp [readsM,hv,readsK,onceM,h])
     rw [HE.out];clear HE
     go_enter Tryz.func188,Tryz.ntmps188
     go_wp2_with (first | (go_at_call 169;refine (actionValid_spec _ _ _ _ _).mono ?_;rintro e w1 ⟨rfl,hb1⟩;obtain ⟨hcc,hff⟩:=bcell hb1;have hz:=hb1.size))
     go_ret
     exact newL_lit [s,d] (((Below.refl _ _).alloc (Nat.le_refl _) _).trans (hb1.mono (by simp))) (by simp) (fun x hx=>by simp at hx;rcases hx with rfl | rfl;exact wf_keyS HBD.out.1;exact wf_keyS HBD.out.2.1)
 · have hbd:=actB_bd hv
   have HBD:=Lib.hid hbd;clear hbd
   by_cases h:s=d
   · subst h
     have e:readsM ⟨5,s,s,m⟩=[s]:=by simp [readsM,hv,readsK,onceM,ascM]
     rw [e];clear e
     go_enter Tryz.func188,Tryz.ntmps188
     go_wp2_with (first | (go_at_call 169;refine (actionValid_spec _ _ _ _ _).mono ?_;rintro e w1 ⟨rfl,hb1⟩;obtain ⟨hcc,hff⟩:=bcell hb1;have hz:=hb1.size))
     go_ret
     exact newL_lit [s] (((Below.refl _ _).alloc (Nat.le_refl _) _).trans (hb1.mono (by simp))) (by simp) (fun x hx=>by simp at hx;subst hx;exact wf_keyS HBD.out.1)
   · have h2:(s == d)=false:=by simpa using h
     have HE:=Lib.hid (show readsM ⟨5,s,d,m⟩=[s,d] by simp [readsM,hv,readsK,onceM,h])
     rw [HE.out];clear HE
     go_enter Tryz.func188,Tryz.ntmps188
     go_wp2_with (first | (go_at_call 169;refine (actionValid_spec _ _ _ _ _).mono ?_;rintro e w1 ⟨rfl,hb1⟩;obtain ⟨hcc,hff⟩:=bcell hb1;have hz:=hb1.size))
     go_ret
     exact newL_lit [s,d] (((Below.refl _ _).alloc (Nat.le_refl _) _).trans (hb1.mono (by simp))) (by simp) (fun x hx=>by simp at hx;rcases hx with rfl | rfl;exact wf_keyS HBD.out.1;exact wf_keyS HBD.out.2.1)
 · have hbd:=actB_bd hv
   have HBD:=Lib.hid hbd;clear hbd
   have e:readsM ⟨6,s,d,m⟩=[s]:=by simp [readsM,hv,readsK,onceM,ascM]
   rw [e];clear e
   go_enter Tryz.func188,Tryz.ntmps188
   go_wp2_with (first | (go_at_call 169;refine (actionValid_spec _ _ _ _ _).mono ?_;rintro e w1 ⟨rfl,hb1⟩;obtain ⟨hcc,hff⟩:=bcell hb1;have hz:=hb1.size))
   go_ret
   exact newL_lit [s] (((Below.refl _ _).alloc (Nat.le_refl _) _).trans (hb1.mono (by simp))) (by simp) (fun x hx=>by simp at hx;subst hx;exact wf_keyS HBD.out.1)
 · rw [actB_kind hk] at hv;cases hv
end Go.Proofs.YtpnjgmgmakmgeaaGreat
