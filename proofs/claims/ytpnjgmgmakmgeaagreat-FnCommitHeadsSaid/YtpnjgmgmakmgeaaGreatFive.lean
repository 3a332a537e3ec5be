/- Texts of ours that stand together: Deed, DeedKeys, ImplActs -/
import Derived.Test.YtpnjgmgmakmgeaaGreatActs
import Derived.Test.YtpnjgmgmakmgeaaGreatTwo
/- The contracts of the program's deeds: one kind after the other. -/
namespace Go.Proofs.YtpnjgmgmakmgeaaGreat
open Go.RowKit
set_option linter.unusedVariables false
def DeedIs (v:Value) (b:Bool) (w:World) (e:Ending) (w':World):Prop:=e = .returned (.tuple #[v,.bool b])∧Below w.heap.size w w'
theorem deedOf_put (s d m:Int) (w:World) :
  Calls Tryz.prog 187 #[.agg #[.int .i64 1,.int .i64 s,.int .i64 d,.int .i64 m]] w (DeedIs (.iface 195 (.agg #[.int .i64 1,.int .i64 s,.int .i64 d,.int .i64 m])) true w):=by
 go_enter Tryz.func187,Tryz.ntmps187
 go_wp2
 go_ret2
 exact ⟨rfl,(Below.refl _ _).alloc (Nat.le_refl _) _⟩
theorem rest_put (k s d m:Int) (w:World) :
  Calls Tryz.prog 223 #[.agg #[.int .i64 k,.int .i64 s,.int .i64 d,.int .i64 m]] w (BoolB (decide (d=0)) w):=by
 by_cases h:d=0
 · subst h
   go_enter Tryz.func223,Tryz.ntmps223
   go_wp2
   go_ret
   exact ⟨rfl,(Below.refl _ _).alloc (Nat.le_refl _) _⟩
 · have e:decide (d=0)=false:=by simpa using h
   have e2:(d == 0)=false:=by simpa using h
   have HE:=Lib.hid e
   clear h e
   go_enter Tryz.func223,Tryz.ntmps223
   go_wp2
   go_ret
   exact ⟨by rw [HE.out];rfl,(Below.refl _ _).alloc (Nat.le_refl _) _⟩
theorem deedOf_move (s d m:Int) (w:World) :
  Calls Tryz.prog 187 #[.agg #[.int .i64 2,.int .i64 s,.int .i64 d,.int .i64 m]] w (DeedIs (.iface 196 (.agg #[.int .i64 2,.int .i64 s,.int .i64 d,.int .i64 m])) true w):=by
 go_enter Tryz.func187,Tryz.ntmps187
 go_wp2
 go_ret2
 exact ⟨rfl,(Below.refl _ _).alloc (Nat.le_refl _) _⟩
theorem rest_move (k s d m:Int) (w:World) :
  Calls Tryz.prog 228 #[.agg #[.int .i64 k,.int .i64 s,.int .i64 d,.int .i64 m]] w (BoolB true w):=by
 go_enter Tryz.func228,Tryz.ntmps228
 go_wp2
 go_ret
 exact ⟨rfl,(Below.refl _ _).alloc (Nat.le_refl _) _⟩
theorem deedOf_copy (s d m:Int) (w:World) :
  Calls Tryz.prog 187 #[.agg #[.int .i64 3,.int .i64 s,.int .i64 d,.int .i64 m]] w (DeedIs (.iface 197 (.agg #[.int .i64 3,.int .i64 s,.int .i64 d,.int .i64 m])) true w):=by
 go_enter Tryz.func187,Tryz.ntmps187
 go_wp2
 go_ret2
 exact ⟨rfl,(Below.refl _ _).alloc (Nat.le_refl _) _⟩
theorem rest_copy (k s d m:Int) (w:World) :
  Calls Tryz.prog 235 #[.agg #[.int .i64 k,.int .i64 s,.int .i64 d,.int .i64 m]] w (BoolB (decide (m=0)) w):=by
 by_cases h:m=0
 · subst h
   go_enter Tryz.func235,Tryz.ntmps235
   go_wp2
   go_ret
   exact ⟨rfl,(Below.refl _ _).alloc (Nat.le_refl _) _⟩
 · have e:decide (m=0)=false:=by simpa using h
   have e2:(m == 0)=false:=by simpa using h
   have HE:=Lib.hid e
   clear h e
   go_enter Tryz.func235,Tryz.ntmps235
   go_wp2
   go_ret
   exact ⟨by rw [HE.out];rfl,(Below.refl _ _).alloc (Nat.le_refl _) _⟩
theorem deedOf_swap (s d m:Int) (w:World) :
  Calls Tryz.prog 187 #[.agg #[.int .i64 4,.int .i64 s,.int .i64 d,.int .i64 m]] w (DeedIs (.iface 198 (.agg #[.int .i64 4,.int .i64 s,.int .i64 d,.int .i64 m])) true w):=by
 go_enter Tryz.func187,Tryz.ntmps187
 go_wp2
 go_ret2
 exact ⟨rfl,(Below.refl _ _).alloc (Nat.le_refl _) _⟩
theorem rest_swap (k s d m:Int) (w:World) :
  Calls Tryz.prog 239 #[.agg #[.int .i64 k,.int .i64 s,.int .i64 d,.int .i64 m]] w (BoolB (decide (m=0)) w):=by
 by_cases h:m=0
 · subst h
   go_enter Tryz.func239,Tryz.ntmps239
   go_wp2
   go_ret
   exact ⟨rfl,(Below.refl _ _).alloc (Nat.le_refl _) _⟩
 · have e:decide (m=0)=false:=by simpa using h
   have e2:(m == 0)=false:=by simpa using h
   have HE:=Lib.hid e
   clear h e
   go_enter Tryz.func239,Tryz.ntmps239
   go_wp2
   go_ret
   exact ⟨by rw [HE.out];rfl,(Below.refl _ _).alloc (Nat.le_refl _) _⟩
theorem deedOf_add (s d m:Int) (w:World) :
  Calls Tryz.prog 187 #[.agg #[.int .i64 5,.int .i64 s,.int .i64 d,.int .i64 m]] w (DeedIs (.iface 199 (.agg #[.int .i64 5,.int .i64 s,.int .i64 d,.int .i64 m])) true w):=by
 go_enter Tryz.func187,Tryz.ntmps187
 go_wp2
 go_ret2
 exact ⟨rfl,(Below.refl _ _).alloc (Nat.le_refl _) _⟩
theorem rest_add (k s d m:Int) (w:World) :
  Calls Tryz.prog 243 #[.agg #[.int .i64 k,.int .i64 s,.int .i64 d,.int .i64 m]] w (BoolB (decide (m=0)) w):=by
 by_cases h:m=0
 · subst h
   go_enter Tryz.func243,Tryz.ntmps243
   go_wp2
   go_ret
   exact ⟨rfl,(Below.refl _ _).alloc (Nat.le_refl _) _⟩
 · have e:decide (m=0)=false:=by simpa using h
   have e2:(m == 0)=false:=by simpa using h
   have HE:=Lib.hid e
   clear h e
   go_enter Tryz.func243,Tryz.ntmps243
   go_wp2
   go_ret
   exact ⟨by rw [HE.out];rfl,(Below.refl _ _).alloc (Nat.le_refl _) _⟩
theorem deedOf_take (s d m:Int) (w:World) :
  Calls Tryz.prog 187 #[.agg #[.int .i64 6,.int .i64 s,.int .i64 d,.int .i64 m]] w (DeedIs (.iface 200 (.agg #[.int .i64 6,.int .i64 s,.int .i64 d,.int .i64 m])) true w):=by
 go_enter Tryz.func187,Tryz.ntmps187
 go_wp2
 go_ret2
 exact ⟨rfl,(Below.refl _ _).alloc (Nat.le_refl _) _⟩
theorem rest_take (k s d m:Int) (w:World) :
  Calls Tryz.prog 247 #[.agg #[.int .i64 k,.int .i64 s,.int .i64 d,.int .i64 m]] w (BoolB (decide (d=0)) w):=by
 by_cases h:d=0
 · subst h
   go_enter Tryz.func247,Tryz.ntmps247
   go_wp2
   go_ret
   exact ⟨rfl,(Below.refl _ _).alloc (Nat.le_refl _) _⟩
 · have e:decide (d=0)=false:=by simpa using h
   have e2:(d == 0)=false:=by simpa using h
   have HE:=Lib.hid e
   clear h e
   go_enter Tryz.func247,Tryz.ntmps247
   go_wp2
   go_ret
   exact ⟨by rw [HE.out];rfl,(Below.refl _ _).alloc (Nat.le_refl _) _⟩
theorem deedOf_none (k s d m:Int) (w:World) (h:k≠1∧k≠2∧k≠3∧k≠4∧k≠5∧k≠6) :
  Calls Tryz.prog 187 #[.agg #[.int .i64 k,.int .i64 s,.int .i64 d,.int .i64 m]] w (DeedIs .nilIface false w):=by
 obtain ⟨h1,h2,h3,h4,h5,h6⟩:=h
 go_enter Tryz.func187,Tryz.ntmps187
 go_wp2
 go_ret2
 exact ⟨rfl,(Below.refl _ _).alloc (Nat.le_refl _) _⟩
theorem validDeed_put_no (s d m:Int) (w:World) (h:actB ⟨1,s,d,m⟩=false) :
  Calls Tryz.prog 178 #[.agg #[.int .i64 1,.int .i64 s,.int .i64 d,.int .i64 m]] w (DeedIs .nilIface false w):=by
 have H:=Lib.hid h;clear h
 have hm : ∀ (q : Nat) (w : World), (method (q + 1) 195 (.agg #[.int .i64 1, .int .i64 s, .int .i64 d, .int .i64 m]) "loop.example/blockexecutor/impl.restIsZero").run Tryz.prog w = .ok (223, .agg #[.int .i64 1, .int .i64 s, .int .i64 d, .int .i64 m]) w := fun _ _ => by kernel_rfl
 go_enter Tryz.func178,Tryz.ntmps178
 go_wp2_with fail
 refine (deedOf_put _ _ _ _).mono ?_;rintro e w1 ⟨rfl,hb1⟩
 obtain ⟨hc,hf⟩:=bcell hb1
 have hz:=hb1.size
 cases e1:inB s 0 31 with
 | false =>
  go_wp2_with (first | (go_at_call 161;refine (isKey_impl _ _).mono ?_;rintro e w' ⟨rfl,rfl⟩) | (go_at_call 162;refine (isValue_impl _ _).mono ?_;rintro e w' ⟨rfl,rfl⟩) | (go_at_call 223;refine (rest_put _ _ _ _ _).mono ?_;rintro e w2 ⟨rfl,hb2⟩))
  go_ret2
  exact ⟨rfl,((Below.refl _ _).alloc (Nat.le_refl _) _).trans (hb1.mono (by simp))⟩
 | true =>
 cases e2:inB d 0 31 with
 | false =>
  go_wp2_with (first | (go_at_call 161;refine (isKey_impl _ _).mono ?_;rintro e w' ⟨rfl,rfl⟩) | (go_at_call 162;refine (isValue_impl _ _).mono ?_;rintro e w' ⟨rfl,rfl⟩) | (go_at_call 223;refine (rest_put _ _ _ _ _).mono ?_;rintro e w2 ⟨rfl,hb2⟩))
  go_ret2
  exact ⟨rfl,((Below.refl _ _).alloc (Nat.le_refl _) _).trans (hb1.mono (by simp))⟩
 | true =>
 cases e3:inB m 0 1000000 with
 | false =>
  go_wp2_with (first | (go_at_call 161;refine (isKey_impl _ _).mono ?_;rintro e w' ⟨rfl,rfl⟩) | (go_at_call 162;refine (isValue_impl _ _).mono ?_;rintro e w' ⟨rfl,rfl⟩) | (go_at_call 223;refine (rest_put _ _ _ _ _).mono ?_;rintro e w2 ⟨rfl,hb2⟩))
  go_ret2
  exact ⟨rfl,((Below.refl _ _).alloc (Nat.le_refl _) _).trans (hb1.mono (by simp))⟩
 | true =>
  have e4:decide (d=0)=false:=by have:=H.out;rw [actB_rest e1 e2 e3] at this;exact this
  have HE:=Lib.hid e4;clear e4
  go_wp2_with (first | (go_at_call 161;refine (isKey_impl _ _).mono ?_;rintro e w' ⟨rfl,rfl⟩) | (go_at_call 162;refine (isValue_impl _ _).mono ?_;rintro e w' ⟨rfl,rfl⟩) | (go_at_call 223;refine (rest_put _ _ _ _ _).mono ?_;rintro e w2 ⟨rfl,hb2⟩;rw [HE.out]))
  go_ret2
  exact ⟨rfl,(((Below.refl _ _).alloc (Nat.le_refl _) _).trans (hb1.mono (by simp))).trans (hb2.mono (by simp at hz;omega))⟩
theorem validDeed_put_yes (s d m:Int) (w:World) (h:actB ⟨1,s,d,m⟩=true) :
  Calls Tryz.prog 178 #[.agg #[.int .i64 1,.int .i64 s,.int .i64 d,.int .i64 m]] w (DeedIs (.iface 195 (.agg #[.int .i64 1,.int .i64 s,.int .i64 d,.int .i64 m])) true w):=by
 have h':=h
 unfold actB at h'
 simp only [Bool.and_eq_true] at h'
 obtain ⟨⟨⟨e1,e2⟩,e3⟩,e4⟩:=h'
 have e5:decide (d=0)=true:=e4
 have HE:=Lib.hid e5;clear h e4 e5
 have hm : ∀ (q : Nat) (w : World), (method (q + 1) 195 (.agg #[.int .i64 1, .int .i64 s, .int .i64 d, .int .i64 m]) "loop.example/blockexecutor/impl.restIsZero").run Tryz.prog w = .ok (223, .agg #[.int .i64 1, .int .i64 s, .int .i64 d, .int .i64 m]) w := fun _ _ => by kernel_rfl
 go_enter Tryz.func178,Tryz.ntmps178
 go_wp2_with fail
 refine (deedOf_put _ _ _ _).mono ?_;rintro e w1 ⟨rfl,hb1⟩
 obtain ⟨hc,hf⟩:=bcell hb1
 have hz:=hb1.size
 go_wp2_with (first | (go_at_call 161;refine (isKey_impl _ _).mono ?_;rintro e w' ⟨rfl,rfl⟩) | (go_at_call 162;refine (isValue_impl _ _).mono ?_;rintro e w' ⟨rfl,rfl⟩) | (go_at_call 223;refine (rest_put _ _ _ _ _).mono ?_;rintro e w2 ⟨rfl,hb2⟩;rw [HE.out]))
 go_ret2
 exact ⟨rfl,(((Below.refl _ _).alloc (Nat.le_refl _) _).trans (hb1.mono (by simp))).trans (hb2.mono (by simp at hz;omega))⟩
theorem validDeed_move_no (s d m:Int) (w:World) (h:actB ⟨2,s,d,m⟩=false) :
  Calls Tryz.prog 178 #[.agg #[.int .i64 2,.int .i64 s,.int .i64 d,.int .i64 m]] w (DeedIs .nilIface false w):=by
 have H:=Lib.hid h;clear h
 have hm : ∀ (q : Nat) (w : World), (method (q + 1) 196 (.agg #[.int .i64 2, .int .i64 s, .int .i64 d, .int .i64 m]) "loop.example/blockexecutor/impl.restIsZero").run Tryz.prog w = .ok (228, .agg #[.int .i64 2, .int .i64 s, .int .i64 d, .int .i64 m]) w := fun _ _ => by kernel_rfl
 go_enter Tryz.func178,Tryz.ntmps178
 go_wp2_with fail
 refine (deedOf_move _ _ _ _).mono ?_;rintro e w1 ⟨rfl,hb1⟩
 obtain ⟨hc,hf⟩:=bcell hb1
 have hz:=hb1.size
 cases e1:inB s 0 31 with
 | false =>
  go_wp2_with (first | (go_at_call 161;refine (isKey_impl _ _).mono ?_;rintro e w' ⟨rfl,rfl⟩) | (go_at_call 162;refine (isValue_impl _ _).mono ?_;rintro e w' ⟨rfl,rfl⟩) | (go_at_call 228;refine (rest_move _ _ _ _ _).mono ?_;rintro e w2 ⟨rfl,hb2⟩))
  go_ret2
  exact ⟨rfl,((Below.refl _ _).alloc (Nat.le_refl _) _).trans (hb1.mono (by simp))⟩
 | true =>
 cases e2:inB d 0 31 with
 | false =>
  go_wp2_with (first | (go_at_call 161;refine (isKey_impl _ _).mono ?_;rintro e w' ⟨rfl,rfl⟩) | (go_at_call 162;refine (isValue_impl _ _).mono ?_;rintro e w' ⟨rfl,rfl⟩) | (go_at_call 228;refine (rest_move _ _ _ _ _).mono ?_;rintro e w2 ⟨rfl,hb2⟩))
  go_ret2
  exact ⟨rfl,((Below.refl _ _).alloc (Nat.le_refl _) _).trans (hb1.mono (by simp))⟩
 | true =>
 cases e3:inB m 0 1000000 with
 | false =>
  go_wp2_with (first | (go_at_call 161;refine (isKey_impl _ _).mono ?_;rintro e w' ⟨rfl,rfl⟩) | (go_at_call 162;refine (isValue_impl _ _).mono ?_;rintro e w' ⟨rfl,rfl⟩) | (go_at_call 228;refine (rest_move _ _ _ _ _).mono ?_;rintro e w2 ⟨rfl,hb2⟩))
  go_ret2
  exact ⟨rfl,((Below.refl _ _).alloc (Nat.le_refl _) _).trans (hb1.mono (by simp))⟩
 | true =>
  have:=H.out;rw [actB_rest e1 e2 e3] at this;exact absurd this (by simp [restB])
theorem validDeed_move_yes (s d m:Int) (w:World) (h:actB ⟨2,s,d,m⟩=true) :
  Calls Tryz.prog 178 #[.agg #[.int .i64 2,.int .i64 s,.int .i64 d,.int .i64 m]] w (DeedIs (.iface 196 (.agg #[.int .i64 2,.int .i64 s,.int .i64 d,.int .i64 m])) true w):=by
 have h':=h
 unfold actB at h'
 simp only [Bool.and_eq_true] at h'
 obtain ⟨⟨⟨e1,e2⟩,e3⟩,e4⟩:=h'
 have e5:true=true:=e4
 have HE:=Lib.hid e5;clear h e4 e5
 have hm : ∀ (q : Nat) (w : World), (method (q + 1) 196 (.agg #[.int .i64 2, .int .i64 s, .int .i64 d, .int .i64 m]) "loop.example/blockexecutor/impl.restIsZero").run Tryz.prog w = .ok (228, .agg #[.int .i64 2, .int .i64 s, .int .i64 d, .int .i64 m]) w := fun _ _ => by kernel_rfl
 go_enter Tryz.func178,Tryz.ntmps178
 go_wp2_with fail
 refine (deedOf_move _ _ _ _).mono ?_;rintro e w1 ⟨rfl,hb1⟩
 obtain ⟨hc,hf⟩:=bcell hb1
 have hz:=hb1.size
 go_wp2_with (first | (go_at_call 161;refine (isKey_impl _ _).mono ?_;rintro e w' ⟨rfl,rfl⟩) | (go_at_call 162;refine (isValue_impl _ _).mono ?_;rintro e w' ⟨rfl,rfl⟩) | (go_at_call 228;refine (rest_move _ _ _ _ _).mono ?_;rintro e w2 ⟨rfl,hb2⟩))
 go_ret2
 exact ⟨rfl,(((Below.refl _ _).alloc (Nat.le_refl _) _).trans (hb1.mono (by simp))).trans (hb2.mono (by simp at hz;omega))⟩
theorem validDeed_copy_no (s d m:Int) (w:World) (h:actB ⟨3,s,d,m⟩=false) :
  Calls Tryz.prog 178 #[.agg #[.int .i64 3,.int .i64 s,.int .i64 d,.int .i64 m]] w (DeedIs .nilIface false w):=by
 have H:=Lib.hid h;clear h
 have hm : ∀ (q : Nat) (w : World), (method (q + 1) 197 (.agg #[.int .i64 3, .int .i64 s, .int .i64 d, .int .i64 m]) "loop.example/blockexecutor/impl.restIsZero").run Tryz.prog w = .ok (235, .agg #[.int .i64 3, .int .i64 s, .int .i64 d, .int .i64 m]) w := fun _ _ => by kernel_rfl
 go_enter Tryz.func178,Tryz.ntmps178
 go_wp2_with fail
 refine (deedOf_copy _ _ _ _).mono ?_;rintro e w1 ⟨rfl,hb1⟩
 obtain ⟨hc,hf⟩:=bcell hb1
 have hz:=hb1.size
 cases e1:inB s 0 31 with
 | false =>
  go_wp2_with (first | (go_at_call 161;refine (isKey_impl _ _).mono ?_;rintro e w' ⟨rfl,rfl⟩) | (go_at_call 162;refine (isValue_impl _ _).mono ?_;rintro e w' ⟨rfl,rfl⟩) | (go_at_call 235;refine (rest_copy _ _ _ _ _).mono ?_;rintro e w2 ⟨rfl,hb2⟩))
  go_ret2
  exact ⟨rfl,((Below.refl _ _).alloc (Nat.le_refl _) _).trans (hb1.mono (by simp))⟩
 | true =>
 cases e2:inB d 0 31 with
 | false =>
  go_wp2_with (first | (go_at_call 161;refine (isKey_impl _ _).mono ?_;rintro e w' ⟨rfl,rfl⟩) | (go_at_call 162;refine (isValue_impl _ _).mono ?_;rintro e w' ⟨rfl,rfl⟩) | (go_at_call 235;refine (rest_copy _ _ _ _ _).mono ?_;rintro e w2 ⟨rfl,hb2⟩))
  go_ret2
  exact ⟨rfl,((Below.refl _ _).alloc (Nat.le_refl _) _).trans (hb1.mono (by simp))⟩
 | true =>
 cases e3:inB m 0 1000000 with
 | false =>
  go_wp2_with (first | (go_at_call 161;refine (isKey_impl _ _).mono ?_;rintro e w' ⟨rfl,rfl⟩) | (go_at_call 162;refine (isValue_impl _ _).mono ?_;rintro e w' ⟨rfl,rfl⟩) | (go_at_call 235;refine (rest_copy _ _ _ _ _).mono ?_;rintro e w2 ⟨rfl,hb2⟩))
  go_ret2
  exact ⟨rfl,((Below.refl _ _).alloc (Nat.le_refl _) _).trans (hb1.mono (by simp))⟩
 | true =>
  have e4:decide (m=0)=false:=by have:=H.out;rw [actB_rest e1 e2 e3] at this;exact this
  have HE:=Lib.hid e4;clear e4
  go_wp2_with (first | (go_at_call 161;refine (isKey_impl _ _).mono ?_;rintro e w' ⟨rfl,rfl⟩) | (go_at_call 162;refine (isValue_impl _ _).mono ?_;rintro e w' ⟨rfl,rfl⟩) | (go_at_call 235;refine (rest_copy _ _ _ _ _).mono ?_;rintro e w2 ⟨rfl,hb2⟩;rw [HE.out]))
  go_ret2
  exact ⟨rfl,(((Below.refl _ _).alloc (Nat.le_refl _) _).trans (hb1.mono (by simp))).trans (hb2.mono (by simp at hz;omega))⟩
theorem validDeed_copy_yes (s d m:Int) (w:World) (h:actB ⟨3,s,d,m⟩=true) :
  Calls Tryz.prog 178 #[.agg #[.int .i64 3,.int .i64 s,.int .i64 d,.int .i64 m]] w (DeedIs (.iface 197 (.agg #[.int .i64 3,.int .i64 s,.int .i64 d,.int .i64 m])) true w):=by
 have h':=h
 unfold actB at h'
 simp only [Bool.and_eq_true] at h'
 obtain ⟨⟨⟨e1,e2⟩,e3⟩,e4⟩:=h'
 have e5:decide (m=0)=true:=e4
 have HE:=Lib.hid e5;clear h e4 e5
 have hm : ∀ (q : Nat) (w : World), (method (q + 1) 197 (.agg #[.int .i64 3, .int .i64 s, .int .i64 d, .int .i64 m]) "loop.example/blockexecutor/impl.restIsZero").run Tryz.prog w = .ok (235, .agg #[.int .i64 3, .int .i64 s, .int .i64 d, .int .i64 m]) w := fun _ _ => by kernel_rfl
 go_enter Tryz.func178,Tryz.ntmps178
 go_wp2_with fail
 refine (deedOf_copy _ _ _ _).mono ?_;rintro e w1 ⟨rfl,hb1⟩
 obtain ⟨hc,hf⟩:=bcell hb1
 have hz:=hb1.size
 go_wp2_with (first | (go_at_call 161;refine (isKey_impl _ _).mono ?_;rintro e w' ⟨rfl,rfl⟩) | (go_at_call 162;refine (isValue_impl _ _).mono ?_;rintro e w' ⟨rfl,rfl⟩) | (go_at_call 235;refine (rest_copy _ _ _ _ _).mono ?_;rintro e w2 ⟨rfl,hb2⟩;rw [HE.out]))
 go_ret2
 exact ⟨rfl,(((Below.refl _ _).alloc (Nat.le_refl _) _).trans (hb1.mono (by simp))).trans (hb2.mono (by simp at hz;omega))⟩
theorem validDeed_swap_no (s d m:Int) (w:World) (h:actB ⟨4,s,d,m⟩=false) :
  Calls Tryz.prog 178 #[.agg #[.int .i64 4,.int .i64 s,.int .i64 d,.int .i64 m]] w (DeedIs .nilIface false w):=by
 have H:=Lib.hid h;clear h
 have hm : ∀ (q : Nat) (w : World), (method (q + 1) 198 (.agg #[.int .i64 4, .int .i64 s, .int .i64 d, .int .i64 m]) "loop.example/blockexecutor/impl.restIsZero").run Tryz.prog w = .ok (239, .agg #[.int .i64 4, .int .i64 s, .int .i64 d, .int .i64 m]) w := fun _ _ => by kernel_rfl
 go_enter Tryz.func178,Tryz.ntmps178
 go_wp2_with fail
 refine (deedOf_swap _ _ _ _).mono ?_;rintro e w1 ⟨rfl,hb1⟩
 obtain ⟨hc,hf⟩:=bcell hb1
 have hz:=hb1.size
 cases e1:inB s 0 31 with
 | false =>
  go_wp2_with (first | (go_at_call 161;refine (isKey_impl _ _).mono ?_;rintro e w' ⟨rfl,rfl⟩) | (go_at_call 162;refine (isValue_impl _ _).mono ?_;rintro e w' ⟨rfl,rfl⟩) | (go_at_call 239;refine (rest_swap _ _ _ _ _).mono ?_;rintro e w2 ⟨rfl,hb2⟩))
  go_ret2
  exact ⟨rfl,((Below.refl _ _).alloc (Nat.le_refl _) _).trans (hb1.mono (by simp))⟩
 | true =>
 cases e2:inB d 0 31 with
 | false =>
  go_wp2_with (first | (go_at_call 161;refine (isKey_impl _ _).mono ?_;rintro e w' ⟨rfl,rfl⟩) | (go_at_call 162;refine (isValue_impl _ _).mono ?_;rintro e w' ⟨rfl,rfl⟩) | (go_at_call 239;refine (rest_swap _ _ _ _ _).mono ?_;rintro e w2 ⟨rfl,hb2⟩))
  go_ret2
  exact ⟨rfl,((Below.refl _ _).alloc (Nat.le_refl _) _).trans (hb1.mono (by simp))⟩
 | true =>
 cases e3:inB m 0 1000000 with
 | false =>
  go_wp2_with (first | (go_at_call 161;refine (isKey_impl _ _).mono ?_;rintro e w' ⟨rfl,rfl⟩) | (go_at_call 162;refine (isValue_impl _ _).mono ?_;rintro e w' ⟨rfl,rfl⟩) | (go_at_call 239;refine (rest_swap _ _ _ _ _).mono ?_;rintro e w2 ⟨rfl,hb2⟩))
  go_ret2
  exact ⟨rfl,((Below.refl _ _).alloc (Nat.le_refl _) _).trans (hb1.mono (by simp))⟩
 | true =>
  have e4:decide (m=0)=false:=by have:=H.out;rw [actB_rest e1 e2 e3] at this;exact this
  have HE:=Lib.hid e4;clear e4
  go_wp2_with (first | (go_at_call 161;refine (isKey_impl _ _).mono ?_;rintro e w' ⟨rfl,rfl⟩) | (go_at_call 162;refine (isValue_impl _ _).mono ?_;rintro e w' ⟨rfl,rfl⟩) | (go_at_call 239;refine (rest_swap _ _ _ _ _).mono ?_;rintro e w2 ⟨rfl,hb2⟩;rw [HE.out]))
  go_ret2
  exact ⟨rfl,(((Below.refl _ _).alloc (Nat.le_refl _) _).trans (hb1.mono (by simp))).trans (hb2.mono (by simp at hz;omega))⟩
theorem validDeed_swap_yes (s d m:Int) (w:World) (h:actB ⟨4,s,d,m⟩=true) :
  Calls Tryz.prog 178 #[.agg #[.int .i64 4,.int .i64 s,.int .i64 d,.int .i64 m]] w (DeedIs (.iface 198 (.agg #[.int .i64 4,.int .i64 s,.int .i64 d,.int .i64 m])) true w):=by
 have h':=h
 unfold actB at h'
 simp only [Bool.and_eq_true] at h'
 obtain ⟨⟨⟨e1,e2⟩,e3⟩,e4⟩:=h'
 have e5:decide (m=0)=true:=e4
 have HE:=Lib.hid e5;clear h e4 e5
 have hm : ∀ (q : Nat) (w : World), (method (q + 1) 198 (.agg #[.int .i64 4, .int .i64 s, .int .i64 d, .int .i64 m]) "loop.example/blockexecutor/impl.restIsZero").run Tryz.prog w = .ok (239, .agg #[.int .i64 4, .int .i64 s, .int .i64 d, .int .i64 m]) w := fun _ _ => by kernel_rfl
 go_enter Tryz.func178,Tryz.ntmps178
 go_wp2_with fail
 refine (deedOf_swap _ _ _ _).mono ?_;rintro e w1 ⟨rfl,hb1⟩
 obtain ⟨hc,hf⟩:=bcell hb1
 have hz:=hb1.size
 go_wp2_with (first | (go_at_call 161;refine (isKey_impl _ _).mono ?_;rintro e w' ⟨rfl,rfl⟩) | (go_at_call 162;refine (isValue_impl _ _).mono ?_;rintro e w' ⟨rfl,rfl⟩) | (go_at_call 239;refine (rest_swap _ _ _ _ _).mono ?_;rintro e w2 ⟨rfl,hb2⟩;rw [HE.out]))
 go_ret2
 exact ⟨rfl,(((Below.refl _ _).alloc (Nat.le_refl _) _).trans (hb1.mono (by simp))).trans (hb2.mono (by simp at hz;omega))⟩
theorem validDeed_add_no (s d m:Int) (w:World) (h:actB ⟨5,s,d,m⟩=false) :
  Calls Tryz.prog 178 #[.agg #[.int .i64 5,.int .i64 s,.int .i64 d,.int .i64 m]] w (DeedIs .nilIface false w):=by
 have H:=Lib.hid h;clear h
 have hm : ∀ (q : Nat) (w : World), (method (q + 1) 199 (.agg #[.int .i64 5, .int .i64 s, .int .i64 d, .int .i64 m]) "loop.example/blockexecutor/impl.restIsZero").run Tryz.prog w = .ok (243, .agg #[.int .i64 5, .int .i64 s, .int .i64 d, .int .i64 m]) w := fun _ _ => by kernel_rfl
 go_enter Tryz.func178,Tryz.ntmps178
 go_wp2_with fail
 refine (deedOf_add _ _ _ _).mono ?_;rintro e w1 ⟨rfl,hb1⟩
 obtain ⟨hc,hf⟩:=bcell hb1
 have hz:=hb1.size
 cases e1:inB s 0 31 with
 | false =>
  go_wp2_with (first | (go_at_call 161;refine (isKey_impl _ _).mono ?_;rintro e w' ⟨rfl,rfl⟩) | (go_at_call 162;refine (isValue_impl _ _).mono ?_;rintro e w' ⟨rfl,rfl⟩) | (go_at_call 243;refine (rest_add _ _ _ _ _).mono ?_;rintro e w2 ⟨rfl,hb2⟩))
  go_ret2
  exact ⟨rfl,((Below.refl _ _).alloc (Nat.le_refl _) _).trans (hb1.mono (by simp))⟩
 | true =>
 cases e2:inB d 0 31 with
 | false =>
  go_wp2_with (first | (go_at_call 161;refine (isKey_impl _ _).mono ?_;rintro e w' ⟨rfl,rfl⟩) | (go_at_call 162;refine (isValue_impl _ _).mono ?_;rintro e w' ⟨rfl,rfl⟩) | (go_at_call 243;refine (rest_add _ _ _ _ _).mono ?_;rintro e w2 ⟨rfl,hb2⟩))
  go_ret2
  exact ⟨rfl,((Below.refl _ _).alloc (Nat.le_refl _) _).trans (hb1.mono (by simp))⟩
 | true =>
 cases e3:inB m 0 1000000 with
 | false =>
  go_wp2_with (first | (go_at_call 161;refine (isKey_impl _ _).mono ?_;rintro e w' ⟨rfl,rfl⟩) | (go_at_call 162;refine (isValue_impl _ _).mono ?_;rintro e w' ⟨rfl,rfl⟩) | (go_at_call 243;refine (rest_add _ _ _ _ _).mono ?_;rintro e w2 ⟨rfl,hb2⟩))
  go_ret2
  exact ⟨rfl,((Below.refl _ _).alloc (Nat.le_refl _) _).trans (hb1.mono (by simp))⟩
 | true =>
  have e4:decide (m=0)=false:=by have:=H.out;rw [actB_rest e1 e2 e3] at this;exact this
  have HE:=Lib.hid e4;clear e4
  go_wp2_with (first | (go_at_call 161;refine (isKey_impl _ _).mono ?_;rintro e w' ⟨rfl,rfl⟩) | (go_at_call 162;refine (isValue_impl _ _).mono ?_;rintro e w' ⟨rfl,rfl⟩) | (go_at_call 243;refine (rest_add _ _ _ _ _).mono ?_;rintro e w2 ⟨rfl,hb2⟩;rw [HE.out]))
  go_ret2
  exact ⟨rfl,(((Below.refl _ _).alloc (Nat.le_refl _) _).trans (hb1.mono (by simp))).trans (hb2.mono (by simp at hz;omega))⟩
theorem validDeed_add_yes (s d m:Int) (w:World) (h:actB ⟨5,s,d,m⟩=true) :
  Calls Tryz.prog 178 #[.agg #[.int .i64 5,.int .i64 s,.int .i64 d,.int .i64 m]] w (DeedIs (.iface 199 (.agg #[.int .i64 5,.int .i64 s,.int .i64 d,.int .i64 m])) true w):=by
 have h':=h
 unfold actB at h'
 simp only [Bool.and_eq_true] at h'
 obtain ⟨⟨⟨e1,e2⟩,e3⟩,e4⟩:=h'
 have e5:decide (m=0)=true:=e4
 have HE:=Lib.hid e5;clear h e4 e5
 have hm : ∀ (q : Nat) (w : World), (method (q + 1) 199 (.agg #[.int .i64 5, .int .i64 s, .int .i64 d, .int .i64 m]) "loop.example/blockexecutor/impl.restIsZero").run Tryz.prog w = .ok (243, .agg #[.int .i64 5, .int .i64 s, .int .i64 d, .int .i64 m]) w := fun _ _ => by kernel_rfl
 go_enter Tryz.func178,Tryz.ntmps178
 go_wp2_with fail
 refine (deedOf_add _ _ _ _).mono ?_;rintro e w1 ⟨rfl,hb1⟩
 obtain ⟨hc,hf⟩:=bcell hb1
 have hz:=hb1.size
 go_wp2_with (first | (go_at_call 161;refine (isKey_impl _ _).mono ?_;rintro e w' ⟨rfl,rfl⟩) | (go_at_call 162;refine (isValue_impl _ _).mono ?_;rintro e w' ⟨rfl,rfl⟩) | (go_at_call 243;refine (rest_add _ _ _ _ _).mono ?_;rintro e w2 ⟨rfl,hb2⟩;rw [HE.out]))
 go_ret2
 exact ⟨rfl,(((Below.refl _ _).alloc (Nat.le_refl _) _).trans (hb1.mono (by simp))).trans (hb2.mono (by simp at hz;omega))⟩
theorem validDeed_take_no (s d m:Int) (w:World) (h:actB ⟨6,s,d,m⟩=false) :
  Calls Tryz.prog 178 #[.agg #[.int .i64 6,.int .i64 s,.int .i64 d,.int .i64 m]] w (DeedIs .nilIface false w):=by
 have H:=Lib.hid h;clear h
 have hm : ∀ (q : Nat) (w : World), (method (q + 1) 200 (.agg #[.int .i64 6, .int .i64 s, .int .i64 d, .int .i64 m]) "loop.example/blockexecutor/impl.restIsZero").run Tryz.prog w = .ok (247, .agg #[.int .i64 6, .int .i64 s, .int .i64 d, .int .i64 m]) w := fun _ _ => by kernel_rfl
 go_enter Tryz.func178,Tryz.ntmps178
 go_wp2_with fail
 refine (deedOf_take _ _ _ _).mono ?_;rintro e w1 ⟨rfl,hb1⟩
 obtain ⟨hc,hf⟩:=bcell hb1
 have hz:=hb1.size
 cases e1:inB s 0 31 with
 | false =>
  go_wp2_with (first | (go_at_call 161;refine (isKey_impl _ _).mono ?_;rintro e w' ⟨rfl,rfl⟩) | (go_at_call 162;refine (isValue_impl _ _).mono ?_;rintro e w' ⟨rfl,rfl⟩) | (go_at_call 247;refine (rest_take _ _ _ _ _).mono ?_;rintro e w2 ⟨rfl,hb2⟩))
  go_ret2
  exact ⟨rfl,((Below.refl _ _).alloc (Nat.le_refl _) _).trans (hb1.mono (by simp))⟩
 | true =>
 cases e2:inB d 0 31 with
 | false =>
  go_wp2_with (first | (go_at_call 161;refine (isKey_impl _ _).mono ?_;rintro e w' ⟨rfl,rfl⟩) | (go_at_call 162;refine (isValue_impl _ _).mono ?_;rintro e w' ⟨rfl,rfl⟩) | (go_at_call 247;refine (rest_take _ _ _ _ _).mono ?_;rintro e w2 ⟨rfl,hb2⟩))
  go_ret2
  exact ⟨rfl,((Below.refl _ _).alloc (Nat.le_refl _) _).trans (hb1.mono (by simp))⟩
 | true =>
 cases e3:inB m 0 1000000 with
 | false =>
  go_wp2_with (first | (go_at_call 161;refine (isKey_impl _ _).mono ?_;rintro e w' ⟨rfl,rfl⟩) | (go_at_call 162;refine (isValue_impl _ _).mono ?_;rintro e w' ⟨rfl,rfl⟩) | (go_at_call 247;refine (rest_take _ _ _ _ _).mono ?_;rintro e w2 ⟨rfl,hb2⟩))
  go_ret2
  exact ⟨rfl,((Below.refl _ _).alloc (Nat.le_refl _) _).trans (hb1.mono (by simp))⟩
 | true =>
  have e4:decide (d=0)=false:=by have:=H.out;rw [actB_rest e1 e2 e3] at this;exact this
  have HE:=Lib.hid e4;clear e4
  go_wp2_with (first | (go_at_call 161;refine (isKey_impl _ _).mono ?_;rintro e w' ⟨rfl,rfl⟩) | (go_at_call 162;refine (isValue_impl _ _).mono ?_;rintro e w' ⟨rfl,rfl⟩) | (go_at_call 247;refine (rest_take _ _ _ _ _).mono ?_;rintro e w2 ⟨rfl,hb2⟩;rw [HE.out]))
  go_ret2
  exact ⟨rfl,(((Below.refl _ _).alloc (Nat.le_refl _) _).trans (hb1.mono (by simp))).trans (hb2.mono (by simp at hz;omega))⟩
theorem validDeed_take_yes (s d m:Int) (w:World) (h:actB ⟨6,s,d,m⟩=true) :
  Calls Tryz.prog 178 #[.agg #[.int .i64 6,.int .i64 s,.int .i64 d,.int .i64 m]] w (DeedIs (.iface 200 (.agg #[.int .i64 6,.int .i64 s,.int .i64 d,.int .i64 m])) true w):=by
 have h':=h
 unfold actB at h'
 simp only [Bool.and_eq_true] at h'
 obtain ⟨⟨⟨e1,e2⟩,e3⟩,e4⟩:=h'
 have e5:decide (d=0)=true:=e4
 have HE:=Lib.hid e5;clear h e4 e5
 have hm : ∀ (q : Nat) (w : World), (method (q + 1) 200 (.agg #[.int .i64 6, .int .i64 s, .int .i64 d, .int .i64 m]) "loop.example/blockexecutor/impl.restIsZero").run Tryz.prog w = .ok (247, .agg #[.int .i64 6, .int .i64 s, .int .i64 d, .int .i64 m]) w := fun _ _ => by kernel_rfl
 go_enter Tryz.func178,Tryz.ntmps178
 go_wp2_with fail
 refine (deedOf_take _ _ _ _).mono ?_;rintro e w1 ⟨rfl,hb1⟩
 obtain ⟨hc,hf⟩:=bcell hb1
 have hz:=hb1.size
 go_wp2_with (first | (go_at_call 161;refine (isKey_impl _ _).mono ?_;rintro e w' ⟨rfl,rfl⟩) | (go_at_call 162;refine (isValue_impl _ _).mono ?_;rintro e w' ⟨rfl,rfl⟩) | (go_at_call 247;refine (rest_take _ _ _ _ _).mono ?_;rintro e w2 ⟨rfl,hb2⟩;rw [HE.out]))
 go_ret2
 exact ⟨rfl,(((Below.refl _ _).alloc (Nat.le_refl _) _).trans (hb1.mono (by simp))).trans (hb2.mono (by simp at hz;omega))⟩
theorem validDeed_none (k s d m:Int) (w:World) (h:k≠1∧k≠2∧k≠3∧k≠4∧k≠5∧k≠6) :
  Calls Tryz.prog 178 #[.agg #[.int .i64 k,.int .i64 s,.int .i64 d,.int .i64 m]] w (DeedIs .nilIface false w):=by
 go_enter Tryz.func178,Tryz.ntmps178
 go_wp2_with fail
 refine (deedOf_none _ _ _ _ _ h).mono ?_;rintro e w1 ⟨rfl,hb1⟩
 clear h
 go_wp2
 go_ret2
 exact ⟨rfl,((Below.refl _ _).alloc (Nat.le_refl _) _).trans (hb1.mono (by simp))⟩
set_option maxHeartbeats 4000000 in
theorem actionValid_impl (k s d m:Int) (w:World) :
  Calls Tryz.prog 166 #[.agg #[.int .i64 k,.int .i64 s,.int .i64 d,.int .i64 m]] w (BoolB (actB ⟨k,s,d,m⟩) w):=by
 rcases kind_cases k with rfl | rfl | rfl | rfl | rfl | rfl | hk
 · cases hv:actB ⟨1,s,d,m⟩ with
   | false =>
    go_enter Tryz.func166,Tryz.ntmps166
    go_wp2_with (first | (go_at_call 178;refine (validDeed_put_no _ _ _ _ hv).mono ?_;rintro e w1 ⟨rfl,hb1⟩))
    go_ret
    exact ⟨rfl,((Below.refl _ _).alloc (Nat.le_refl _) _).trans (hb1.mono (by simp))⟩
   | true =>
    go_enter Tryz.func166,Tryz.ntmps166
    go_wp2_with (first | (go_at_call 178;refine (validDeed_put_yes _ _ _ _ hv).mono ?_;rintro e w1 ⟨rfl,hb1⟩))
    go_ret
    exact ⟨rfl,((Below.refl _ _).alloc (Nat.le_refl _) _).trans (hb1.mono (by simp))⟩
 · cases hv:actB ⟨2,s,d,m⟩ with
   | false =>
    go_enter Tryz.func166,Tryz.ntmps166
    go_wp2_with (first | (go_at_call 178;refine (validDeed_move_no _ _ _ _ hv).mono ?_;rintro e w1 ⟨rfl,hb1⟩))
    go_ret
    exact ⟨rfl,((Below.refl _ _).alloc (Nat.le_refl _) _).trans (hb1.mono (by simp))⟩
   | true =>
    go_enter Tryz.func166,Tryz.ntmps166
    go_wp2_with (first | (go_at_call 178;refine (validDeed_move_yes _ _ _ _ hv).mono ?_;rintro e w1 ⟨rfl,hb1⟩))
    go_ret
    exact ⟨rfl,((Below.refl _ _).alloc (Nat.le_refl _) _).trans (hb1.mono (by simp))⟩
 · cases hv:actB ⟨3,s,d,m⟩ with
   | false =>
    go_enter Tryz.func166,Tryz.ntmps166
    go_wp2_with (first | (go_at_call 178;refine (validDeed_copy_no _ _ _ _ hv).mono ?_;rintro e w1 ⟨rfl,hb1⟩))
    go_ret
    exact ⟨rfl,((Below.refl _ _).alloc (Nat.le_refl _) _).trans (hb1.mono (by simp))⟩
   | true =>
    go_enter Tryz.func166,Tryz.ntmps166
    go_wp2_with (first | (go_at_call 178;refine (validDeed_copy_yes _ _ _ _ hv).mono ?_;rintro e w1 ⟨rfl,hb1⟩))
    go_ret
    exact ⟨rfl,((Below.refl _ _).alloc (Nat.le_refl _) _).trans (hb1.mono (by simp))⟩
 · cases hv:actB ⟨4,s,d,m⟩ with
   | false =>
    go_enter Tryz.func166,Tryz.ntmps166
    go_wp2_with (first | (go_at_call 178;refine (validDeed_swap_no _ _ _ _ hv).mono ?_;rintro e w1 ⟨rfl,hb1⟩))
    go_ret
    exact ⟨rfl,((Below.refl _ _).alloc (Nat.le_refl _) _).trans (hb1.mono (by simp))⟩
   | true =>
    go_enter Tryz.func166,Tryz.ntmps166
    go_wp2_with (first | (go_at_call 178;refine (validDeed_swap_yes _ _ _ _ hv).mono ?_;rintro e w1 ⟨rfl,hb1⟩))
    go_ret
    exact ⟨rfl,((Below.refl _ _).alloc (Nat.le_refl _) _).trans (hb1.mono (by simp))⟩
 · cases hv:actB ⟨5,s,d,m⟩ with
   | false =>
    go_enter Tryz.func166,Tryz.ntmps166
    go_wp2_with (first | (go_at_call 178;refine (validDeed_add_no _ _ _ _ hv).mono ?_;rintro e w1 ⟨rfl,hb1⟩))
    go_ret
    exact ⟨rfl,((Below.refl _ _).alloc (Nat.le_refl _) _).trans (hb1.mono (by simp))⟩
   | true =>
    go_enter Tryz.func166,Tryz.ntmps166
    go_wp2_with (first | (go_at_call 178;refine (validDeed_add_yes _ _ _ _ hv).mono ?_;rintro e w1 ⟨rfl,hb1⟩))
    go_ret
    exact ⟨rfl,((Below.refl _ _).alloc (Nat.le_refl _) _).trans (hb1.mono (by simp))⟩
 · cases hv:actB ⟨6,s,d,m⟩ with
   | false =>
    go_enter Tryz.func166,Tryz.ntmps166
    go_wp2_with (first | (go_at_call 178;refine (validDeed_take_no _ _ _ _ hv).mono ?_;rintro e w1 ⟨rfl,hb1⟩))
    go_ret
    exact ⟨rfl,((Below.refl _ _).alloc (Nat.le_refl _) _).trans (hb1.mono (by simp))⟩
   | true =>
    go_enter Tryz.func166,Tryz.ntmps166
    go_wp2_with (first | (go_at_call 178;refine (validDeed_take_yes _ _ _ _ hv).mono ?_;rintro e w1 ⟨rfl,hb1⟩))
    go_ret
    exact ⟨rfl,((Below.refl _ _).alloc (Nat.le_refl _) _).trans (hb1.mono (by simp))⟩
 · rw [actB_kind hk]
   go_enter Tryz.func166,Tryz.ntmps166
   go_wp2_with (first | (go_at_call 178;refine (validDeed_none _ _ _ _ _ hk).mono ?_;rintro e w1 ⟨rfl,hb1⟩;clear hk))
   go_ret
   exact ⟨rfl,((Below.refl _ _).alloc (Nat.le_refl _) _).trans (hb1.mono (by simp))⟩
theorem NewLN.after {w w0:World} {l:List Int} {e:Ending} {w':World} (h:NewLN w0 l e w') (hb:Below w.heap.size w w0):NewLN w l e w':=by
 obtain ⟨v,h1,h2,h3,h4⟩:=h
 exact ⟨v,h1,owns_mono h2 hb.size,h3,hb.trans (h4.mono hb.size)⟩
set_option maxHeartbeats 1000000 in
theorem actionsValid_impl (a:Option Addr) (n cap:Nat) (l:List Acn) (w:World) (h:RowA w a n l) :
  Calls Tryz.prog 137 #[.slice a n cap] w (BoolB (actsB l) w):=by
 obtain ⟨hl,hm,hc,-⟩:=h
 unfold maxLen at hm
 have HL:=Lib.hid hl;clear hl
 by_cases h10:10 < n
 · have h10':(10:Int) < (n:Int):=by omega
   have HF:=Lib.hid (actsB_no (l:=l) (by rw [HL.out];omega))
   clear hc
   go_enter Tryz.func137,Tryz.ntmps137
   go_wp2
   go_ret
   exact ⟨by rw [HF.out];rfl,Below.refl _ _⟩
 have h10':¬ (10:Int) < (n:Int):=by omega
 by_cases h0:0 < n
 · obtain ⟨b,off,rfl,hcc⟩:=hc h0;clear hc;have hc:=hcc;clear hcc
   have hbs:b < w.heap.size:=World.block_lt_of_cell? w ⟨b,off+0*4,none⟩ (hc 0 h0).1
   go_enter Tryz.func137,Tryz.ntmps137
   go_wp2
   go_loopw [10] (fun i wr=>∃ k:Nat,k≤n∧i = .int .i64 k∧OkActs l k∧Below w.heap.size w wr) (fun i _=>n - (intOf i).toNat)
   case atStart=>exact ⟨0,Nat.zero_le _,rfl,fun j hj=>absurd hj (Nat.not_lt_zero j),Below.refl _ _⟩
   case round =>
    obtain ⟨k,hk,rfl,hok,hb⟩:=hrel
    by_cases hlt:k < n
    · obtain ⟨d1,d2,d3,d4⟩:=hc k hlt
      have c1:=(hb.cell (p:=⟨b,off+k*4,none⟩) hbs).trans d1
      have c2:=(hb.cell (p:=⟨b,off+k*4+1,none⟩) hbs).trans d2
      have c3:=(hb.cell (p:=⟨b,off+k*4+2,none⟩) hbs).trans d3
      have c4:=(hb.cell (p:=⟨b,off+k*4+3,none⟩) hbs).trans d4
      clear hc d1 d2 d3 d4
      have HN:actB (l.getD k noA)=true→OkActs l (k+1):=fun h=>hok.next h
      have HM:=getD_memA l k (by rw [HL.out];exact hlt)
      obtain ⟨x,hx⟩:∃ x,x=l.getD k noA:=⟨_,rfl⟩
      rw [← hx] at c1 c2 c3 c4 HN HM
      clear hx hok
      obtain ⟨p,q,r,t⟩:=x
      simp only at c1 c2 c3 c4
      have HN':=Lib.hid HN;have HM':=Lib.hid HM
      clear HN HM
      have hsz:=hb.size
      go_wp2_with fail
      refine (actionValid_impl p q r t _).mono ?_;rintro e w2 ⟨rfl,hb2⟩
      have hb3:Below w.heap.size w w2:=hb.trans (((Below.refl _ _).alloc (Nat.le_refl _) (.cells #[.int .i64 p,.int .i64 q,.int .i64 r,.int .i64 t] 113)).trans (hb2.mono (by simp)) |>.mono hb.size)
      cases hv:actB ⟨p,q,r,t⟩ with
      | false =>
       have HF:=Lib.hid (actsB_bad HM'.out hv)
       clear hv hb
       go_wp2
       go_ret
       exact ⟨by rw [HF.out];rfl,hb3⟩
      | true =>
       have HO:=Lib.hid (HN'.out hv)
       clear hv hb
       go_wp2
       go_roundw
       case rel=>exact ⟨k+1,by omega,by go_num,HO.out,hb3⟩
       case measure=>simp [intOf];omega
    · obtain rfl:k=n:=by omega
      clear hc
      have HA:=Lib.hid (OkActs.all (by rw [HL.out];exact hok))
      have HF:=Lib.hid (actsB_yes (by rw [HL.out];omega) HA.out)
      go_wp2
      go_ret
      exact ⟨by rw [HF.out];rfl,hb⟩
 · obtain rfl:n=0:=by omega
   obtain rfl:l=[]:=List.eq_nil_of_length_eq_zero HL.out
   clear hc
   go_enter Tryz.func137,Tryz.ntmps137
   go_wp2
   go_loop [10] (fun i=>i = .int .i64 0) (fun _=>0)
   case atStart=>rfl
   case round =>
    subst hrel
    go_wp2
    go_ret
    exact ⟨rfl,Below.refl _ _⟩
end Go.Proofs.YtpnjgmgmakmgeaaGreat
