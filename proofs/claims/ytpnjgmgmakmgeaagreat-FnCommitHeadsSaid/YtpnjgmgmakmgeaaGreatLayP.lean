/- Texts of ours that stand together: LayFill, LayMap -/
import Derived.Test.YtpnjgmgmakmgeaaGreatLay
import Derived.Maps.OwnSet
/- Rows of layers that are filled one after the other. -/
namespace Go.Proofs.YtpnjgmgmakmgeaaGreat
open Go.RowKit
def olC:Option Lay→List Cel
 | some x=>[.int x.1,.ents 142 x.2]
 | none=>[.int 0,.ents 142 []]
theorem olC_len (x:Option Lay):(olC x).length=2:=by cases x <;> rfl
open Go.RowKit Go.Maps
theorem lawInt:Keyed Tryz.prog 3:=int_keyed Tryz.underlying3
theorem zeroInt (w:World):(zeroValue 3).run Tryz.prog w = .ok (.int .i64 0) w:=by kernel_rfl
def MapF (w:World) (b k:Nat) (f:Int→Option Int):Prop :=
 ∃ D:DataW Unit,w.ownsMap Tryz.prog 3 (plainElem Tryz.prog 3) b k D∧∀ key,Maps.has D (.int .i64 key)=(f key).isSome∧D.atKey (.int .i64 key) (.lit (.int .i64 0)) = .lit (.int .i64 ((f key).getD 0))
theorem MapF.made (w:World):MapF (w.alloc (.map #[] 0)) w.heap.size 0 (fun _=>none):=⟨.map [],World.ownsMap_made _ _ _ _,fun _=>⟨rfl,rfl⟩⟩
theorem MapF.mono {w:World} {b k k':Nat} {f:Int→Option Int} (h:MapF w b k f) (hk:k≤k'):MapF w b k' f:=by obtain ⟨D,h1,h2⟩:=h;exact ⟨D,h1.mono hk,h2⟩
theorem MapF.lt {w:World} {b k:Nat} {f:Int→Option Int} (h:MapF w b k f):b < w.heap.size:=by obtain ⟨D,h1,h2⟩:=h;exact h1.lt
theorem MapF.keep {w w':World} {b k:Nat} {f:Int→Option Int} (h:MapF w b k f) (hk:w'.heap[b]? = w.heap[b]?):MapF w' b k f:=by
 obtain ⟨D,⟨es,clock,hb,r⟩,h2⟩:=h
 exact ⟨D,⟨es,clock,hk.trans hb,r⟩,h2⟩
theorem MapF.below {w w':World} {b k:Nat} {f:Int→Option Int} (h:MapF w b k f) (hb:Below w.heap.size w w'):MapF w' b k f:=h.keep (hb.block b h.lt)
theorem MapF.alloc {w:World} {b k:Nat} {f:Int→Option Int} (h:MapF w b k f) (o:Obj):MapF (w.alloc o) b k f:=h.below ((Below.refl _ _).alloc (Nat.le_refl _) o)
theorem MapF.drew {w:World} {b k:Nat} {f:Int→Option Int} (h:MapF w b k f):MapF w.drew b k f:=h
theorem MapF.drewN {w:World} {b k:Nat} {f:Int→Option Int} (h:MapF w b k f) (m:Nat):MapF (w.drewN m) b k f:=h
theorem put_has {D:DataW Unit} {f:Int→Option Int} (hD:IsMap D) (h:∀ key,Maps.has D (.int .i64 key)=(f key).isSome∧D.atKey (.int .i64 key) (.lit (.int .i64 0)) = .lit (.int .i64 ((f key).getD 0))) (key val:Int) :
  ∀ k,Maps.has (D.put (.int .i64 key) (.lit (.int .i64 val))) (.int .i64 k)=(updF f key val k).isSome∧(D.put (.int .i64 key) (.lit (.int .i64 val))).atKey (.int .i64 k) (.lit (.int .i64 0)) = .lit (.int .i64 ((updF f key val k).getD 0)):=by
 intro k
 unfold updF
 by_cases hk:k=key
 · subst hk
   rw [if_pos rfl,has_put_same hD (by trivial),atKey_put_same hD (by trivial)]
   exact ⟨rfl,rfl⟩
 · have hne:(Lit.int .i64 k)≠(Lit.int .i64 key):=fun e=>hk (by injection e)
   rw [if_neg hk,has_put_other hne,atKey_put_other hne]
   exact h k
theorem wpList_lookup_F (w:World) {ops:Array Oper} {rest:List Oper} {o:Oper} {a:Act} {Q:Exit→Act→World→Prop}
  (hg:o.guard=none) (m x:Operand) (hop:o.op=Op.lookup 107 m x true) (b k:Nat) (f:Int→Option Int) (key:Int)
  (hm:a.eval m = .map (some b)) (hx:a.eval x = .int .i64 key) (hf:MapF w b k f) (hkey:(Lit.int .i64 key).wf=true)
  (hK:wpList Tryz.prog ops Q rest (a.put o.dst (.tuple #[.int .i64 ((f key).getD 0),.bool (f key).isSome])) w) :
  wpList Tryz.prog ops Q (o :: rest) a w:=by
 obtain ⟨D,hown,hD⟩:=hf
 refine wpList_lookup_own_ok_int w hg m x 107 hop 3 3 .i64 lawInt Tryz.underlying107 Tryz.underlying3 (zeroInt _) b k D hm hown _ _ hx (keyOf_int_mk Tryz.underlying3 hkey) ?_
 intro c hc _
 obtain ⟨h1,h2⟩:=hD key
 rw [h2] at hc
 injection hc with hc
 injection hc with _ hc
 rw [h1,← hc]
 exact hK
theorem wpList_lookup_yes (w:World) {ops:Array Oper} {rest:List Oper} {o:Oper} {a:Act} {Q:Exit→Act→World→Prop}
  (hg:o.guard=none) (m x:Operand) (hop:o.op=Op.lookup 107 m x true) (b k:Nat) (f:Int→Option Int) (key v:Int)
  (hm:a.eval m = .map (some b)) (hx:a.eval x = .int .i64 key) (hf:MapF w b k f) (hkey:(Lit.int .i64 key).wf=true) (hv:f key=some v)
  (hK:wpList Tryz.prog ops Q rest (a.put o.dst (.tuple #[.int .i64 v,.bool true])) w):wpList Tryz.prog ops Q (o :: rest) a w :=
 wpList_lookup_F w hg m x hop b k f key hm hx hf hkey (by rw [hv];exact hK)
theorem wpList_lookup_no (w:World) {ops:Array Oper} {rest:List Oper} {o:Oper} {a:Act} {Q:Exit→Act→World→Prop}
  (hg:o.guard=none) (m x:Operand) (hop:o.op=Op.lookup 107 m x true) (b k:Nat) (f:Int→Option Int) (key:Int)
  (hm:a.eval m = .map (some b)) (hx:a.eval x = .int .i64 key) (hf:MapF w b k f) (hkey:(Lit.int .i64 key).wf=true) (hv:f key=none)
  (hK:wpList Tryz.prog ops Q rest (a.put o.dst (.tuple #[.int .i64 0,.bool false])) w):wpList Tryz.prog ops Q (o :: rest) a w :=
 wpList_lookup_F w hg m x hop b k f key hm hx hf hkey (by rw [hv];exact hK)
def Cel.mapF (K:Nat) (f:Int→Option Int):Cel :=
 ⟨fun w x=>∃ b,x = .map (some b)∧MapF w b K f,fun h hk=>(by obtain ⟨b,rfl,h1⟩:=h;exact ⟨b,rfl,h1.keep (hk b rfl)⟩),
  fun h hb=>(by obtain ⟨b,rfl,h1⟩:=h;cases hb;exact h1.lt),fun h=>(by obtain ⟨b,rfl,h1⟩:=h;rfl)⟩
def Cel.noMap:Cel:=⟨fun _ x=>x = .map none,fun h _=>h,fun h hb=>(by rw [h] at hb;cases hb),fun h=>(by rw [h];rfl)⟩
def wlC (K:Nat):Option Lay→List Cel
 | some x=>[.int x.1,.mapF K (findM x.2)]
 | none=>[.int 0,.noMap]
theorem wlC_len (K:Nat) (x:Option Lay):(wlC K x).length=2:=by cases x <;> rfl
end Go.Proofs.YtpnjgmgmakmgeaaGreat
