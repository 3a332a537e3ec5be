/- Texts of ours that stand together: LayFill, LayMap -/
import Derived.Test.YtolhdacbahgfgabLay
import Derived.Maps.OwnSet
/- Rows of layers that are filled one after the other. -/
namespace Go.Proofs.Ytolhdacbahgfgab
open Go.RowKit
def olC:Option Lay→List Cel
 | some x=>[.int x.1,.ents 67 x.2]
 | none=>[.int 0,.ents 67 []]
theorem olC_len (x:Option Lay):(olC x).length=2:=by cases x <;> rfl
end Go.Proofs.Ytolhdacbahgfgab
/- Maps from ints to ints that the call has made,by what they have for every key. -/
namespace Go.Proofs.Ytolhdacbahgfgab
open Go.RowKit Go.Maps
def MapF (w:World) (b k:Nat) (f:Int→Option Int):Prop :=
 ∃ D:DataW Unit,w.ownsMap Try.prog 3 (plainElem Try.prog 3) b k D∧∀ key,Maps.has D (.int .i64 key)=(f key).isSome∧D.atKey (.int .i64 key) (.lit (.int .i64 0)) = .lit (.int .i64 ((f key).getD 0))
theorem MapF.made (w:World):MapF (w.alloc (.map #[] 0)) w.heap.size 0 (fun _=>none):=⟨.map [],World.ownsMap_made _ _ _ _,fun _=>⟨rfl,rfl⟩⟩
theorem MapF.mono {w:World} {b k k':Nat} {f:Int→Option Int} (h:MapF w b k f) (hk:k≤k'):MapF w b k' f:=by obtain ⟨D,h1,h2⟩:=h;exact ⟨D,h1.mono hk,h2⟩
theorem MapF.lt {w:World} {b k:Nat} {f:Int→Option Int} (h:MapF w b k f):b < w.heap.size:=by obtain ⟨D,h1,h2⟩:=h;exact h1.lt
theorem MapF.keep {w w':World} {b k:Nat} {f:Int→Option Int} (h:MapF w b k f) (hk:w'.heap[b]? = w.heap[b]?):MapF w' b k f:=by
 obtain ⟨D,⟨es,clock,hb,r⟩,h2⟩:=h
 exact ⟨D,⟨es,clock,hk.trans hb,r⟩,h2⟩
theorem MapF.below {w w':World} {b k:Nat} {f:Int→Option Int} (h:MapF w b k f) (hb:Below w.heap.size w w'):MapF w' b k f:=h.keep (hb.block b h.lt)
theorem MapF.alloc {w:World} {b k:Nat} {f:Int→Option Int} (h:MapF w b k f) (o:Obj):MapF (w.alloc o) b k f:=h.below ((Below.refl _ _).alloc (Nat.le_refl _) o)
theorem MapF.drew {w:World} {b k:Nat} {f:Int→Option Int} (h:MapF w b k f):MapF w.drew b k f:=h
theorem MapF.drewN {w:World} {b k:Nat} {f:Int→Option Int} (h:MapF w b k f) (m:Nat):MapF (w.drewN m) b k f:=h
def Cel.mapF (K:Nat) (f:Int→Option Int):Cel :=
 ⟨fun w x=>∃ b,x = .map (some b)∧MapF w b K f,fun h hk=>(by obtain ⟨b,rfl,h1⟩:=h;exact ⟨b,rfl,h1.keep (hk b rfl)⟩),
  fun h hb=>(by obtain ⟨b,rfl,h1⟩:=h;cases hb;exact h1.lt),fun h=>(by obtain ⟨b,rfl,h1⟩:=h;rfl)⟩
def Cel.noMap:Cel:=⟨fun _ x=>x = .map none,fun h _=>h,fun h hb=>(by rw [h] at hb;cases hb),fun h=>(by rw [h];rfl)⟩
def wlC (K:Nat):Option Lay→List Cel
 | some x=>[.int x.1,.mapF K (findM x.2)]
 | none=>[.int 0,.noMap]
theorem wlC_len (K:Nat) (x:Option Lay):(wlC K x).length=2:=by cases x <;> rfl
end Go.Proofs.Ytolhdacbahgfgab
