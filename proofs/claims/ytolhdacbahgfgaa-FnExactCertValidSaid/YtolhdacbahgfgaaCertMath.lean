/- Certificates: plain mathematics,and a certificate in a box. No function of the program is named here. -/
import Derived.Test.YtolhdacbahgfgaaTrM

namespace Go.Proofs.Ytolhdacbahgfgaa
open Go.RowKit
set_option linter.unusedVariables false
structure Crt where
 sum:Int
 view:Int
 sig:Int
def crtB (c:Crt):Bool:=inB c.sum 0 1000002 && inB c.view 0 1000 && inB c.sig 0 15
def manyM (n:Int):Int:=n % 2+n / 2 % 2+n / 4 % 2+n / 8 % 2
def cntB (c:Crt):Bool:=crtB c && decide (3≤manyM c.sig)
def joinB (a b:Crt):Bool:=crtB a && crtB b && decide (a.sum=b.sum) && decide (a.view=b.view)
def orM (a b:Int):Int:=bits .or .i64 a b
def noCrt:Crt:=⟨0,0,0⟩
def joinM (a b:Crt):Crt:=if joinB a b then ⟨a.sum,a.view,orM a.sig b.sig⟩ else noCrt
theorem joinM_no {a b:Crt} (h:joinB a b=false):joinM a b=noCrt:=by simp [joinM,h]
theorem joinM_yes {a b:Crt} (h:joinB a b=true):joinM a b=⟨a.sum,a.view,orM a.sig b.sig⟩:=by simp [joinM,h]
theorem crtB_true {c:Crt} (h:crtB c=true):(0≤c.sum∧c.sum≤1000002)∧(0≤c.view∧c.view≤1000)∧(0≤c.sig∧c.sig≤15):=by
 simp only [crtB,Bool.and_eq_true] at h
 exact ⟨inB_true h.1.1,inB_true h.1.2,inB_true h.2⟩
theorem cntB_no {c:Crt} (h:crtB c=false):cntB c=false:=by simp [cntB,h]
theorem cntB_yes {c:Crt} (h:crtB c=true):cntB c=decide (3≤manyM c.sig):=by simp [cntB,h]
def Crt.v (c:Crt):Value:=.agg #[.int .i64 c.sum,.int .i64 c.view,.int .i64 c.sig]
def GotCrt (c:Crt) (w:World) (e:Ending) (w':World):Prop:=e = .returned (.agg #[.int .i64 c.sum,.int .i64 c.view,.int .i64 c.sig])∧Below w.heap.size w w'
def GotCrtB (c:Crt) (b:Bool) (w:World) (e:Ending) (w':World):Prop:=e = .returned (.tuple #[.agg #[.int .i64 c.sum,.int .i64 c.view,.int .i64 c.sig],.bool b])∧Below w.heap.size w w'
theorem set3b_grown3 (w:World) (Z:Nat) (v1 v2 v3:Value):w.grownBy (set3b w Z v1 v2 v3) (some Z) :=
 ⟨rfl,rfl,rfl,by rw [set3b_size];exact Nat.le_refl _,fun q hq hr=>(set3b_turn w Z v1 v2 v3).block q hq (by have:q≠Z:=fun e=>hr (by rw [e]);omega)⟩
theorem results_crt {fn:Func} {p:Tmp} (h:fn.results=#[.cell p 24]) (tmps:Array Value) {F:World} {Z:Nat} (hp:tmps.getD p undef = .pointer (some ⟨Z,0,none⟩)) {v1 v2 v3:Value} (hc:TrAt F Z v1 v2 v3):(results fn tmps).run Try.prog F = .ok (.agg #[v1,v2,v3]) F:=by
 have hp':tmps[p]?.getD undef = .pointer (some ⟨Z,0,none⟩):=by simpa using hp
 obtain ⟨c0,c1,c2,-⟩:=hc
 simp [results,h,hp',asAddr,go_sem,c0,c1,c2]
theorem results_crtB {fn:Func} {p q:Tmp} (h:fn.results=#[.cell p 24,.tmp q]) (tmps:Array Value) {F:World} {Z:Nat} (hp:tmps.getD p undef = .pointer (some ⟨Z,0,none⟩)) {v1 v2 v3:Value} (hc:TrAt F Z v1 v2 v3) (x:Value) (hq:tmps.getD q undef=x):(results fn tmps).run Try.prog F = .ok (.tuple #[.agg #[v1,v2,v3],x]) F:=by
 have hp':tmps[p]?.getD undef = .pointer (some ⟨Z,0,none⟩):=by simpa using hp
 have hq':tmps[q]?.getD undef=x:=by simpa using hq
 obtain ⟨c0,c1,c2,-⟩:=hc
 simp [results,h,hp',hq',asAddr,go_sem,c0,c1,c2]
end Go.Proofs.Ytolhdacbahgfgaa
