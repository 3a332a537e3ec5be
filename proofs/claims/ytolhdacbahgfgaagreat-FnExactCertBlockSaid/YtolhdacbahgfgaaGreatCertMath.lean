/- Certificates: plain mathematics,and a certificate in a box. No function of the program is named here. -/
import Derived.Test.YtolhdacbahgfgaaGreatTrM

namespace Go.Proofs.YtolhdacbahgfgaaGreat
open Go.RowKit
set_option linter.unusedVariables false
structure Crt where
 sum:Int
 view:Int
 sig:Int
def crtB (c:Crt):Bool:=inB c.sum 0 1000002 && inB c.view 0 1000 && inB c.sig 0 15
def manyM (n:Int):Int:=n % 2+n / 2 % 2+n / 4 % 2+n / 8 % 2
def cntB (c:Crt):Bool:=crtB c && decide (3≤manyM c.sig)
theorem crtB_true {c:Crt} (h:crtB c=true):(0≤c.sum∧c.sum≤1000002)∧(0≤c.view∧c.view≤1000)∧(0≤c.sig∧c.sig≤15):=by
 simp only [crtB,Bool.and_eq_true] at h
 exact ⟨inB_true h.1.1,inB_true h.1.2,inB_true h.2⟩
theorem cntB_no {c:Crt} (h:crtB c=false):cntB c=false:=by simp [cntB,h]
theorem cntB_yes {c:Crt} (h:crtB c=true):cntB c=decide (3≤manyM c.sig):=by simp [cntB,h]
def Crt.v (c:Crt):Value:=.agg #[.int .i64 c.sum,.int .i64 c.view,.int .i64 c.sig]
def GotCrt (c:Crt) (w:World) (e:Ending) (w':World):Prop:=e = .returned (.agg #[.int .i64 c.sum,.int .i64 c.view,.int .i64 c.sig])∧Below w.heap.size w w'
end Go.Proofs.YtolhdacbahgfgaaGreat
