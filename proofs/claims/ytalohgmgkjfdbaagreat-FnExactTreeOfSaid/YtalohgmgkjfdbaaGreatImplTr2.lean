/- The contract of the program's indexedTree.put (gen16/put.py). -/
import Derived.Test.YtalohgmgkjfdbaaGreatTrP
import Derived.Test.YtalohgmgkjfdbaaGreatTrI
import Derived.Test.YtalohgmgkjfdbaaGreatBkI
import Derived.Test.YtalohgmgkjfdbaaGreatRegO
import Derived.Deep.RegionHeld3
import Derived.Deep.RegionLaw
import Derived.Deep.Cut
namespace Go.Proofs.YtalohgmgkjfdbaaGreat
open Go.RowKit Go.Maps
set_option linter.unusedVariables false
set_option linter.unusedSimpArgs false
def tTreP:TreT:=⟨81,52,112,3⟩
theorem MapF.updRun {w:World} {b k:Nat} {f:Int→Option Int} (hf:MapF w b k f) (hk:k < 1000) (key val:Int) (hkey:(Lit.int .i64 key).wf=true) (hval:(Lit.int .i64 val).wf=true) :
  ∃ w',(Instr.mapUpdate 84 (.map (some b)) (.int .i64 key) (.int .i64 val)).run Tryz.prog w = .ok () w'∧MapF w' b (k+1) (updF f key val)∧w.grownBy w' (some b):=by
 obtain ⟨D,hown,hD⟩:=hf
 obtain ⟨w',h1,h2,h3⟩:=hown.update lawInt Tryz.underlying84 (by unfold maxLen;omega) (keyOf_int_mk Tryz.underlying3 hkey) (plainElem_int Tryz.underlying3 hval)
 exact ⟨w',h1,⟨_,h2,put_has hown.isMap hD key val⟩,h3⟩
theorem blockSum_implV (x:Blk) (a:Option Addr) (n c:Nat) (w:World) (h:RowA w a n x.acts) :
  Calls Tryz.prog 55 #[.agg #[.int .i64 x.bef,.int .i64 x.hgt,.int .i64 x.view,.slice a n c,.int .i64 x.root,.int .i64 x.effs]] w (IntB (blkSumM x) w):=blockSum_impl x.bef x.hgt x.view x.root x.effs a n c x.acts w h
theorem RowA.stay {w w':World} {a:Option Addr} {n:Nat} {row:Option Nat} {l:List Acn} (h:RowA w a n l) (hg:w.grownBy w' row) (hne:0 < n→∀ p o,a=some ⟨p,o,none⟩→some p≠row):RowA w' a n l:=by
 obtain ⟨h1,h2,h3,h4⟩:=h
 refine ⟨h1,h2,fun hl=>?_,h4⟩
 obtain ⟨b',off,he,hc⟩:=h3 hl
 have hn:=hne hl b' off he
 refine ⟨b',off,he,fun i hi=>?_⟩
 obtain ⟨c1,c2,c3,c4⟩:=hc i hi
 exact ⟨World.grownBy.cell hg c1 hn,World.grownBy.cell hg c2 hn,World.grownBy.cell hg c3 hn,World.grownBy.cell hg c4 hn⟩
end Go.Proofs.YtalohgmgkjfdbaaGreat
