/- Texts of ours that stand together: Pick, DrawStore, DrawStores -/
import Derived.Test.YtpnjgmgmakmgeaaGreatCore
import Derived.Test.YtpnjgmgmakmgeaaGreatSpecS
/- The contract of the reader's pick and odd. -/
namespace Go.Proofs.YtpnjgmgmakmgeaaGreat
open Go.RowKit
set_option linter.unusedVariables false
theorem Rd.below {w w':World} {R P:Nat} (h:Rd w R P) (hb:Below w.heap.size w w'):Rd w' R P:=h.grown (row:=none) (Below.grownBy hb none) (fun k hk=>by cases hk)
theorem Upd.ofBelow {w w':World} (R:Nat) (hb:Below w.heap.size w w'):Upd R w w':=Below.grownBy hb (some R)
theorem Own.upd {w w':World} {B R:Nat} {e:TypeId} {size n:Nat} {v:Value} {xs:List Value} (h:Own w B e size v n xs) (hu:Upd R w w') (hR:R < B):Own w' B e size v n xs:=h.grown hu (fun k hk=>by simp at hk;omega)
theorem Upd.ofGrown {w0 w1 w' W:World} {R n:Nat} {e:TypeId} {size:Nat} {v:Value} {xs:List Value} (h:Upd R w0 w1) (hg:w1.grownBy w' v.ownBlock) (ho:Own W w0.heap.size e size v n xs):Upd R w0 w' :=
 ⟨hg.os.trans h.os,hg.tape.trans h.tape,hg.output.trans h.output,Nat.le_trans h.size hg.size,fun k hk hr =>
  (hg.block k (Nat.lt_of_lt_of_le hk h.size) (fun e=>by have:=(ho.1.lt k e.symm).1;omega)).trans (h.block k hk hr)⟩
end Go.Proofs.YtpnjgmgmakmgeaaGreat
