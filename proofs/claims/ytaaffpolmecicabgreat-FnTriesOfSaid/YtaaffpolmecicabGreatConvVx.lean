/- Texts of ours that stand together: ConvV, ConvV2 -/
import Derived.Test.YtaaffpolmecicabGreatVerA
import Derived.Test.YtaaffpolmecicabGreatConvAX
import Derived.StillTailTactics
import Derived.Test.YtaaffpolmecicabGreatCore
import Derived.Deep.QuietTactic
import Derived.BigQuiet
/- The contracts of the laws' own helpers over Version: toVersion,eqVersion,szVersionS,toVersionS,eqVersionS,markVersionS,heldVersionS (gen9/structs.py). -/
namespace Go.Proofs.YtaaffpolmecicabGreat
open Go.RowKit
set_option linter.unusedVariables false
theorem infoVer:(Tryz.prog.info? 73).map (fun i=>(i.zero,i.size,i.bytes))=some (some (.agg #[.int .i64 0,.int .i64 0,.int .i64 0]),3,24):=by kernel_rfl
end Go.Proofs.YtaaffpolmecicabGreat
/- The contract of the laws' own sameVersions. -/
namespace Go.Proofs.YtaaffpolmecicabGreat
open Go.RowKit
set_option linter.unusedVariables false
set_option maxHeartbeats 400000 in
theorem sameVersions_same (a a':Option Addr) (n cap cap':Nat) (l:List Ver) (w:World) (h:RowV w a n l) (h':RowV w a' n l) :
  Calls Tryz.prog 104 #[.slice a n cap,.slice a' n cap'] w (BoolQ true w):=by
 obtain ⟨hl,hm,hc,-⟩:=h
 obtain ⟨-,-,hc',-⟩:=h'
 unfold maxLen at hm
 clear hl
 by_cases h0:0 < n
 · obtain ⟨b,off,rfl,hcc⟩:=hc h0;clear hc;have hc:=hcc;clear hcc
   obtain ⟨b',off',rfl,hcc⟩:=hc' h0;clear hc';have hc':=hcc;clear hcc
   go_enter Tryz.func104,Tryz.ntmps104
   go_wp2
   go_loopw [5] (fun i wr=>∃ k:Nat,k≤n∧i = .int .i64 k∧Drawn w wr) (fun i _=>n - (intOf i).toNat)
   case atStart=>exact ⟨0,Nat.zero_le _,rfl,Drawn.refl _⟩
   case round =>
    obtain ⟨k,hk,rfl,hd⟩:=hrel
    by_cases hlt:k < n
    · have c1:=(hd.cell _).trans (hc k hlt).1
      have c2:=(hd.cell _).trans (hc k hlt).2.1
      have c3:=(hd.cell _).trans (hc k hlt).2.2
      have d1:=(hd.cell _).trans (hc' k hlt).1
      have d2:=(hd.cell _).trans (hc' k hlt).2.1
      have d3:=(hd.cell _).trans (hc' k hlt).2.2
      clear hc hc'
      obtain ⟨x,hx⟩:∃ x,x=l.getD k noV:=⟨_,rfl⟩
      rw [← hx] at c1 c2 c3 d1 d2 d3
      clear hx
      obtain ⟨p,q,r⟩:=x
      simp only at c1 c2 c3 d1 d2 d3
      go_wp2
      go_quiet (fail)
      go_wp2
      go_roundw
      case rel=>exact ⟨k+1,by omega,by go_num,hd.drewN _⟩
      case measure=>simp [intOf];omega
    · clear hc hc'
      go_wp2
      go_ret
      exact ⟨rfl,hd⟩
 · obtain rfl:n=0:=by omega
   clear hc hc'
   go_enter Tryz.func104,Tryz.ntmps104
   go_wp2
   go_loop [5] (fun i=>i = .int .i64 0) (fun _=>0)
   case atStart=>rfl
   case round =>
    subst hrel
    go_wp2
    go_ret
    exact ⟨rfl,Drawn.refl _⟩
end Go.Proofs.YtaaffpolmecicabGreat
