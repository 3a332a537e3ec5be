/- Texts of ours that stand together: EqInts, IntsWalks, ConvE, ConvI, SameInts, InB, InI, InE -/
import Derived.Test.YtpnjgmgmakmgeaaGreatCore
import Derived.Deep.QuietTactic
import Derived.BigQuiet
import Derived.StillTailTactics
import Derived.ProofKit
import Derived.OpenShut
import Derived.Deep.SlicePairs
/- The contract of the laws' own eqIntS. -/
namespace Go.Proofs.YtpnjgmgmakmgeaaGreat
open Go.RowKit
theorem infoInt:(Tryz.prog.info? 3).map (fun i=>(i.zero,i.size,i.bytes))=some (some (.int .i64 0),1,8):=by kernel_rfl
theorem flatE_set (l:List Ent) (k:Nat) (x y:Int):(flatE (l.set k (x,y)))=((flatE l).set (k*2) (.int .i64 x)).set (k*2+1) (.int .i64 y):=by
 induction l generalizing k with
 | nil=>simp [flatE]
 | cons e r ih =>
  cases k with
  | zero=>simp [flatE]
  | succ k =>
   rw [show (k+1)*2=k*2+1+1 by omega]
   simp only [List.set_cons_succ,flatE,ih]
theorem Own.store2 {w:World} {B:Nat} {e:TypeId} {g n cap:Nat} {l:List Ent} (h:Own w B e 2 (.slice (some ⟨g,0,none⟩) n cap) n (flatE l)) (k:Nat) (x y:Int) :
  Own ((w.setCell ⟨g,k*2,none⟩ (.int .i64 x)).setCell ⟨g,k*2+1,none⟩ (.int .i64 y)) B e 2 (.slice (some ⟨g,0,none⟩) n cap) n (flatE (l.set k (x,y))):=by
 rw [flatE_set]
 exact ⟨((h.1.stored (k*2) (.int .i64 x)).1.stored (k*2+1) (.int .i64 y)).1,h.2⟩
theorem grownBy_set (w:World) (g o:Nat) (v:Value):w.grownBy (w.setCell ⟨g,o,none⟩ v) (some g) :=
 ⟨rfl,rfl,rfl,by simp [World.setCell],fun k _ hk=>Below.heap_setCell _ _ _ _ (fun e=>hk (by simp [e]))⟩
theorem grownBy_trans {a b c:World} {row:Option Nat} (h:a.grownBy b row) (k:b.grownBy c row):a.grownBy c row :=
 ⟨k.os.trans h.os,k.tape.trans h.tape,k.output.trans h.output,Nat.le_trans h.size k.size,fun i hi hr=>(k.block i (Nat.lt_of_lt_of_le hi h.size) hr).trans (h.block i hi hr)⟩
theorem rowI_of_own {w:World} {B:Nat} {e:TypeId} {v:Value} {l:List Int} (h:Own w B e 1 v l.length (l.map (Value.int .i64))) (hm:l.length≤4000000) (hw:∀ x∈l,(Lit.int .i64 x).wf=true) :
  ∃ g cap,v = .slice (some ⟨g,0,none⟩) l.length cap∧B≤g∧g < w.heap.size∧RowI w (some ⟨g,0,none⟩) l.length l:=by
 obtain ⟨g,cap,rfl,hB,hlt⟩:=h.slice
 obtain ⟨a,c,he,hr⟩:=rowI_of_owns h.1 (by unfold maxLen;omega) hw
 simp only [Value.slice.injEq] at he
 obtain ⟨rfl,-,-⟩:=he
 exact ⟨g,cap,rfl,hB,hlt,hr⟩
theorem RowI.grown {w w':World} {b n:Nat} {row:Option Nat} {l:List Int} (h:RowI w (some ⟨b,0,none⟩) n l) (hg:w.grownBy w' row) (hne:some b≠row):RowI w' (some ⟨b,0,none⟩) n l:=by
 obtain ⟨h1,h2,h3,h4⟩:=h
 refine ⟨h1,h2,fun hl=>?_,h4⟩
 obtain ⟨b',off,he,hc⟩:=h3 hl
 obtain ⟨rfl,rfl⟩:b=b'∧0=off:=by simpa using he
 exact ⟨b,0,rfl,fun i hi=>World.grownBy.cell hg (hc i hi) hne⟩
set_option maxHeartbeats 400000 in
theorem sameInts_same (a a':Option Addr) (len cap cap':Nat) (l:List Int) (w:World) (h:RowI w a len l) (h':RowI w a' len l) :
  Calls Tryz.prog 63 #[.slice a len cap,.slice a' len cap'] w fun e w'=>e = .returned (.bool true)∧Below w.heap.size w w':=by
 obtain ⟨hl,hm,hc,-⟩:=h
 obtain ⟨-,-,hc',-⟩:=h'
 unfold maxLen at hm
 clear hl
 by_cases h0:0 < len
 · obtain ⟨b,off,rfl,hcc⟩:=hc h0;clear hc;have hc:=hcc;clear hcc
   obtain ⟨b',off',rfl,hcc⟩:=hc' h0;clear hc';have hc':=hcc;clear hcc
   have hbB:b < w.heap.size:=World.block_lt_of_cell? w ⟨b,off+0,none⟩ (hc 0 h0)
   have hbB':b' < w.heap.size:=World.block_lt_of_cell? w ⟨b',off'+0,none⟩ (hc' 0 h0)
   go_enter Tryz.func63,Tryz.ntmps63
   go_wp2
   go_loopw [5] (fun i wr=>∃ k:Nat,k≤len∧i = .int .i64 k∧Below w.heap.size w wr) (fun i _=>len - (intOf i).toNat)
   case atStart=>exact ⟨0,Nat.zero_le _,rfl,Below.refl _ _⟩
   case round =>
    obtain ⟨k,hk,rfl,hb⟩:=hrel
    by_cases hlt:k < len
    · have hck:wr.cell? ⟨b,off+k,none⟩=some (.int .i64 (l.getD k 0)):=(hb.cell (p:=⟨b,off+k,none⟩) hbB).trans (hc k hlt)
      have hck':wr.cell? ⟨b',off'+k,none⟩=some (.int .i64 (l.getD k 0)):=(hb.cell (p:=⟨b',off'+k,none⟩) hbB').trans (hc' k hlt)
      clear hc hc'
      obtain ⟨n,hn'⟩:∃ n,n=l.getD k 0:=⟨_,rfl⟩
      rw [← hn'] at hck hck'
      clear hn'
      go_wp2
      go_quiet (fail)
      go_wp2
      go_roundw
      case rel=>exact ⟨k+1,by omega,by go_num,below_drewN' hb _⟩
      case measure=>simp [intOf];omega
    · clear hc hc'
      go_wp2
      go_ret
      exact ⟨rfl,hb⟩
 · obtain rfl:len=0:=by omega
   clear hc hc'
   go_enter Tryz.func63,Tryz.ntmps63
   go_wp2
   go_loop [5] (fun i=>i = .int .i64 0) (fun _=>0)
   case atStart=>rfl
   case round =>
    subst hrel
    go_wp2
    go_ret
    exact ⟨rfl,Below.refl _ _⟩
open Go.RowKit Go.ChangeShapes
theorem in_rowB {H:Type} {enc:TypeId × Value→H} {w:World} {a:Option Addr} {len cap:Nat} {d:DataW H} {ps:List MemPlace}
  (h:DataW.Trod enc Tryz.prog w 0 (fun _=>true) true 22 (.slice a len cap) d ps):∃ z,RowB w a len z∧(a=none→cap=0)∧len≤cap:=by
 obtain ⟨fuel,hf⟩:=h
 rcases open_ints Tryz.underlying22 Tryz.underlying5 (by kernel_rfl) hf with ⟨hcs,-⟩ | ⟨x,l,c,zs,hcs,-,hl,hm,hz,-,hcell,hwz⟩
 · simp [Value.cells] at hcs
   obtain ⟨rfl,rfl,rfl⟩:=hcs
   exact ⟨[],rowB_of_in (cap:=0) (zs:=[]) (.inl ⟨rfl,rfl,rfl,rfl⟩),fun _=>rfl,Nat.le_refl _⟩
 · simp [Value.cells] at hcs
   obtain ⟨rfl,rfl,rfl⟩:=hcs
   exact ⟨_,rowB_of_in (cap:=cap) (zs:=zs) (.inr ⟨_,rfl,hl,hm,by simpa using hz,hcell,hwz⟩),fun h=>(by cases h),hl⟩
end Go.Proofs.YtpnjgmgmakmgeaaGreat
