/- Texts of ours that stand together: BlkMath, BlkLaws, BlkMem, TreMath, TreMath2, EqToT, TreBase, TreMem, SzT -/
import Derived.Test.YtpnjgmgmakmgeaaGreatEff
import Derived.Test.YtpnjgmgmakmgeaaGreatCore
import Derived.Test.YtpnjgmgmakmgeaaGreatActs
import Derived.Test.YtpnjgmgmakmgeaaGreatEffA
import Derived.Test.YtpnjgmgmakmgeaaGreatOwnG
import Derived.Test.YtpnjgmgmakmgeaaGreatLay
import Derived.Test.YtpnjgmgmakmgeaaGreatConv
/- Blocks: plain mathematics. No function of the program is named here. -/
namespace Go.Proofs.YtpnjgmgmakmgeaaGreat
set_option linter.unusedVariables false
structure Blk where
 bef:Int
 hgt:Int
 view:Int
 acts:List Acn
 root:Int
 effs:Int
def noBlk:Blk:=⟨0,0,0,[],0,0⟩
def blkB (b:Blk):Bool:=inB b.bef 0 1000002 && inB b.root 0 1000002 && inB b.effs 0 1000002 && inB b.hgt 0 100 && inB b.view 0 1000 && actsB b.acts
def numA (x:Acn):List Int:=[x.kind,x.src,x.dst,x.amt]
def blkTo (b:Blk) (k:Nat):List Int:=[b.bef,b.hgt,b.view,(b.acts.length:Int)]++(b.acts.take k).flatMap numA
def blkNums (b:Blk):List Int:=blkTo b b.acts.length++[b.root,b.effs]
def blkSumM (b:Blk):Int:=if blkB b then sumOfM 5 (blkNums b) else -1
def blkRun (b:Blk) (S:List Ent):Blk:=⟨b.bef,b.hgt,b.view,b.acts,rootM (serM S b.acts).1,effsSumM (serM S b.acts).2⟩
def firstM (S:List Ent):Blk:=if storeB S then blkRun noBlk S else noBlk
def befB (b:Blk) (view:Int):Bool:=blkB b && decide (b.hgt≠100) && inB view (b.view+1) 1000
def nextB (b:Blk) (S:List Ent) (view:Int) (L:List Acn):Bool:=befB b view && storeB S && actsB L
def nextK (b:Blk) (S:List Ent) (view:Int) (L:List Acn):Blk:=blkRun ⟨blkSumM b,b.hgt+1,view,L,0,0⟩ S
def nextM (b:Blk) (S:List Ent) (view:Int) (L:List Acn):Blk:=if nextB b S view L then nextK b S view L else noBlk
theorem blkB_true {b:Blk} (h:blkB b=true):(0≤b.bef∧b.bef≤1000002)∧(0≤b.root∧b.root≤1000002)∧(0≤b.effs∧b.effs≤1000002)∧(0≤b.hgt∧b.hgt≤100)∧(0≤b.view∧b.view≤1000)∧actsB b.acts=true:=by
 simp only [blkB,Bool.and_eq_true] at h
 exact ⟨inB_true h.1.1.1.1.1,inB_true h.1.1.1.1.2,inB_true h.1.1.1.2,inB_true h.1.1.2,inB_true h.1.2,h.2⟩
theorem blkB_yes {b:Blk} (h1:0≤b.bef∧b.bef≤1000002) (h2:0≤b.root∧b.root≤1000002) (h3:0≤b.effs∧b.effs≤1000002) (h4:0≤b.hgt∧b.hgt≤100) (h5:0≤b.view∧b.view≤1000) (h6:actsB b.acts=true):blkB b=true:=by
 simp [blkB,inB_yes h1.1 h1.2,inB_yes h2.1 h2.2,inB_yes h3.1 h3.2,inB_yes h4.1 h4.2,inB_yes h5.1 h5.2,h6]
theorem blkTo_zero (b:Blk):blkTo b 0=[b.bef,b.hgt,b.view,(b.acts.length:Int)]:=by simp [blkTo]
theorem blkTo_next (b:Blk) (k:Nat) (h:k < b.acts.length):blkTo b k++numA (b.acts.getD k noA)=blkTo b (k+1):=by
 unfold blkTo;rw [takeA_one b.acts k h];simp
theorem flatNum_len (l:List Acn):(l.flatMap numA).length=l.length*4:=by
 induction l with
 | nil=>rfl
 | cons a r ih=>simp only [List.flatMap_cons,List.length_append,ih,List.length_cons,numA,List.length_nil];omega
theorem blkTo_len (b:Blk) (k:Nat) (h:k≤b.acts.length):(blkTo b k).length=4+k*4:=by
 unfold blkTo;rw [List.length_append,flatNum_len,List.length_take,Nat.min_eq_left h];rfl
theorem numA_ok {x:Acn} (h:actB x=true):∀ n∈numA x,0≤n∧n≤2000000:=by
 have h1:=kind_of h
 have h2:=actB_bd h
 intro n hn
 simp only [numA,List.mem_cons,List.not_mem_nil,or_false] at hn
 rcases hn with rfl | rfl | rfl | rfl <;> omega
theorem blkNums_bd {b:Blk} (h:blkB b=true):∀ n∈blkNums b,0≤n∧n≤2000000:=by
 obtain ⟨h1,h2,h3,h4,h5,h6⟩:=blkB_true h
 obtain ⟨h7,h8⟩:=actsB_true h6
 intro n hn
 simp only [blkNums,blkTo,List.take_length,List.mem_append,List.mem_cons,List.not_mem_nil,or_false,List.mem_flatMap] at hn
 rcases hn with ((rfl | rfl | rfl | rfl) | ⟨x,hx,hn⟩) | (rfl | rfl)
 · omega
 · omega
 · omega
 · omega
 · exact numA_ok (h8 x hx) n hn
 · omega
 · omega
theorem blkNums_ok {b:Blk} (h:blkB b=true):(blkNums b).all okSummed=true:=by
 rw [List.all_eq_true]
 intro n hn
 have:=blkNums_bd h n hn
 simp [okSummed,this.1,this.2]
theorem blkSumM_yes {b:Blk} (h:blkB b=true):blkSumM b=sumFold (17+5) (blkNums b):=by
 unfold blkSumM;rw [if_pos h,sumOfM_yes 5 _ (by decide) (by decide) (blkNums_ok h)]
theorem blkSumM_no {b:Blk} (h:blkB b=false):blkSumM b = -1:=by simp [blkSumM,h]
theorem blkSumM_nn {b:Blk} (h:blkB b=true):0≤blkSumM b∧blkSumM b≤1000002:=by
 rw [blkSumM_yes h];exact sumFold_bd _ _ (by decide) (by decide)
theorem blkSumM_bd (b:Blk) : -1≤blkSumM b∧blkSumM b≤1000002:=by
 cases h:blkB b with
 | true=>have:=blkSumM_nn h;omega
 | false=>rw [blkSumM_no h];omega
theorem effsSumM_bd (L:List Eff) : -1≤effsSumM L∧effsSumM L≤1000002:=by
 rcases effsSum_cases L with h | h <;> omega
theorem serM_none {S:List Ent} (h:storeB S=true):serM S []=(S,[]):=by
 rw [serM_yes h (by rfl)];rfl
theorem firstM_yes {S:List Ent} (h:storeB S=true):firstM S=⟨0,0,0,[],rootM S,effsSumM []⟩:=by
 unfold firstM;rw [if_pos h]
 simp only [blkRun,noBlk,serM_none h]
theorem firstM_no {S:List Ent} (h:storeB S=false):firstM S=noBlk:=by simp [firstM,h]
theorem nextM_yes {b:Blk} {S:List Ent} {view:Int} {L:List Acn} (h:nextB b S view L=true):nextM b S view L=nextK b S view L:=by simp [nextM,h]
theorem nextM_no {b:Blk} {S:List Ent} {view:Int} {L:List Acn} (h:nextB b S view L=false):nextM b S view L=noBlk:=by simp [nextM,h]
theorem sumOfM_nn {t:Int} {l:List Int} (h0:0≤t) (h1:t≤9) (h:∀ n∈l,0≤n∧n≤2000000):0≤sumOfM t l∧sumOfM t l≤1000002:=by
 rw [sumOfM_yes t l h0 h1 (by rw [List.all_eq_true];intro n hn;have:=h n hn;simp [okSummed,this.1,this.2])]
 exact sumFold_bd _ _ (by omega) (by omega)
theorem effSum_run {S:List Ent} (a:Acn) (h:storeB S=true):0≤effSumM (runM S a)∧effSumM (runM S a)≤1000002:=by
 refine sumOfM_nn (by decide) (by decide) (fun n hn=>?_)
 have hr:=runM_rlen S a
 simp only [numsM,List.mem_cons] at hn
 rcases hn with rfl | rfl | hn
 · unfold bitB;split <;> omega
 · omega
 · obtain ⟨e,he,hx⟩:=numsE_mem _ n hn
   rcases List.mem_append.1 he with he | he
   · have:=runM_wf S a (fun k=>atM_bd ((storeB_ok _).1 h).2 k) e he
     rcases hx with rfl | rfl <;> omega
   · obtain ⟨k,hk,rfl⟩:=List.getElem_of_mem he
     have:=wrE_mem (wr_run S a) k hk
     rw [List.getD_eq_getElem?_getD,List.getElem?_eq_getElem hk] at this
     simp only [Option.getD_some] at this
     rcases hx with rfl | rfl <;> omega
theorem serL_sums {S:List Ent} (L:List Acn) (h:storeB S=true):∀ n∈(serL S L).2.map effSumM,0≤n∧n≤2000000:=by
 induction L generalizing S with
 | nil=>intro n hn;cases hn
 | cons a r ih =>
  intro n hn
  simp only [serL,List.map_cons,List.mem_cons] at hn
  rcases hn with rfl | hn
  · have:=effSum_run a h;omega
  · exact ih (store_run a h) n hn
theorem effsSum_ser {S:List Ent} {L:List Acn} (h:storeB S=true) (h2:actsB L=true):0≤effsSumM (serM S L).2∧effsSumM (serM S L).2≤1000002:=by
 have hl:=serM_len S L
 unfold effsSumM
 rw [if_pos hl,serM_yes h h2]
 exact sumOfM_nn (by decide) (by decide) (serL_sums L h)
theorem rootM_ser {S:List Ent} {L:List Acn} (h:storeB S=true) (h2:actsB L=true):0≤rootM (serM S L).1∧rootM (serM S L).1≤1000002:=by
 rw [serM_yes h h2]
 have h3:=store_ser L h
 have h4:=rootM_bd (serL S L).1
 refine ⟨?_,h4.2⟩
 unfold rootM;rw [if_pos h3]
 exact (nodeM_bd h3 5 0 (fun e=>by cases e)).1
theorem blkRun_ok {b:Blk} {S:List Ent} (h:storeB S=true) (h1:0≤b.bef∧b.bef≤1000002) (h4:0≤b.hgt∧b.hgt≤100) (h5:0≤b.view∧b.view≤1000) (h6:actsB b.acts=true):blkB (blkRun b S)=true :=
 blkB_yes h1 (rootM_ser h h6) (effsSum_ser h h6) h4 h5 h6
theorem firstM_ok {S:List Ent} (h:storeB S=true):blkB (firstM S)=true:=by
 unfold firstM;rw [if_pos h]
 exact blkRun_ok h (by decide) (by decide) (by decide) rfl
theorem nextB_true {b:Blk} {S:List Ent} {view:Int} {L:List Acn} (h:nextB b S view L=true):blkB b=true∧b.hgt≠100∧b.view+1≤view∧view≤1000∧storeB S=true∧actsB L=true:=by
 simp only [nextB,befB,Bool.and_eq_true,decide_eq_true_eq] at h
 obtain ⟨⟨⟨⟨h1,h2⟩,h3⟩,h4⟩,h5⟩:=h
 exact ⟨h1,h2,(inB_true h3).1,(inB_true h3).2,h4,h5⟩
theorem nextK_ok {b:Blk} {S:List Ent} {view:Int} {L:List Acn} (h:nextB b S view L=true):blkB (nextK b S view L)=true:=by
 obtain ⟨h1,h2,h3,h4,h5,h6⟩:=nextB_true h
 obtain ⟨-,-,-,h7,h8,-⟩:=blkB_true h1
 exact blkRun_ok h5 (blkSumM_nn h1) (by show 0≤b.hgt+1∧b.hgt+1≤100;omega) (by show 0≤view∧view≤1000;omega) h6
open Go.RowKit
def WfB (b:Blk):Prop:=(Lit.int .i64 b.bef).wf=true∧(Lit.int .i64 b.hgt).wf=true∧(Lit.int .i64 b.view).wf=true∧(Lit.int .i64 b.root).wf=true∧(Lit.int .i64 b.effs).wf=true
abbrev blkV (b:Blk) (v:Value):Value:=.agg #[.int .i64 b.bef,.int .i64 b.hgt,.int .i64 b.view,v,.int .i64 b.root,.int .i64 b.effs]
structure BkAt (w:World) (Z:Nat) (v0 v1 v2 v3 v4 v5:Value):Prop where
 c0:w.cell? ⟨Z,0,none⟩=some v0
 c1:w.cell? ⟨Z,1,none⟩=some v1
 c2:w.cell? ⟨Z,2,none⟩=some v2
 c3:w.cell? ⟨Z,3,none⟩=some v3
 c4:w.cell? ⟨Z,4,none⟩=some v4
 c5:w.cell? ⟨Z,5,none⟩=some v5
 f0:w.frozen? ⟨Z,0,none⟩=false
 f1:w.frozen? ⟨Z,1,none⟩=false
 f2:w.frozen? ⟨Z,2,none⟩=false
 f3:w.frozen? ⟨Z,3,none⟩=false
 f4:w.frozen? ⟨Z,4,none⟩=false
 f5:w.frozen? ⟨Z,5,none⟩=false
theorem BkAt.lt {w:World} {Z:Nat} {v0 v1 v2 v3 v4 v5:Value} (h:BkAt w Z v0 v1 v2 v3 v4 v5):Z < w.heap.size:=World.block_lt_of_cell? w ⟨Z,0,none⟩ h.c0
theorem BkAt.keep {w w':World} {Z:Nat} {v0 v1 v2 v3 v4 v5:Value} (h:BkAt w Z v0 v1 v2 v3 v4 v5) (hb:w'.heap[Z]? = w.heap[Z]?):BkAt w' Z v0 v1 v2 v3 v4 v5 :=
 ⟨(World.cell?_of_block hb).trans h.c0, (World.cell?_of_block hb).trans h.c1, (World.cell?_of_block hb).trans h.c2, (World.cell?_of_block hb).trans h.c3, (World.cell?_of_block hb).trans h.c4, (World.cell?_of_block hb).trans h.c5,
  (World.frozen?_of_block hb).trans h.f0,(World.frozen?_of_block hb).trans h.f1,(World.frozen?_of_block hb).trans h.f2,(World.frozen?_of_block hb).trans h.f3,(World.frozen?_of_block hb).trans h.f4,(World.frozen?_of_block hb).trans h.f5⟩
theorem BkAt.below {w w':World} {Z:Nat} {v0 v1 v2 v3 v4 v5:Value} (h:BkAt w Z v0 v1 v2 v3 v4 v5) (hb:Below w.heap.size w w'):BkAt w' Z v0 v1 v2 v3 v4 v5:=h.keep (hb.block Z h.lt)
theorem BkAt.grown {w w':World} {Z:Nat} {row:Option Nat} {v0 v1 v2 v3 v4 v5:Value} (h:BkAt w Z v0 v1 v2 v3 v4 v5) (hg:w.grownBy w' row) (hne:some Z≠row):BkAt w' Z v0 v1 v2 v3 v4 v5:=h.keep (hg.block Z h.lt hne)
theorem bkAt_new (w:World) (T:TypeId) (v0 v1 v2 v3 v4 v5:Value):BkAt (w.alloc (.cells #[v0,v1,v2,v3,v4,v5] T)) w.heap.size v0 v1 v2 v3 v4 v5:=by constructor <;> simp [go_sem]
theorem BkAt.set6 {w:World} {Z:Nat} {v0 v1 v2 v3 v4 v5:Value} (h:BkAt w Z v0 v1 v2 v3 v4 v5) (x0 x1 x2 x3 x4 x5:Value):BkAt ((((((w.setCell ⟨Z,0,none⟩ x0).setCell ⟨Z,1,none⟩ x1).setCell ⟨Z,2,none⟩ x2).setCell ⟨Z,3,none⟩ x3).setCell ⟨Z,4,none⟩ x4).setCell ⟨Z,5,none⟩ x5) Z x0 x1 x2 x3 x4 x5:=by
 constructor <;> simp [go_sem,h.c0,h.c1,h.c2,h.c3,h.c4,h.c5,h.f0,h.f1,h.f2,h.f3,h.f4,h.f5]
theorem BkAt.set45 {w:World} {Z:Nat} {v0 v1 v2 v3 v4 v5:Value} (h:BkAt w Z v0 v1 v2 v3 v4 v5) (x4 x5:Value):BkAt ((w.setCell ⟨Z,4,none⟩ x4).setCell ⟨Z,5,none⟩ x5) Z v0 v1 v2 v3 x4 x5:=by
 constructor <;> simp [go_sem,h.c0,h.c1,h.c2,h.c3,h.c4,h.c5,h.f0,h.f1,h.f2,h.f3,h.f4,h.f5]
theorem BkAt.set345 {w:World} {Z:Nat} {v0 v1 v2 v3 v4 v5:Value} (h:BkAt w Z v0 v1 v2 v3 v4 v5) (x3 x4 x5:Value):BkAt (((w.setCell ⟨Z,3,none⟩ x3).setCell ⟨Z,4,none⟩ x4).setCell ⟨Z,5,none⟩ x5) Z v0 v1 v2 x3 x4 x5:=by
 constructor <;> simp [go_sem,h.c0,h.c1,h.c2,h.c3,h.c4,h.c5,h.f0,h.f1,h.f2,h.f3,h.f4,h.f5]
theorem results_blk {fn:Func} {p:Tmp} (h:fn.results=#[.cell p 37]) (tmps:Array Value) {F:World} {Z:Nat} (hp:tmps.getD p undef = .pointer (some ⟨Z,0,none⟩)) {v0 v1 v2 v3 v4 v5:Value} (hc:BkAt F Z v0 v1 v2 v3 v4 v5):(results fn tmps).run Tryz.prog F = .ok (.agg #[v0,v1,v2,v3,v4,v5]) F:=by
 have hp':tmps[p]?.getD undef = .pointer (some ⟨Z,0,none⟩):=by simpa using hp
 obtain ⟨c0,c1,c2,c3,c4,c5,-⟩:=hc
 simp [results,h,hp',asAddr,go_sem,c0,c1,c2,c3,c4,c5]
theorem results_blkB {fn:Func} {p q:Tmp} (h:fn.results=#[.cell p 37,.tmp q]) (tmps:Array Value) {F:World} {Z:Nat} (hp:tmps.getD p undef = .pointer (some ⟨Z,0,none⟩)) {v0 v1 v2 v3 v4 v5:Value} (hc:BkAt F Z v0 v1 v2 v3 v4 v5) (x:Value) (hq:tmps.getD q undef=x):(results fn tmps).run Tryz.prog F = .ok (.tuple #[.agg #[v0,v1,v2,v3,v4,v5],x]) F:=by
 have hp':tmps[p]?.getD undef = .pointer (some ⟨Z,0,none⟩):=by simpa using hp
 have hq':tmps[q]?.getD undef=x:=by simpa using hq
 obtain ⟨c0,c1,c2,c3,c4,c5,-⟩:=hc
 simp [results,h,hp',hq',asAddr,go_sem,c0,c1,c2,c3,c4,c5]
theorem below_set6 {B:Nat} {a w:World} (h:Below B a w) {Z:Nat} (hz:B≤Z) (x0 x1 x2 x3 x4 x5:Value):Below B a ((((((w.setCell ⟨Z,0,none⟩ x0).setCell ⟨Z,1,none⟩ x1).setCell ⟨Z,2,none⟩ x2).setCell ⟨Z,3,none⟩ x3).setCell ⟨Z,4,none⟩ x4).setCell ⟨Z,5,none⟩ x5) :=
 (((((h.setCell hz x0).setCell hz x1).setCell hz x2).setCell hz x3).setCell hz x4).setCell hz x5
theorem owns_set6 {w:World} {B:Nat} {e:TypeId} {size n:Nat} {v:Value} {xs:List Value} (h:w.ownsRow B e size v n xs) {Z:Nat} (hz:v.ownBlock≠some Z) (x0 x1 x2 x3 x4 x5:Value):((((((w.setCell ⟨Z,0,none⟩ x0).setCell ⟨Z,1,none⟩ x1).setCell ⟨Z,2,none⟩ x2).setCell ⟨Z,3,none⟩ x3).setCell ⟨Z,4,none⟩ x4).setCell ⟨Z,5,none⟩ x5).ownsRow B e size v n xs :=
 owns_set (owns_set (owns_set (owns_set (owns_set (owns_set h hz _ _) hz _ _) hz _ _) hz _ _) hz _ _) hz _ _
def NewBk (w:World) (eA:TypeId) (b:Blk) (e:Ending) (w':World):Prop :=
 ∃ v,e = .returned (blkV b v)∧w'.ownsRow w.heap.size eA 4 v b.acts.length (flatA b.acts)∧WfAs b.acts∧WfB b∧Below w.heap.size w w'
def NewBkB (w:World) (eA:TypeId) (b:Blk) (ok:Bool) (e:Ending) (w':World):Prop :=
 ∃ v,e = .returned (.tuple #[blkV b v,.bool ok])∧w'.ownsRow w.heap.size eA 4 v b.acts.length (flatA b.acts)∧WfAs b.acts∧WfB b∧Below w.heap.size w w'
theorem wfB_no:WfB noBlk:=⟨rfl,rfl,rfl,rfl,rfl⟩
theorem wfB_run {b:Blk} (S:List Ent) (h:WfB b):WfB (blkRun b S):=by
 obtain ⟨h1,h2,h3,-,-⟩:=h
 have a:=rootM_bd (serM S b.acts).1
 have c:=effsSumM_bd (serM S b.acts).2
 exact ⟨h1,h2,h3,WalkArith.wf_i64 (by show _∧_;simp only [blkRun];omega),WalkArith.wf_i64 (by simp only [blkRun];omega)⟩
theorem newBk_zero (w:World) (B:Nat) (eA:TypeId):w.ownsRow B eA 4 (.slice none 0 0) noBlk.acts.length (flatA noBlk.acts):=World.ownsRow_nil _ _ _ _
instance:DecidableEq Acn:=fun x y=>decidable_of_iff (x.kind=y.kind∧x.src=y.src∧x.dst=y.dst∧x.amt=y.amt) (by
 obtain ⟨a,b,c,d⟩:=x;obtain ⟨e,f,g,h⟩:=y;simp)
instance:DecidableEq Blk:=fun x y=>decidable_of_iff (x.bef=y.bef∧x.hgt=y.hgt∧x.view=y.view∧x.acts=y.acts∧x.root=y.root∧x.effs=y.effs) (by
 obtain ⟨a,b,c,d,e,f⟩:=x;obtain ⟨a',b',c',d',e',f'⟩:=y;simp)
structure Tre where
 base:List Ent
 blocks:List Blk
 bef:List Int
def noTre:Tre:=⟨[],[],[]⟩
def blkAt (L:List Blk) (k:Nat):Blk:=L.getD k noBlk
def findF (s:Int):List Blk→Int→Int
 | [],_=>-1
 | b :: r,k=>if blkSumM b=s then k else findF s r (k+1)
def findL (L:List Blk) (s:Int):Int:=findF s L 0
def NoneTo (L:List Blk) (s:Int) (k:Nat):Prop:=∀ j,j < k→blkSumM (blkAt L j)≠s
theorem NoneTo.next {L:List Blk} {s:Int} {k:Nat} (h:NoneTo L s k) (hk:blkSumM (blkAt L k)≠s):NoneTo L s (k+1):=by
 intro j hj
 by_cases e:j=k
 · rw [e];exact hk
 · exact h j (by omega)
theorem findF_hit (s:Int):∀ (L:List Blk) (i:Int) (k:Nat),k < L.length→NoneTo L s k→blkSumM (blkAt L k)=s→findF s L i=i+k:=by
 intro L
 induction L with
 | nil=>intro i k h;cases h
 | cons b r ih =>
  intro i k hk hn hs
  unfold findF
  cases k with
  | zero =>
   have:blkSumM b=s:=hs
   rw [if_pos this];simp
  | succ k =>
   have h0:blkSumM b≠s:=hn 0 (by omega)
   rw [if_neg h0,ih (i+1) k (by simpa using hk) (fun j hj=>hn (j+1) (by omega)) hs]
   push_cast;omega
theorem findF_miss (s:Int):∀ (L:List Blk) (i:Int),NoneTo L s L.length→findF s L i = -1:=by
 intro L
 induction L with
 | nil=>intro i _;rfl
 | cons b r ih =>
  intro i hn
  unfold findF
  have h0:blkSumM b≠s:=hn 0 (by simp)
  rw [if_neg h0]
  exact ih (i+1) (fun j hj=>hn (j+1) (by simpa using hj))
theorem findL_hit {L:List Blk} {s:Int} {k:Nat} (hk:k < L.length) (hn:NoneTo L s k) (hs:blkSumM (blkAt L k)=s):findL L s=k:=by
 unfold findL;rw [findF_hit s L 0 k hk hn hs];omega
theorem findL_miss {L:List Blk} {s:Int} (hn:NoneTo L s L.length):findL L s = -1:=findF_miss s L 0 hn
theorem findL_cases (L:List Blk) (s:Int):(findL L s = -1∧NoneTo L s L.length)∨∃ k:Nat,k < L.length∧findL L s=k∧NoneTo L s k∧blkSumM (blkAt L k)=s:=by
 have gen:∀ n,n≤L.length→NoneTo L s n∨∃ k:Nat,k < n∧NoneTo L s k∧blkSumM (blkAt L k)=s:=by
  intro n
  induction n with
  | zero=>intro _;exact .inl (fun j hj=>by omega)
  | succ n ih =>
   intro hn
   rcases ih (by omega) with h | ⟨k,h1,h2,h3⟩
   · by_cases e:blkSumM (blkAt L n)=s
     · exact .inr ⟨n,by omega,h,e⟩
     · exact .inl (h.next e)
   · exact .inr ⟨k,by omega,h2,h3⟩
 rcases gen L.length (Nat.le_refl _) with h | ⟨k,h1,h2,h3⟩
 · exact .inl ⟨findL_miss h,h⟩
 · exact .inr ⟨k,h1,findL_hit h1 h2 h3,h2,h3⟩
def behB (t:Tre) (k:Nat):Bool :=
 inB (t.bef.getD k 0) 0 ((k:Int) - 1) && decide (blkSumM (blkAt t.blocks (t.bef.getD k 0).toNat)=(blkAt t.blocks k).bef) &&
  decide ((blkAt t.blocks (t.bef.getD k 0).toNat).hgt=(blkAt t.blocks k).hgt - 1) && decide ((blkAt t.blocks (t.bef.getD k 0).toNat).view < (blkAt t.blocks k).view)
def firB (t:Tre) (k:Nat):Bool:=blkB (blkAt t.blocks k) && decide (findL t.blocks (blkSumM (blkAt t.blocks k))=k)
def treB (t:Tre):Bool :=
 storeB t.base && inB t.blocks.length 1 14 && decide (t.bef.length=t.blocks.length) && decide (t.bef.getD 0 0 = -1) && (List.range t.blocks.length).all (firB t) &&
  (List.range t.blocks.length).all (fun k=>decide (k=0) || behB t k) && decide (blkAt t.blocks 0=firstM t.base)
structure TreOk (t:Tre):Prop where
 base:storeB t.base=true
 one:1≤t.blocks.length
 most:t.blocks.length≤14
 len:t.bef.length=t.blocks.length
 root:t.bef.getD 0 0 = -1
 fir:∀ k,k < t.blocks.length→firB t k=true
 beh:∀ k,0 < k→k < t.blocks.length→behB t k=true
 fst:blkAt t.blocks 0=firstM t.base
theorem treB_iff (t:Tre):treB t=true ↔ TreOk t:=by
 unfold treB
 simp only [Bool.and_eq_true,decide_eq_true_eq,List.all_eq_true,List.mem_range,Bool.or_eq_true]
 constructor
 · rintro ⟨⟨⟨⟨⟨⟨h1,h2⟩,h3⟩,h4⟩,h5⟩,h6⟩,h7⟩
   have:=inB_true h2
   exact ⟨h1,by omega,by omega,h3,h4,h5,fun k h0 hk=>by rcases h6 k hk with h | h;omega;exact h,h7⟩
 · rintro ⟨h1,h2,h3,h4,h5,h6,h7,h8⟩
   exact ⟨⟨⟨⟨⟨⟨h1,inB_yes (by omega) (by omega)⟩,h4⟩,h5⟩,h6⟩,fun k hk=>by
    by_cases h0:k=0
    · exact .inl h0
    · exact .inr (h7 k (by omega) hk)⟩,h8⟩
def treOfM (S:List Ent):Tre:=if storeB S then ⟨S,[firstM S],[-1]⟩ else noTre
def Tre.add (t:Tre) (b:Blk):Tre:=⟨t.base,t.blocks++[b],t.bef++[findL t.blocks b.bef]⟩
def putT (t:Tre) (b:Blk):Tre × Bool:=if treB t then if treB (t.add b) then (t.add b,true) else (t,false) else (noTre,false)
def wayF (bef:List Int):Nat→Int→List Int
 | 0,_=>[]
 | f+1,n=>if 0≤n∧n < bef.length then wayF bef f (bef.getD n.toNat 0)++[n] else []
def pathM (t:Tre) (n:Int):List Int:=if treB t && inB n 0 ((t.blocks.length:Int) - 1) then wayF t.bef t.blocks.length n else []
def storesL (t:Tre) (S:List Ent) (p:List Int):List Ent:=p.foldl (fun S k=>(serM S (blkAt t.blocks k.toNat).acts).1) S
def storeOfM (t:Tre) (n:Int):List Ent:=if (pathM t n).length=0 then [] else storesL t t.base (pathM t n)
def growM (t:Tre) (n view:Int) (L:List Acn):Tre × Bool :=
 if treB t then if inB n 0 ((t.blocks.length:Int) - 1) then if nextB (blkAt t.blocks n.toNat) (storeOfM t n) view L then putT t (nextK (blkAt t.blocks n.toNat) (storeOfM t n) view L) else (t,false) else (t,false) else (noTre,false)
theorem inB_iff {n a b:Int}:inB n a b=true ↔ a≤n∧n≤b:=⟨inB_true,fun h=>inB_yes h.1 h.2⟩
theorem blkAt_lt (L M:List Blk) (k:Nat) (h:k < L.length):blkAt (L++M) k=blkAt L k:=by
 unfold blkAt;rw [List.getD_eq_getElem?_getD,List.getD_eq_getElem?_getD,List.getElem?_append_left h]
theorem blkAt_last (L:List Blk) (b:Blk):blkAt (L++[b]) L.length=b:=by
 unfold blkAt;rw [List.getD_eq_getElem?_getD,List.getElem?_append_right (Nat.le_refl _)];simp
theorem blkAt_take (L:List Blk) (k i:Nat) (h:i < k):blkAt (L.take k) i=blkAt L i:=by
 unfold blkAt;rw [List.getD_eq_getElem?_getD,List.getD_eq_getElem?_getD,List.getElem?_take,if_pos h]
theorem getD_lt (L M:List Int) (k:Nat) (d:Int) (h:k < L.length):(L++M).getD k d=L.getD k d:=by
 rw [List.getD_eq_getElem?_getD,List.getD_eq_getElem?_getD,List.getElem?_append_left h]
theorem getD_last (L:List Int) (x d:Int):(L++[x]).getD L.length d=x:=by
 rw [List.getD_eq_getElem?_getD,List.getElem?_append_right (Nat.le_refl _)];simp
theorem getD_takeI (L:List Int) (k i:Nat) (d:Int) (h:i < k):(L.take k).getD i d=L.getD i d:=by
 rw [List.getD_eq_getElem?_getD,List.getD_eq_getElem?_getD,List.getElem?_take,if_pos h]
theorem findL_bd (L:List Blk) (s:Int) : -1≤findL L s∧findL L s < L.length:=by
 rcases findL_cases L s with ⟨h,-⟩ | ⟨k,h1,h2,-⟩
 · rw [h];omega
 · rw [h2];omega
theorem NoneTo.app {L M:List Blk} {s:Int} {k:Nat} (h:NoneTo L s k) (hk:k≤L.length):NoneTo (L++M) s k:=fun j hj=>by rw [blkAt_lt _ _ _ (by omega)];exact h j hj
theorem findL_app {L:List Blk} (M:List Blk) {s:Int} (h:findL L s≠-1):findL (L++M) s=findL L s:=by
 rcases findL_cases L s with ⟨h1,-⟩ | ⟨k,h1,h2,h3,h4⟩
 · exact absurd h1 h
 · rw [h2];exact findL_hit (by rw [List.length_append];omega) (h3.app (by omega)) (by rw [blkAt_lt _ _ _ h1];exact h4)
theorem findL_snoc {L:List Blk} (b:Blk) (s:Int):findL (L++[b]) s=if findL L s = -1 then (if blkSumM b=s then (L.length:Int) else -1) else findL L s:=by
 by_cases h:findL L s = -1
 · rw [if_pos h]
   rcases findL_cases L s with ⟨-,h1⟩ | ⟨k,h1,h2,-⟩
   · by_cases e:blkSumM b=s
     · rw [if_pos e];exact findL_hit (by simp) (h1.app (Nat.le_refl _)) (by rw [blkAt_last];exact e)
     · rw [if_neg e]
       refine findL_miss ?_
       rw [List.length_append,List.length_singleton]
       exact (h1.app (Nat.le_refl _)).next (by rw [blkAt_last];exact e)
   · omega
 · rw [if_neg h];exact findL_app [b] h
theorem findL_take {L:List Blk} {s:Int} {k n:Nat} (h:findL L s=k) (hk:k < n) (hn:n≤L.length):findL (L.take n) s=k:=by
 have e:=findL_bd (L.take n) s
 by_cases h1:findL (L.take n) s = -1
 · exfalso
   have h2:=findL_cases (L.take n) s
   rcases h2 with ⟨-,h3⟩ | ⟨j,h3,h4,-⟩
   · rcases findL_cases L s with ⟨h4,-⟩ | ⟨j,h4,h5,-,h6⟩
     · omega
     · have:j=k:=by omega
       subst this
       exact h3 j (by rw [List.length_take];omega) (by rw [blkAt_take _ _ _ hk];exact h6)
   · omega
 · have:=findL_app (L.drop n) h1
   rw [List.take_append_drop] at this
   rw [← this];exact h
def putB (t:Tre) (b:Blk):Bool :=
 decide (t.blocks.length≠14) && blkB b && decide (findL t.blocks b.bef≠-1) && decide (b.hgt=(blkAt t.blocks (findL t.blocks b.bef).toNat).hgt+1) && decide (b.view > (blkAt t.blocks (findL t.blocks b.bef).toNat).view) && decide (findL t.blocks (blkSumM b) = -1)
structure PutOk (t:Tre) (b:Blk):Prop where
 len:t.blocks.length≠14
 ok:blkB b=true
 fnd:findL t.blocks b.bef≠-1
 hgt:b.hgt=(blkAt t.blocks (findL t.blocks b.bef).toNat).hgt+1
 view:(blkAt t.blocks (findL t.blocks b.bef).toNat).view < b.view
 new:findL t.blocks (blkSumM b) = -1
theorem putB_iff (t:Tre) (b:Blk):putB t b=true ↔ PutOk t b:=by
 unfold putB
 simp only [Bool.and_eq_true,decide_eq_true_eq]
 constructor
 · rintro ⟨⟨⟨⟨⟨h1,h2⟩,h3⟩,h4⟩,h5⟩,h6⟩;exact ⟨h1,h2,h3,h4,h5,h6⟩
 · rintro ⟨h1,h2,h3,h4,h5,h6⟩;exact ⟨⟨⟨⟨⟨h1,h2⟩,h3⟩,h4⟩,h5⟩,h6⟩
structure BehOk (t:Tre) (k:Nat):Prop where
 lo:0≤t.bef.getD k 0
 hi:t.bef.getD k 0 < k
 sum:blkSumM (blkAt t.blocks (t.bef.getD k 0).toNat)=(blkAt t.blocks k).bef
 hgt:(blkAt t.blocks (t.bef.getD k 0).toNat).hgt=(blkAt t.blocks k).hgt - 1
 view:(blkAt t.blocks (t.bef.getD k 0).toNat).view < (blkAt t.blocks k).view
theorem behB_iff (t:Tre) (k:Nat):behB t k=true ↔ BehOk t k:=by
 unfold behB
 simp only [Bool.and_eq_true,decide_eq_true_eq,inB_iff]
 constructor
 · rintro ⟨⟨⟨⟨h1,h1'⟩,h2⟩,h3⟩,h4⟩;exact ⟨h1,by omega,h2,h3,h4⟩
 · rintro ⟨h1,h1',h2,h3,h4⟩;exact ⟨⟨⟨⟨h1,by omega⟩,h2⟩,h3⟩,h4⟩
theorem firB_iff (t:Tre) (k:Nat):firB t k=true ↔ blkB (blkAt t.blocks k)=true∧findL t.blocks (blkSumM (blkAt t.blocks k))=k:=by
 unfold firB;simp only [Bool.and_eq_true,decide_eq_true_eq]
theorem TreOk.sum_eq {t:Tre} (h:TreOk t) {i:Nat} (hi:i < t.blocks.length):findL t.blocks (blkSumM (blkAt t.blocks i))=i:=((firB_iff t i).1 (h.fir i hi)).2
theorem TreOk.ok {t:Tre} (h:TreOk t) {i:Nat} (hi:i < t.blocks.length):blkB (blkAt t.blocks i)=true:=((firB_iff t i).1 (h.fir i hi)).1
theorem TreOk.behind {t:Tre} (h:TreOk t) {k:Nat} (h0:0 < k) (hk:k < t.blocks.length):BehOk t k:=(behB_iff t k).1 (h.beh k h0 hk)
theorem TreOk.befBd {t:Tre} (h:TreOk t) {k:Nat} (hk:k < t.blocks.length) : -1≤t.bef.getD k 0∧t.bef.getD k 0 < k:=by
 by_cases h0:k=0
 · subst h0;rw [h.root];omega
 · have:=h.behind (by omega) hk;exact ⟨by have:=this.lo;omega,this.hi⟩
theorem treOk_one {S:List Ent} (h:storeB S=true):TreOk ⟨S,[firstM S],[-1]⟩:=by
 refine ⟨h,by simp,by simp,rfl,rfl,fun k hk=>?_,fun k h0 hk=>?_,rfl⟩
 · obtain rfl:k=0:=by simp at hk;omega
   rw [firB_iff]
   exact ⟨firstM_ok h,findL_hit (k:=0) (by simp) (fun j hj=>by omega) rfl⟩
 · simp at hk;omega
theorem treOf_ok {S:List Ent} (h:storeB S=true):treB (treOfM S)=true:=by
 unfold treOfM;rw [if_pos h];exact (treB_iff _).2 (treOk_one h)
theorem treOk_add {t:Tre} (h:TreOk t) (b:Blk):TreOk (t.add b) ↔ PutOk t b:=by
 have hl:(t.add b).blocks.length=t.blocks.length+1:=by simp [Tre.add]
 have hlast:blkAt (t.add b).blocks t.blocks.length=b:=blkAt_last _ _
 have hold:∀ k,k < t.blocks.length→blkAt (t.add b).blocks k=blkAt t.blocks k:=fun k hk=>blkAt_lt _ _ _ hk
 have hbold:∀ k,k < t.blocks.length→(t.add b).bef.getD k 0=t.bef.getD k 0:=fun k hk=>getD_lt _ _ _ _ (by rw [h.len];exact hk)
 have hblast:(t.add b).bef.getD t.blocks.length 0=findL t.blocks b.bef:=by rw [← h.len];exact getD_last _ _ _
 have hfb:=findL_bd t.blocks b.bef
 have hone:=h.one
 constructor
 · intro g
   have g1:=(firB_iff _ _).1 (g.fir t.blocks.length (by omega))
   rw [hlast] at g1
   have g2:=g.behind (k:=t.blocks.length) (by omega) (by omega)
   have e1:=g2.lo;have e2:=g2.sum;have e3:=g2.hgt;have e4:=g2.view
   rw [hblast] at e1 e2 e3 e4
   rw [hlast] at e2 e3 e4
   have hlt:(findL t.blocks b.bef).toNat < t.blocks.length:=by omega
   rw [hold _ hlt] at e2 e3 e4
   have hm:=g.most
   refine ⟨by omega,g1.1,by omega,by omega,e4,?_⟩
   have:=g1.2
   rw [show (t.add b).blocks=t.blocks++[b] from rfl,findL_snoc] at this
   by_cases e:findL t.blocks (blkSumM b) = -1
   · exact e
   · rw [if_neg e] at this
     have:=findL_bd t.blocks (blkSumM b);omega
 · intro g
   have hm:=h.most
   have g0:=g.len
   have g3:=g.fnd
   refine ⟨h.base,by omega,by omega,by simp [Tre.add,h.len],by rw [hbold 0 (by omega)];exact h.root,fun k hk=>?_,fun k h0 hk=>?_,by rw [hold 0 (by omega)];exact h.fst⟩
   · rw [firB_iff]
     by_cases e:k=t.blocks.length
     · subst e;rw [hlast]
       exact ⟨g.ok,by rw [show (t.add b).blocks=t.blocks++[b] from rfl,findL_snoc,if_pos g.new,if_pos rfl]⟩
     · have hk':k < t.blocks.length:=by omega
       rw [hold k hk']
       refine ⟨h.ok hk',?_⟩
       have:=h.sum_eq hk'
       rw [show (t.add b).blocks=t.blocks++[b] from rfl,findL_app _ (by rw [this];omega)];exact this
   · rw [behB_iff]
     by_cases e:k=t.blocks.length
     · subst e
       have hlt:(findL t.blocks b.bef).toNat < t.blocks.length:=by omega
       refine ⟨by rw [hblast];omega,by rw [hblast];omega,?_,?_,?_⟩
       · rw [hblast,hold _ hlt,hlast]
         rcases findL_cases t.blocks b.bef with ⟨h1,-⟩ | ⟨j,h1,h2,-,h4⟩
         · omega
         · rw [h2];exact h4
       · rw [hblast,hold _ hlt,hlast,g.hgt];omega
       · rw [hblast,hold _ hlt,hlast];exact g.view
     · have hk':k < t.blocks.length:=by omega
       have b1:=h.behind h0 hk'
       have l1:=b1.lo;have l2:=b1.hi
       have hlt:(t.bef.getD k 0).toNat < t.blocks.length:=by omega
       exact ⟨by rw [hbold k hk'];exact b1.lo,by rw [hbold k hk'];exact b1.hi,by rw [hbold k hk',hold _ hlt,hold _ hk'];exact b1.sum,by rw [hbold k hk',hold _ hlt,hold _ hk'];exact b1.hgt,by rw [hbold k hk',hold _ hlt,hold _ hk'];exact b1.view⟩
theorem putB_add {t:Tre} (h:treB t=true) (b:Blk):treB (t.add b)=putB t b:=by
 rw [Bool.eq_iff_iff,treB_iff,putB_iff];exact treOk_add ((treB_iff t).1 h) b
def Tre.pre (t:Tre) (k:Nat):Tre:=⟨t.base,t.blocks.take k,t.bef.take k⟩
theorem pre_all {t:Tre} (h:t.bef.length=t.blocks.length):t.pre t.blocks.length=t:=by
 cases t;simp only [Tre.pre] at h ⊢;rw [List.take_length,← h,List.take_length]
theorem treOk_pre {t:Tre} (h:TreOk t) {k:Nat} (h1:1≤k) (hk:k≤t.blocks.length):TreOk (t.pre k):=by
 have hl:(t.pre k).blocks.length=k:=by simp [Tre.pre];omega
 have hb:∀ i,i < k→blkAt (t.pre k).blocks i=blkAt t.blocks i:=fun i hi=>blkAt_take _ _ _ hi
 have hf:∀ i,i < k→(t.pre k).bef.getD i 0=t.bef.getD i 0:=fun i hi=>getD_takeI _ _ _ _ hi
 have hm:=h.most
 refine ⟨h.base,by omega,by omega,?_,by rw [hf 0 (by omega)];exact h.root,fun i hi=>?_,fun i h0 hi=>?_,by rw [hb 0 (by omega)];exact h.fst⟩
 · have:=h.len;simp [Tre.pre];omega
 · rw [hl] at hi
   rw [firB_iff,hb i hi]
   exact ⟨h.ok (by omega),findL_take (h.sum_eq (by omega)) hi hk⟩
 · rw [hl] at hi
   have b1:=h.behind h0 (by omega)
   have l1:=b1.lo;have l2:=b1.hi
   rw [behB_iff]
   exact ⟨by rw [hf i hi];exact b1.lo,by rw [hf i hi];exact b1.hi,by rw [hf i hi,hb _ (by omega),hb i hi];exact b1.sum,by rw [hf i hi,hb _ (by omega),hb i hi];exact b1.hgt,by rw [hf i hi,hb _ (by omega),hb i hi];exact b1.view⟩
theorem TreOk.befEq {t:Tre} (h:TreOk t) {k:Nat} (h0:0 < k) (hk:k < t.blocks.length):findL (t.blocks.take k) (blkAt t.blocks k).bef=t.bef.getD k 0:=by
 have b1:=h.behind h0 hk
 have l1:=b1.lo;have l2:=b1.hi
 have e:=h.sum_eq (i:=(t.bef.getD k 0).toNat) (by omega)
 rw [b1.sum] at e
 rw [findL_take e (by omega) (by omega)];omega
theorem pre_next {t:Tre} {k:Nat} (hk:k < t.blocks.length) (hl:t.bef.length=t.blocks.length) (he:findL (t.blocks.take k) (blkAt t.blocks k).bef=t.bef.getD k 0):(t.pre k).add (blkAt t.blocks k)=t.pre (k+1):=by
 unfold Tre.pre Tre.add
 simp only
 rw [he,List.take_succ_eq_append_getElem hk,List.take_succ_eq_append_getElem (by omega:k < t.bef.length)]
 unfold blkAt
 rw [List.getD_eq_getElem?_getD,List.getElem?_eq_getElem hk,List.getD_eq_getElem?_getD,List.getElem?_eq_getElem (by omega:k < t.bef.length)];rfl
theorem TreOk.puts {t:Tre} (h:TreOk t) {k:Nat} (h0:0 < k) (hk:k < t.blocks.length):PutOk (t.pre k) (blkAt t.blocks k):=by
 have h1:=treOk_pre h (k:=k) (by omega) (by omega)
 have h2:=treOk_pre h (k:=k+1) (by omega) (by omega)
 rw [← pre_next hk h.len (h.befEq h0 hk)] at h2
 exact (treOk_add h1 _).1 h2
/-! The program's way: block after block. -/
theorem tre_no_base {t:Tre} (h:storeB t.base=false):treB t=false:=by
 rw [Bool.eq_false_iff];intro e;have:=((treB_iff t).1 e).base;rw [h] at this;cases this
theorem tre_no_one {t:Tre} (h:t.blocks.length=0):treB t=false:=by
 rw [Bool.eq_false_iff];intro e;have:=((treB_iff t).1 e).one;omega
theorem tre_no_len {t:Tre} (h:t.bef.length≠t.blocks.length):treB t=false:=by
 rw [Bool.eq_false_iff];intro e;exact h ((treB_iff t).1 e).len
theorem tre_no_root {t:Tre} (h:t.bef.getD 0 0≠-1):treB t=false:=by
 rw [Bool.eq_false_iff];intro e;exact h ((treB_iff t).1 e).root
theorem tre_no_fst {t:Tre} (h:blkAt t.blocks 0≠firstM t.base):treB t=false:=by
 rw [Bool.eq_false_iff];intro e;exact h ((treB_iff t).1 e).fst
theorem tre_no_put {t:Tre} {k:Nat} (h0:0 < k) (hk:k < t.blocks.length) (h:putB (t.pre k) (blkAt t.blocks k)=false):treB t=false:=by
 rw [Bool.eq_false_iff];intro e
 have:=((putB_iff _ _).2 (((treB_iff t).1 e).puts h0 hk));rw [h] at this;cases this
theorem tre_no_bef {t:Tre} {k:Nat} (h0:0 < k) (hk:k < t.blocks.length) (h:findL (t.blocks.take k) (blkAt t.blocks k).bef≠t.bef.getD k 0):treB t=false:=by
 rw [Bool.eq_false_iff];intro e;exact h (((treB_iff t).1 e).befEq h0 hk)
theorem tre_pre_one {t:Tre} (h0:storeB t.base=true) (h1:0 < t.blocks.length) (h2:t.bef.length=t.blocks.length) (h3:t.bef.getD 0 0 = -1) (h4:blkAt t.blocks 0=firstM t.base):t.pre 1=treOfM t.base:=by
 unfold treOfM;rw [if_pos h0]
 unfold Tre.pre
 obtain ⟨S,L,F⟩:=t
 match L,F,h1,h2,h3,h4 with
 | b :: r,x :: s,_,_,h3,h4 =>
  have e1:x = -1:=h3
  have e2:b=firstM S:=h4
  simp [e1,e2]
theorem tre_pre_next {t:Tre} {k:Nat} (hk:k < t.blocks.length) (hl:t.bef.length=t.blocks.length) (ht:treB (t.pre k)=true) (hp:putB (t.pre k) (blkAt t.blocks k)=true) (he:findL (t.blocks.take k) (blkAt t.blocks k).bef=t.bef.getD k 0):treB (t.pre (k+1))=true:=by
 rw [← pre_next hk hl he,putB_add ht];exact hp
def idxF (L:List Blk):Int→Option Int:=fun s=>if findL L s = -1 then none else some (findL L s)
theorem idxF_none {L:List Blk} {s:Int} (h:findL L s = -1):idxF L s=none:=by simp [idxF,h]
theorem idxF_some {L:List Blk} {s:Int} (h:findL L s≠-1):idxF L s=some (findL L s):=by simp [idxF,h]
theorem idxF_snoc {L:List Blk} {b:Blk} (h:findL L (blkSumM b) = -1) (s:Int):idxF (L++[b]) s=if s=blkSumM b then some (L.length:Int) else idxF L s:=by
 have hs:=findL_snoc b s (L:=L)
 by_cases e:s=blkSumM b
 · subst e
   rw [if_pos h,if_pos rfl] at hs
   rw [if_pos rfl,idxF_some (by omega),hs]
 · rw [if_neg e]
   by_cases h2:findL L s = -1
   · rw [if_pos h2,if_neg (fun e2=>e e2.symm)] at hs
     rw [idxF_none h2,idxF_none hs]
   · rw [if_neg h2] at hs
     rw [idxF_some h2,idxF_some (by rw [hs];exact h2),hs]
/-! Ways. -/
theorem wayF_no (F:List Int) (f:Nat) {n:Int} (h:¬ (0≤n∧n < F.length)):wayF F f n=[]:=by
 cases f with
 | zero=>rfl
 | succ f=>rw [wayF,if_neg h]
theorem wayF_yes (F:List Int) (f:Nat) {n:Nat} (h:n < F.length):wayF F (f+1) n=wayF F f (F.getD n 0)++[(n:Int)]:=by
 rw [wayF,if_pos ⟨by omega,by omega⟩,Int.toNat_natCast]
def Down (F:List Int):Prop:=∀ k,k < F.length→F.getD k 0 < k
theorem TreOk.down {t:Tre} (h:TreOk t):Down t.bef:=fun k hk=>(h.befBd (by rw [← h.len];exact hk)).2
theorem wayF_fuel {F:List Int} (h:Down F):∀ (n:Nat) (f:Nat),n < F.length→n < f→wayF F f n=wayF F (n+1) n:=by
 intro n
 induction n using Nat.strongRecOn with
 | _ n ih =>
  intro f hn hf
  obtain ⟨f,rfl⟩:∃ g,f=g+1:=⟨f - 1,by omega⟩
  rw [wayF_yes F f hn,wayF_yes F n hn]
  congr 1
  have hd:=h n hn
  by_cases h0:0≤F.getD n 0
  · obtain ⟨m,hm⟩:=Int.eq_ofNat_of_zero_le h0
    rw [hm] at hd ⊢
    have hmn:m < n:=by omega
    rw [ih m hmn f (by omega) (by omega),ih m hmn n (by omega) hmn]
  · rw [wayF_no F f (by omega),wayF_no F n (by omega)]
def wayN (F:List Int) (n:Int):List Int:=wayF F F.length n
theorem wayN_no {F:List Int} {n:Int} (h:¬ (0≤n∧n < F.length)):wayN F n=[]:=wayF_no F _ h
theorem wayN_next {F:List Int} (h:Down F) {n:Nat} (hn:n < F.length):wayN F n=wayN F (F.getD n 0)++[(n:Int)]:=by
 unfold wayN
 have hd:=h n hn
 rw [wayF_fuel h n F.length hn (by omega),wayF_yes F n hn]
 congr 1
 by_cases h0:0≤F.getD n 0
 · obtain ⟨m,hm⟩:=Int.eq_ofNat_of_zero_le h0
   rw [hm] at hd ⊢
   rw [wayF_fuel h m n (by omega) (by omega),wayF_fuel h m F.length (by omega) (by omega)]
 · rw [wayF_no F _ (by omega),wayF_no F _ (by omega)]
theorem pathM_yes {t:Tre} (h:treB t=true) {n:Int} (h0:0≤n) (h1:n < t.blocks.length):pathM t n=wayN t.bef n:=by
 have hl:=((treB_iff t).1 h).len
 unfold pathM wayN;rw [h,inB_yes h0 (by omega),hl];rfl
theorem pathM_no {t:Tre} {n:Int} (h:treB t=false∨¬ (0≤n∧n < t.blocks.length)):pathM t n=[]:=by
 unfold pathM
 rcases h with h | h
 · rw [h];rfl
 · rw [inB_no (by omega)];simp
theorem way_mem {F:List Int} (h:Down F):∀ n:Nat,n < F.length→∀ x∈wayN F n,0≤x∧x≤n:=by
 intro n
 induction n using Nat.strongRecOn with
 | _ n ih =>
  intro hn x hx
  rw [wayN_next h hn] at hx
  rcases List.mem_append.1 hx with hx | hx
  · have hd:=h n hn
    by_cases h0:0≤F.getD n 0
    · obtain ⟨m,hm⟩:=Int.eq_ofNat_of_zero_le h0
      rw [hm] at hd hx
      have:=ih m (by omega) (by omega) x hx;omega
    · rw [wayN_no (by omega)] at hx;cases hx
  · simp at hx;omega
def EqToT {α : Type} (d : α) (l l':List α) (k:Nat):Prop:=∀ j,j < k→l.getD j d=l'.getD j d
theorem EqToT.next {α : Type} {d : α} {l l':List α} {k:Nat} (h:EqToT d l l' k) (hk:l.getD k d=l'.getD k d):EqToT d l l' (k+1):=by
 intro j hj
 by_cases e1:j=k
 · rw [e1];exact hk
 · exact h j (by omega)
theorem EqToT.all {α : Type} [DecidableEq α] {d : α} {l l':List α} {k:Nat} (h:EqToT d l l' k) (h1:l.length=k) (h2:l'.length=k):decide (l=l')=true:=by
 refine decide_eq_true (List.ext_getElem (by rw [h1,h2]) fun i hi hi2=>?_)
 have:=h i (by omega)
 rwa [List.getD_eq_getElem?_getD,List.getElem?_eq_getElem hi,List.getD_eq_getElem?_getD,List.getElem?_eq_getElem hi2] at this
theorem eqToT_bad {α : Type} [DecidableEq α] {d : α} {l l':List α} {k:Nat} (h:l.getD k d≠l'.getD k d):decide (l=l')=false:=decide_eq_false (fun he=>h (by rw [he]))
theorem eqToT_len {α : Type} [DecidableEq α] {l l':List α} (h:l.length≠l'.length):decide (l=l')=false:=decide_eq_false (fun he=>h (by rw [he]))
def SliIt (w:World) (x:Value) (l:List Int):Prop:=∃ a n cap,x = .slice a n cap∧RowI w a n l∧(a=none→cap=0)∧n≤cap
def SliAt (w:World) (x:Value) (l:List Acn):Prop:=∃ a n cap,x = .slice a n cap∧RowA w a n l∧(a=none→cap=0)∧n≤cap
theorem SliIt.below {w w':World} {x:Value} {l:List Int} (h:SliIt w x l) (hb:Below w.heap.size w w'):SliIt w' x l:=by
 obtain ⟨a,n,cap,h1,h2,h3⟩:=h;exact ⟨a,n,cap,h1,h2.below hb,h3⟩
theorem SliAt.below {w w':World} {x:Value} {l:List Acn} (h:SliAt w x l) (hb:Below w.heap.size w w'):SliAt w' x l:=by
 obtain ⟨a,n,cap,h1,h2,h3⟩:=h;exact ⟨a,n,cap,h1,h2.below hb,h3⟩
theorem sliE_of_ownst {w:World} {B:Nat} {x:Value} {e:TypeId} {l:List Ent} (h:w.ownsRow B e 2 x l.length (flatE l)) (hw:WfE l) (hl:l.length≤4000000):SliE w x l:=by
 obtain ⟨a,cap,rfl,h5,h6⟩:=rowE_of_owns h hl hw
 refine ⟨a,_,cap,rfl,h5,h6,?_⟩
 rcases h.2 with ⟨he,h0⟩ | ⟨g,cap',cur,he,_,_,hnc,_⟩
 · omega
 · simp at he;omega
theorem sliI_of_ownst {w:World} {B:Nat} {x:Value} {e:TypeId} {l:List Int} (h:w.ownsRow B e 1 x l.length (l.map (Value.int .i64))) (hw:∀ y∈l,(Lit.int .i64 y).wf=true) (hl:l.length≤4000000):SliIt w x l:=by
 rcases slice_of_owns h with ⟨rfl,hn⟩ | ⟨g,cap,rfl,hB,hg,hnc,hcm⟩
 · obtain rfl:l=[]:=List.eq_nil_of_length_eq_zero hn
   exact ⟨none,0,0,rfl,⟨rfl,by unfold maxLen;omega,fun h=>absurd h (by omega),fun y hy=>by cases hy⟩,fun _=>rfl,Nat.le_refl _⟩
 · obtain ⟨a',c',e',hr⟩:=rowI_of_owns h (by unfold maxLen;omega) hw
   simp only [Value.slice.injEq,true_and] at e'
   obtain ⟨rfl,rfl⟩:=e'
   exact ⟨_,_,cap,rfl,hr,fun h=>(by cases h),hnc⟩
theorem sliA_of_ownst {w:World} {B:Nat} {x:Value} {e:TypeId} {l:List Acn} (h:w.ownsRow B e 4 x l.length (flatA l)) (hw:WfAs l) (hl:l.length≤4000000):SliAt w x l:=by
 obtain ⟨a,cap,rfl,h5,h6,h7,-⟩:=rowA_of_owns h hl hw
 exact ⟨a,_,cap,rfl,h5,h6,h7⟩
structure IxAt (w:World) (Z:Nat) (v1 v2 v3 v4:Value):Prop where
 c0:w.cell? ⟨Z,0,none⟩=some v1
 c1:w.cell? ⟨Z,1,none⟩=some v2
 c2:w.cell? ⟨Z,2,none⟩=some v3
 c3:w.cell? ⟨Z,3,none⟩=some v4
 f0:w.frozen? ⟨Z,0,none⟩=false
 f1:w.frozen? ⟨Z,1,none⟩=false
 f2:w.frozen? ⟨Z,2,none⟩=false
 f3:w.frozen? ⟨Z,3,none⟩=false
theorem IxAt.lt {w:World} {Z:Nat} {v1 v2 v3 v4:Value} (h:IxAt w Z v1 v2 v3 v4):Z < w.heap.size:=World.block_lt_of_cell? w ⟨Z,0,none⟩ h.c0
theorem IxAt.keep {w w':World} {Z:Nat} {v1 v2 v3 v4:Value} (h:IxAt w Z v1 v2 v3 v4) (hb:w'.heap[Z]? = w.heap[Z]?):IxAt w' Z v1 v2 v3 v4 :=
 ⟨(World.cell?_of_block hb).trans h.c0, (World.cell?_of_block hb).trans h.c1, (World.cell?_of_block hb).trans h.c2, (World.cell?_of_block hb).trans h.c3,
  (World.frozen?_of_block hb).trans h.f0,(World.frozen?_of_block hb).trans h.f1,(World.frozen?_of_block hb).trans h.f2,(World.frozen?_of_block hb).trans h.f3⟩
theorem IxAt.below {w w':World} {Z:Nat} {v1 v2 v3 v4:Value} (h:IxAt w Z v1 v2 v3 v4) (hb:Below w.heap.size w w'):IxAt w' Z v1 v2 v3 v4:=h.keep (hb.block Z h.lt)
theorem IxAt.grown {w w':World} {Z:Nat} {v1 v2 v3 v4:Value} {row:Option Nat} (h:IxAt w Z v1 v2 v3 v4) (hg:w.grownBy w' row) (hne:some Z≠row):IxAt w' Z v1 v2 v3 v4:=h.keep (hg.block Z h.lt hne)
theorem ixAt_new (w:World) (T:TypeId) (v1 v2 v3 v4:Value):IxAt (w.alloc (.cells #[v1,v2,v3,v4] T)) w.heap.size v1 v2 v3 v4:=by constructor <;> simp [go_sem]
theorem IxAt.set0 {w:World} {Z:Nat} {v1 v2 v3 v4:Value} (h:IxAt w Z v1 v2 v3 v4) (x:Value):IxAt (w.setCell ⟨Z,0,none⟩ x) Z x v2 v3 v4:=by
 constructor <;> simp [go_sem,h.c0,h.c1,h.c2,h.c3,h.f0,h.f1,h.f2,h.f3]
theorem IxAt.set1 {w:World} {Z:Nat} {v1 v2 v3 v4:Value} (h:IxAt w Z v1 v2 v3 v4) (x:Value):IxAt (w.setCell ⟨Z,1,none⟩ x) Z v1 x v3 v4:=by
 constructor <;> simp [go_sem,h.c0,h.c1,h.c2,h.c3,h.f0,h.f1,h.f2,h.f3]
theorem IxAt.set2 {w:World} {Z:Nat} {v1 v2 v3 v4:Value} (h:IxAt w Z v1 v2 v3 v4) (x:Value):IxAt (w.setCell ⟨Z,2,none⟩ x) Z v1 v2 x v4:=by
 constructor <;> simp [go_sem,h.c0,h.c1,h.c2,h.c3,h.f0,h.f1,h.f2,h.f3]
theorem IxAt.set3 {w:World} {Z:Nat} {v1 v2 v3 v4:Value} (h:IxAt w Z v1 v2 v3 v4) (x:Value):IxAt (w.setCell ⟨Z,3,none⟩ x) Z v1 v2 v3 x:=by
 constructor <;> simp [go_sem,h.c0,h.c1,h.c2,h.c3,h.f0,h.f1,h.f2,h.f3]
structure BkIn (w:World) (b o:Nat) (x:Blk):Prop where
 c0:w.cell? ⟨b,o,none⟩=some (.int .i64 x.bef)
 c1:w.cell? ⟨b,o+1,none⟩=some (.int .i64 x.hgt)
 c2:w.cell? ⟨b,o+2,none⟩=some (.int .i64 x.view)
 c3:∃ v,w.cell? ⟨b,o+3,none⟩=some v∧SliAt w v x.acts
 c4:w.cell? ⟨b,o+4,none⟩=some (.int .i64 x.root)
 c5:w.cell? ⟨b,o+5,none⟩=some (.int .i64 x.effs)
theorem BkIn.lt {w:World} {b o:Nat} {x:Blk} (h:BkIn w b o x):b < w.heap.size:=World.block_lt_of_cell? w ⟨b,o,none⟩ h.c0
theorem BkIn.below {w w':World} {b o:Nat} {x:Blk} (h:BkIn w b o x) (hb:Below w.heap.size w w'):BkIn w' b o x:=by
 have hlt:=h.lt
 obtain ⟨h0,h1,h2,⟨v,h3,hs⟩,h4,h5⟩:=h
 have c:∀ k,w'.cell? ⟨b,o+k,none⟩=w.cell? ⟨b,o+k,none⟩:=fun k=>hb.cell (p:=⟨b,o+k,none⟩) hlt
 have c0:w'.cell? ⟨b,o,none⟩=w.cell? ⟨b,o,none⟩:=hb.cell (p:=⟨b,o,none⟩) hlt
 exact ⟨by rw [c0];exact h0,by rw [c];exact h1,by rw [c];exact h2,⟨v,by rw [c];exact h3,hs.below hb⟩,by rw [c];exact h4,by rw [c];exact h5⟩
def RowBs (w:World) (a:Option Addr) (n:Nat) (L:List Blk):Prop :=
 L.length=n∧n≤maxLen∧(0 < n→∃ b off,a=some ⟨b,off,none⟩∧∀ i,i < n→BkIn w b (off+i*6) (L.getD i noBlk))∧∀ x∈L,WfB x
theorem RowBs.below {w w':World} {a:Option Addr} {n:Nat} {L:List Blk} (h:RowBs w a n L) (hb:Below w.heap.size w w'):RowBs w' a n L:=by
 obtain ⟨h1,h2,h3,h4⟩:=h
 refine ⟨h1,h2,fun hl=>?_,h4⟩
 obtain ⟨b,off,he,hc⟩:=h3 hl
 exact ⟨b,off,he,fun i hi=>(hc i hi).below hb⟩
theorem rowBs_empty (w:World) (a:Option Addr):RowBs w a 0 []:=⟨rfl,by unfold maxLen;omega,fun h=>absurd h (by omega),fun s hs=>by cases hs⟩
theorem RowBs.at {w:World} {a:Option Addr} {n:Nat} {L:List Blk} (h:RowBs w a n L) (k:Nat) (hk:k < n):∃ b off,a=some ⟨b,off,none⟩∧BkIn w b (off+k*6) (L.getD k noBlk):=by
 obtain ⟨b,off,he,hc⟩:=h.2.2.1 (by omega)
 exact ⟨b,off,he,hc k hk⟩
theorem getD_memBk (L:List Blk) (k:Nat) (h:k < L.length):L.getD k noBlk∈L:=by
 rw [List.getD_eq_getElem?_getD,List.getElem?_eq_getElem h];exact List.getElem_mem h
theorem RowBs.bd {w:World} {a:Option Addr} {n:Nat} {L:List Blk} (h:RowBs w a n L) (k:Nat) (hk:k < n):WfB (L.getD k noBlk) :=
 h.2.2.2 _ (getD_memBk L k (by rw [h.1];exact hk))
theorem RowBs.cut {w:World} {a:Option Addr} {n m:Nat} {L:List Blk} (h:RowBs w a n L) (hm:m≤n):RowBs w a m (L.take m):=by
 obtain ⟨h1,h2,h3,h4⟩:=h
 refine ⟨by rw [List.length_take];omega,by omega,fun h0=>?_,fun e he=>h4 e (List.mem_of_mem_take he)⟩
 obtain ⟨b,off,he,hc⟩:=h3 (by omega)
 refine ⟨b,off,he,fun i hi=>?_⟩
 have hg:(L.take m).getD i noBlk=L.getD i noBlk:=by rw [List.getD_eq_getElem?_getD,List.getD_eq_getElem?_getD,List.getElem?_take,if_pos hi]
 rw [hg];exact hc i (by omega)
def SliB (w:World) (x:Value) (L:List Blk):Prop:=∃ a n cap,x = .slice a n cap∧RowBs w a n L∧(a=none→cap=0)∧n≤cap
theorem SliB.below {w w':World} {x:Value} {L:List Blk} (h:SliB w x L) (hb:Below w.heap.size w w'):SliB w' x L:=by
 obtain ⟨a,n,cap,h1,h2,h3⟩:=h;exact ⟨a,n,cap,h1,h2.below hb,h3⟩
structure TreRd (w:World) (v1 v2 v3:Value) (t:Tre):Prop where
 base:SliE w v1 t.base
 blocks:SliB w v2 t.blocks
 bef:SliIt w v3 t.bef
theorem TreRd.below {w w':World} {v1 v2 v3:Value} {t:Tre} (h:TreRd w v1 v2 v3 t) (hb:Below w.heap.size w w'):TreRd w' v1 v2 v3 t :=
 ⟨h.base.below hb,h.blocks.below hb,h.bef.below hb⟩
/-! Trees that a call owns. -/
def bkCs (x:Blk) (t:Value):List Value:=[.int .i64 x.bef,.int .i64 x.hgt,.int .i64 x.view,t,.int .i64 x.root,.int .i64 x.effs]
def bkR (tA:TypeId) (x:Blk) (t:Value):Rw:=⟨t,tA,4,x.acts.length,flatA x.acts⟩
def bksCs (L:List Blk) (ts:List Value):List Value:=(L.zip ts).flatMap fun p=>bkCs p.1 p.2
def bksRs (tA:TypeId) (L:List Blk) (ts:List Value):List Rw:=(L.zip ts).map fun p=>bkR tA p.1 p.2
structure BkWf (x:Blk):Prop where
 wf:WfB x
 acts:WfAs x.acts
 len:x.acts.length≤4000000
structure BksWf (L:List Blk):Prop where
 all:∀ x∈L,BkWf x
 len:L.length≤4000000
theorem BksWf.snoc {L:List Blk} {x:Blk} (h:BksWf L) (hx:BkWf x) (hl:L.length < 4000000):BksWf (L++[x]) :=
 ⟨fun y hy=>by
  rcases List.mem_append.1 hy with h' | h'
  · exact h.all y h'
  · simp at h';subst h';exact hx,by simp;omega⟩
theorem bzip_get {L:List Blk} {ts:List Value} (h:ts.length=L.length) {i:Nat} (hi:i < L.length):(L.zip ts)[i]? = some (L.getD i noBlk,ts.getD i undef):=by
 rw [List.getElem?_eq_getElem (by simp [h,hi]),List.getElem_zip,List.getD_eq_getElem?_getD,List.getD_eq_getElem?_getD,List.getElem?_eq_getElem hi,List.getElem?_eq_getElem (by rw [h];exact hi)];rfl
theorem bksCs_get {L:List Blk} {ts:List Value} (h:ts.length=L.length) {i:Nat} (hi:i < L.length) {j:Nat} (hj:j < 6):(bksCs L ts)[i*6+j]? = (bkCs (L.getD i noBlk) (ts.getD i undef))[j]? :=
 flatMap_get (fun p:Blk × Value=>bkCs p.1 p.2) 6 (fun _=>rfl) (L.zip ts) i j _ (bzip_get h hi) hj
theorem bksRs_mem {tA:TypeId} {L:List Blk} {ts:List Value} (h:ts.length=L.length) {i:Nat} (hi:i < L.length):bkR tA (L.getD i noBlk) (ts.getD i undef)∈bksRs tA L ts :=
 List.mem_map.2 ⟨_,List.mem_of_getElem? (bzip_get h hi),rfl⟩
theorem bksCs_snoc {L:List Blk} {ts:List Value} (h:ts.length=L.length) (x:Blk) (t:Value):bksCs (L++[x]) (ts++[t])=bksCs L ts++bkCs x t:=by
 unfold bksCs;rw [List.zip_append h.symm];simp
theorem bksRs_snoc {tA:TypeId} {L:List Blk} {ts:List Value} (h:ts.length=L.length) (x:Blk) (t:Value):bksRs tA (L++[x]) (ts++[t])=bksRs tA L ts++[bkR tA x t]:=by
 unfold bksRs;rw [List.zip_append h.symm];simp
def bksAll (tB tA:TypeId) (v:Value) (L:List Blk) (ts:List Value):List Rw:=⟨v,tB,6,L.length,bksCs L ts⟩ :: bksRs tA L ts
structure BksOwn (w:World) (B T:Nat) (tB tA:TypeId) (v:Value) (L:List Blk) (ts:List Value):Prop where
 tl:ts.length=L.length
 own:OwnR w B T (bksAll tB tA v L ts)
 wf:BksWf L
theorem BksOwn.below {w w':World} {B T:Nat} {tB tA:TypeId} {v:Value} {L:List Blk} {ts:List Value} (h:BksOwn w B T tB tA v L ts) (hb:Below w.heap.size w w'):BksOwn w' B T tB tA v L ts:=⟨h.tl,h.own.below hb,h.wf⟩
theorem BksOwn.mono {w:World} {B T B' T':Nat} {tB tA:TypeId} {v:Value} {L:List Blk} {ts:List Value} (h:BksOwn w B T tB tA v L ts) (hB:B'≤B) (hT:T≤T'):BksOwn w B' T' tB tA v L ts:=⟨h.tl,h.own.mono hB hT,h.wf⟩
theorem sliB_of_rows {w:World} {B:Nat} {tB tA:TypeId} {v:Value} {L:List Blk} {ts:List Value} (htl:ts.length=L.length) (ho:∀ r∈bksAll tB tA v L ts,w.ownsRow B r.e r.size r.v r.n r.cs) (hw:BksWf L):SliB w v L:=by
 have o4:=ho _ List.mem_cons_self
 have hwf:∀ s∈L,WfB s:=fun s hs=>(hw.all s hs).wf
 have hsl:=hw.len
 rcases slice_of_owns o4 with ⟨h4,hn⟩ | ⟨g,cap,h4,hB,hg,hnc,hcm⟩
 · simp only at h4 hn
   subst h4
   have he:L=[]:=List.eq_nil_of_length_eq_zero hn
   exact ⟨none,0,0,rfl,by rw [he];exact rowBs_empty _ _,fun _=>rfl,Nat.le_refl _⟩
 · simp only at h4 hnc
   subst h4
   refine ⟨_,_,cap,rfl,⟨rfl,by unfold maxLen;omega,fun _=>⟨g,0,rfl,fun i hi=>?_⟩,hwf⟩,fun h=>(by cases h),hnc⟩
   have hc:∀ j,j < 6→w.cell? ⟨g,0+i*6+j,none⟩=(bkCs (L.getD i noBlk) (ts.getD i undef))[j]?:=fun j hj=>by
    rw [Nat.zero_add,← bksCs_get htl hi hj]
    exact World.ownsRow.cellAt (n:=L.length) o4 (i*6+j) (by show i*6+j < L.length*6;omega)
   have hsw:=hw.all _ (getD_memBk L i hi)
   have q:=ho _ (List.mem_cons_of_mem _ (bksRs_mem (tA:=tA) htl hi))
   exact ⟨hc 0 (by omega),hc 1 (by omega),hc 2 (by omega),⟨_,hc 3 (by omega),sliA_of_ownst q hsw.acts hsw.len⟩,hc 4 (by omega),hc 5 (by omega)⟩
theorem BksOwn.rd {w:World} {B T:Nat} {tB tA:TypeId} {v:Value} {L:List Blk} {ts:List Value} (h:BksOwn w B T tB tA v L ts):SliB w v L:=sliB_of_rows h.tl h.own.own h.wf
structure TreT where
 tE:TypeId
 tB:TypeId
 tA:TypeId
 tI:TypeId
def treRs (t:TreT) (v1 v2 v3:Value) (x:Tre) (ts:List Value):List Rw :=
 ⟨v1,t.tE,2,x.base.length,flatE x.base⟩ :: ⟨v3,t.tI,1,x.bef.length,x.bef.map (Value.int .i64)⟩ :: bksAll t.tB t.tA v2 x.blocks ts
structure TreWf (x:Tre):Prop where
 base:WfE x.base
 bef:∀ y∈x.bef,(Lit.int .i64 y).wf=true
 blocks:BksWf x.blocks
 blen:x.base.length≤4000000
 flen:x.bef.length≤4000000
structure TreOwn (w:World) (B T:Nat) (t:TreT) (v1 v2 v3:Value) (x:Tre) (ts:List Value):Prop where
 tl:ts.length=x.blocks.length
 own:OwnR w B T (treRs t v1 v2 v3 x ts)
 wf:TreWf x
theorem TreOwn.below {w w':World} {B T:Nat} {t:TreT} {v1 v2 v3:Value} {x:Tre} {ts:List Value} (h:TreOwn w B T t v1 v2 v3 x ts) (hb:Below w.heap.size w w'):TreOwn w' B T t v1 v2 v3 x ts:=⟨h.tl,h.own.below hb,h.wf⟩
theorem TreOwn.mono {w:World} {B T B' T':Nat} {t:TreT} {v1 v2 v3:Value} {x:Tre} {ts:List Value} (h:TreOwn w B T t v1 v2 v3 x ts) (hB:B'≤B) (hT:T≤T'):TreOwn w B' T' t v1 v2 v3 x ts:=⟨h.tl,h.own.mono hB hT,h.wf⟩
theorem TreOwn.top {w:World} {B T:Nat} {t:TreT} {v1 v2 v3:Value} {x:Tre} {ts:List Value} (h:TreOwn w B T t v1 v2 v3 x ts):TreOwn w B w.heap.size t v1 v2 v3 x ts:=⟨h.tl,h.own.top,h.wf⟩
theorem TreOwn.turn {w w':World} {B T B' T':Nat} {t:TreT} {v1 v2 v3:Value} {x:Tre} {ts:List Value} (h:TreOwn w B T t v1 v2 v3 x ts) (ht:Turn B' T' w w') (hd:T≤B'∨T'≤B∨w.heap.size≤B'):TreOwn w' B T t v1 v2 v3 x ts:=⟨h.tl,h.own.turn ht hd,h.wf⟩
theorem TreOwn.rd {w:World} {B T:Nat} {t:TreT} {v1 v2 v3:Value} {x:Tre} {ts:List Value} (h:TreOwn w B T t v1 v2 v3 x ts):TreRd w v1 v2 v3 x:=by
 obtain ⟨htl,ho,hw⟩:=h
 have o1:=ho.own _ (List.mem_cons_self)
 have o2:=ho.own _ (List.mem_cons_of_mem _ List.mem_cons_self)
 exact ⟨sliE_of_ownst o1 hw.base hw.blen,sliB_of_rows htl (fun r hr=>ho.own r (List.mem_cons_of_mem _ (List.mem_cons_of_mem _ hr))) hw.blocks,sliI_of_ownst (by simpa using o2) hw.bef hw.flen⟩
theorem TreOwn.row3 {w:World} {B T:Nat} {t:TreT} {v1 v2 v3:Value} {x:Tre} {ts:List Value} (h:TreOwn w B T t v1 v2 v3 x ts):w.ownsRow B t.tI 1 v3 x.bef.length (x.bef.map (Value.int .i64)):=h.own.own _ (List.mem_cons_of_mem _ List.mem_cons_self)
structure TrAt (w:World) (Z:Nat) (v1 v2 v3:Value):Prop where
 c0:w.cell? ⟨Z,0,none⟩=some v1
 c1:w.cell? ⟨Z,1,none⟩=some v2
 c2:w.cell? ⟨Z,2,none⟩=some v3
 f0:w.frozen? ⟨Z,0,none⟩=false
 f1:w.frozen? ⟨Z,1,none⟩=false
 f2:w.frozen? ⟨Z,2,none⟩=false
theorem TrAt.lt {w:World} {Z:Nat} {v1 v2 v3:Value} (h:TrAt w Z v1 v2 v3):Z < w.heap.size:=World.block_lt_of_cell? w ⟨Z,0,none⟩ h.c0
theorem TrAt.keep {w w':World} {Z:Nat} {v1 v2 v3:Value} (h:TrAt w Z v1 v2 v3) (hb:w'.heap[Z]? = w.heap[Z]?):TrAt w' Z v1 v2 v3 :=
 ⟨(World.cell?_of_block hb).trans h.c0, (World.cell?_of_block hb).trans h.c1, (World.cell?_of_block hb).trans h.c2,
  (World.frozen?_of_block hb).trans h.f0,(World.frozen?_of_block hb).trans h.f1,(World.frozen?_of_block hb).trans h.f2⟩
theorem TrAt.below {w w':World} {Z:Nat} {v1 v2 v3:Value} (h:TrAt w Z v1 v2 v3) (hb:Below w.heap.size w w'):TrAt w' Z v1 v2 v3:=h.keep (hb.block Z h.lt)
theorem TrAt.grown {w w':World} {Z:Nat} {v1 v2 v3:Value} {row:Option Nat} (h:TrAt w Z v1 v2 v3) (hg:w.grownBy w' row) (hne:some Z≠row):TrAt w' Z v1 v2 v3:=h.keep (hg.block Z h.lt hne)
theorem trAt_new (w:World) (T:TypeId) (v1 v2 v3:Value):TrAt (w.alloc (.cells #[v1,v2,v3] T)) w.heap.size v1 v2 v3:=by constructor <;> simp [go_sem]
theorem TrAt.set0 {w:World} {Z:Nat} {v1 v2 v3:Value} (h:TrAt w Z v1 v2 v3) (x:Value):TrAt (w.setCell ⟨Z,0,none⟩ x) Z x v2 v3:=by
 constructor <;> simp [go_sem,h.c0,h.c1,h.c2,h.f0,h.f1,h.f2]
theorem TrAt.set1 {w:World} {Z:Nat} {v1 v2 v3:Value} (h:TrAt w Z v1 v2 v3) (x:Value):TrAt (w.setCell ⟨Z,1,none⟩ x) Z v1 x v3:=by
 constructor <;> simp [go_sem,h.c0,h.c1,h.c2,h.f0,h.f1,h.f2]
theorem TrAt.set2 {w:World} {Z:Nat} {v1 v2 v3:Value} (h:TrAt w Z v1 v2 v3) (x:Value):TrAt (w.setCell ⟨Z,2,none⟩ x) Z v1 v2 x:=by
 constructor <;> simp [go_sem,h.c0,h.c1,h.c2,h.f0,h.f1,h.f2]
def set3b (w:World) (Z:Nat) (v1 v2 v3:Value):World:=((w.setCell ⟨Z,0,none⟩ v1).setCell ⟨Z,1,none⟩ v2).setCell ⟨Z,2,none⟩ v3
theorem TrAt.set3b {w:World} {Z:Nat} {u1 u2 u3:Value} (h:TrAt w Z u1 u2 u3) (v1 v2 v3:Value):TrAt (set3b w Z v1 v2 v3) Z v1 v2 v3:=((h.set0 v1).set1 v2).set2 v3
theorem set3b_turn (w:World) (Z:Nat) (v1 v2 v3:Value):Turn Z (Z+1) w (set3b w Z v1 v2 v3) :=
 (((Turn.refl Z (Z+1) w).setCell (g:=Z) ⟨Nat.le_refl _,Nat.lt_succ_self _⟩ 0 v1).setCell (g:=Z) ⟨Nat.le_refl _,Nat.lt_succ_self _⟩ 1 v2).setCell (g:=Z) ⟨Nat.le_refl _,Nat.lt_succ_self _⟩ 2 v3
theorem set3b_size (w:World) (Z:Nat) (v1 v2 v3:Value):(set3b w Z v1 v2 v3).heap.size=w.heap.size:=by simp [set3b,World.setCell]
def NewTre (w:World) (t:TreT) (x:Tre) (en:Ending) (w':World):Prop :=
 ∃ v1 v2 v3 ts,en = .returned (.agg #[v1,v2,v3])∧TreOwn w' w.heap.size w'.heap.size t v1 v2 v3 x ts∧Below w.heap.size w w'
def NewTreB (w:World) (t:TreT) (x:Tre) (ok:Bool) (en:Ending) (w':World):Prop :=
 ∃ v1 v2 v3 ts,en = .returned (.tuple #[.agg #[v1,v2,v3],.bool ok])∧TreOwn w' w.heap.size w'.heap.size t v1 v2 v3 x ts∧Below w.heap.size w w'
theorem treWf_no:TreWf noTre:=⟨fun x h=>(by cases h),fun x h=>(by cases h),⟨fun x h=>(by cases h),by simp [noTre]⟩,by simp [noTre],by simp [noTre]⟩
theorem treOwn_no (w:World) (B T:Nat) (t:TreT):TreOwn w B T t (.slice none 0 0) (.slice none 0 0) (.slice none 0 0) noTre []:=by
 refine ⟨rfl,⟨fun r hr=>?_,fun r hr b hb=>?_,?_⟩,treWf_no⟩
 · simp [treRs,bksAll,bksRs,bksCs,noTre] at hr
   rcases hr with rfl | rfl | rfl <;> exact World.ownsRow_nil _ _ _ _
 · simp [treRs,bksAll,bksRs,bksCs,noTre] at hr
   rcases hr with rfl | rfl | rfl <;> simp [blk] at hb
 · simp [treRs,bksAll,bksRs,bksCs,noTre,Off,blk]
end Go.Proofs.YtpnjgmgmakmgeaaGreat
