/- Texts of ours that stand together: ConvBk, ConvTr, ConvTr3 -/
import Derived.Test.YtpnjgmgmakmgeaaGreatTrM
import Derived.Test.YtpnjgmgmakmgeaaGreatActs
import Derived.StillTailTactics
import Derived.Test.YtpnjgmgmakmgeaaGreatConv
import Derived.Deep.Cut
import Derived.Lib.AppendZeros






/- The contracts of the laws' own helpers over blocks: szBlock,toBlock,eqBlock,markBlock,heldBlock. -/
namespace Go.Proofs.YtpnjgmgmakmgeaaGreat
open Go.RowKit
set_option linter.unusedVariables false
def sumBk:List Blk→Nat
 | []=>0
 | s :: r=>s.acts.length+sumBk r
theorem sumBk_append (l m:List Blk):sumBk (l++m)=sumBk l+sumBk m:=by
 induction l with
 | nil=>simp [sumBk]
 | cons a r ih=>simp only [List.cons_append,sumBk,ih];omega
theorem sumBk_next (L:List Blk) (k:Nat) (h:k < L.length):sumBk (L.take (k+1))=sumBk (L.take k)+(L.getD k noBlk).acts.length:=by
 rw [List.take_succ_eq_append_getElem h,sumBk_append,List.getD_eq_getElem?_getD,List.getElem?_eq_getElem h];simp [sumBk]
theorem sumBk_take (L:List Blk) (k:Nat):sumBk (L.take k)≤sumBk L:=by
 have h:=sumBk_append (L.take k) (L.drop k)
 rw [List.take_append_drop] at h;omega
theorem sumBk_len (L:List Blk) (k:Nat) (h:k < L.length):(L.getD k noBlk).acts.length≤sumBk L:=by
 have:=sumBk_next L k h;have:=sumBk_take L (k+1);omega
def wtBks (L:List Blk):Nat:=L.length+sumBk L
def wtTre (t:Tre):Nat:=t.base.length+wtBks t.blocks+t.bef.length
theorem ownR_single {w:World} {B:Nat} {r:Rw} (h:w.ownsRow B r.e r.size r.v r.n r.cs):OwnR w B w.heap.size [r] :=
 (OwnR.nil w B w.heap.size).cons r h (fun b hb=>by rw [owns_blk h] at hb;exact (h.lt b hb).2) (fun x hx=>by cases hx)
theorem bksWf_rd {w:World} {a:Option Addr} {n:Nat} {L:List Blk} (h:RowBs w a n L) (hn:wtBks L≤1048576):BksWf L:=by
 unfold wtBks at hn
 refine ⟨fun s hs=>?_,by omega⟩
 obtain ⟨i,hi,rfl⟩:=List.getElem_of_mem hs
 have hg:L.getD i noBlk=L[i]:=by rw [List.getD_eq_getElem?_getD,List.getElem?_eq_getElem hi];rfl
 have hi4:i < n:=by rw [← h.1];exact hi
 obtain ⟨b,off,-,hc⟩:=h.at i hi4
 obtain ⟨-,-,-,⟨x,-,hx⟩,-,-⟩:=hc
 have hw:=sumBk_len L i hi
 rw [hg] at hx hw
 obtain ⟨_,_,_,-,rx,-,-⟩:=hx
 exact ⟨h.2.2.2 _ hs,rx.2.2.2,by omega⟩
def tTre:TreT:=⟨142,37,113,3⟩
theorem results_tre {fn:Func} {p:Tmp} (h:fn.results=#[.cell p 27]) (tmps:Array Value) {F:World} {Z:Nat} (hp:tmps.getD p undef = .pointer (some ⟨Z,0,none⟩)) {v1 v2 v3:Value} (hc:TrAt F Z v1 v2 v3):(results fn tmps).run Tryz.prog F = .ok (.agg #[v1,v2,v3]) F:=by
 have hp':tmps[p]?.getD undef = .pointer (some ⟨Z,0,none⟩):=by simpa using hp
 obtain ⟨c0,c1,c2,-⟩:=hc
 simp [results,h,hp',asAddr,go_sem,c0,c1,c2]
theorem results_treB {fn:Func} {p q:Tmp} (h:fn.results=#[.cell p 27,.tmp q]) (tmps:Array Value) {F:World} {Z:Nat} (hp:tmps.getD p undef = .pointer (some ⟨Z,0,none⟩)) {v1 v2 v3:Value} (hc:TrAt F Z v1 v2 v3) (x:Value) (hq:tmps.getD q undef=x):(results fn tmps).run Tryz.prog F = .ok (.tuple #[.agg #[v1,v2,v3],x]) F:=by
 have hp':tmps[p]?.getD undef = .pointer (some ⟨Z,0,none⟩):=by simpa using hp
 have hq':tmps[q]?.getD undef=x:=by simpa using hq
 obtain ⟨c0,c1,c2,-⟩:=hc
 simp [results,h,hp',hq',asAddr,go_sem,c0,c1,c2]
structure Tt (w W:World) (v1 v2 v3 u1 u2 u3:Value) (R:List Rw):Prop where
 inn:TrAt W w.heap.size v1 v2 v3
 ans:TrAt W (w.heap.size+1) (.slice none 0 0) (.slice none 0 0) (.slice none 0 0)
 cpy:TrAt W (w.heap.size+1+1) u1 u2 u3
 own:OwnR W (w.heap.size+3) W.heap.size R
 below:Below w.heap.size w W
 size:w.heap.size+3≤W.heap.size
theorem Tt.add {w W W':World} {v1 v2 v3 u1 u2 u3:Value} {R R2:List Rw} (h:Tt w W v1 v2 v3 u1 u2 u3 R) (hb:Below W.heap.size W W') (h2:OwnR W' W.heap.size W'.heap.size R2):Tt w W' v1 v2 v3 u1 u2 u3 (R++R2) :=
 ⟨h.inn.below hb,h.ans.below hb,h.cpy.below hb,(h.own.below hb).append h2 (Nat.le_refl _) h.size hb.size,h.below.trans (hb.mono h.below.size),Nat.le_trans h.size hb.size⟩
theorem Tt.put {w W:World} {v1 v2 v3 u1 u2 u3 x1 x2 x3:Value} {R:List Rw} (h:Tt w W v1 v2 v3 u1 u2 u3 R) (i:Nat) (x:Value) (hc:TrAt (W.setCell ⟨w.heap.size+1+1,i,none⟩ x) (w.heap.size+1+1) x1 x2 x3):Tt w (W.setCell ⟨w.heap.size+1+1,i,none⟩ x) v1 v2 v3 x1 x2 x3 R:=by
 have hk:∀ b,b≠w.heap.size+1+1→(W.setCell ⟨w.heap.size+1+1,i,none⟩ x).heap[b]? = W.heap[b]?:=fun b hb=>Below.heap_setCell _ _ _ _ (by simpa using hb)
 refine ⟨h.inn.keep (hk _ (by omega)),h.ans.keep (hk _ (by omega)),hc,?_,h.below.setCell (by simp;omega) x,by simpa [World.setCell] using h.size⟩
 have:=h.own.keep (w':=W.setCell ⟨w.heap.size+1+1,i,none⟩ x) fun r hr b hb=>hk b (by have:=(h.own.ge hr hb).1;omega)
 exact this.mono (Nat.le_refl _) (by simp [World.setCell])
theorem treWf_rd {w:World} {v1 v2 v3:Value} {t:Tre} (h:TreRd w v1 v2 v3 t) (hn:wtTre t≤1048576):TreWf t:=by
 obtain ⟨⟨a1,n1,c1,-,r1,-,-⟩,⟨a2,n2,c2,-,r2,-,-⟩,a3,n3,c3,-,r3,-,-⟩:=h
 unfold wtTre at hn
 exact ⟨r1.2.2.2,r3.2.2.2,bksWf_rd r2 (by omega),by omega,by omega⟩
end Go.Proofs.YtpnjgmgmakmgeaaGreat
