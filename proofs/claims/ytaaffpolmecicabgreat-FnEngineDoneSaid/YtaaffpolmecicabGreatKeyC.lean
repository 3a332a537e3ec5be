/- Texts of ours that stand together: KeyWr, ImplVer -/
import Derived.Test.YtaaffpolmecicabGreatKeyB
import Derived.Test.YtaaffpolmecicabGreatVerA
import Derived.Test.YtaaffpolmecicabGreatKeyA
import Derived.Test.YtaaffpolmecicabGreatTwo
import Derived.Test.YtaaffpolmecicabGreatImplWr
import Derived.Test.YtaaffpolmecicabGreatSpecV
/- The contract of the program's keyVersions.putWrites. -/
namespace Go.Proofs.YtaaffpolmecicabGreat
open Go.RowKit
set_option linter.unusedVariables false
theorem put_fresh {L:List Ver} {b:Int} {W:List Ent} {F:Nat→List Ver} {k kk:Nat} (hW:writesB W=true) (hk:k < W.length) (hF:catK F 32=putN L b W k) (hK:KOk F) (hkk:kk < 32) (hkey:(W.getD k (0,0)).1=(kk:Int)):∀ x∈F kk,x.by_≠b:=by
 intro x hx e
 have hm:x∈putN L b W k:=by rw [← hF];exact (mem_catK 32).2 ⟨kk,hkk,hx⟩
 have hxk:=((hK kk hkk).1 x hx).2
 rcases (mem_putN k).1 hm with ⟨-,h1⟩ | ⟨i,hi,rfl⟩
 · exact h1 e
 · have ha:=((writesB_ok _).1 hW).1
   have:=List.pairwise_iff_getElem.1 ha i k (by omega) (by omega) hi
   have e1:W.getD i (0,0)=W[i]'(by omega):=by rw [List.getD_eq_getElem?_getD,List.getElem?_eq_getElem (by omega:i < W.length)];rfl
   have e2:W.getD k (0,0)=W[k]'(by omega):=by rw [List.getD_eq_getElem?_getD,List.getElem?_eq_getElem (by omega:k < W.length)];rfl
   simp only [e1] at hxk
   rw [e2] at hkey
   omega
def KeysP (B g:Nat) (T:TypeId) (pre post vs:List Value) (V:List Ver) (w:World) (e:Ending) (w':World):Prop :=
 e = .returned (.tuple #[])∧∃ (F:Nat→List Ver) (vs':List Value),KVo w' B g T 73 pre post vs' F∧KOk F∧catK F 32=V∧Frm (TouchV g vs) w w'∧∀ j b,j < 32→(vs'.getD j undef).ownBlock=some b→(∃ i,i < 32∧(vs.getD i undef).ownBlock=some b)∨w.heap.size≤b
set_option maxRecDepth 100000 in
set_option maxHeartbeats 8000000 in
theorem putWrites_o (g B o:Nat) (T:TypeId) (pre post vs:List Value) (F:Nat→List Ver) (L:List Ver) (by_:Int) (a2:Option Addr) (m cap2:Nat) (E:List Ent) (w:World) (h:KVo w B g T 73 pre post vs F) (hpo:pre.length=o) (hK:KOk F) (hF:catK F 32=dropL L by_) (h2:RowE w a2 m E) (h4:inB by_ 0 9=true) (h5:writesB E=true) (hBw:B≤w.heap.size)
  (hx:∀ bb oo,0 < m→a2=some ⟨bb,oo,none⟩→¬ TouchV g vs bb) :
  Calls Tryz.prog 78 #[.pointer (some ⟨g,o,none⟩),.int .i64 by_,.slice a2 m cap2] w (KeysP B g T pre post vs (putL L by_ E) w):=by
 have HPO:=Lib.hid hpo;clear hpo
 have H4:=Lib.hid h4;have H5:=Lib.hid h5
 have HEL:=Lib.hid h2.1
 have H2:=Lib.hid h2
 have hm:=h2.2.1
 unfold maxLen at hm
 have HX:=Lib.hid hx
 have HK:=Lib.hid hK
 have HF0:=Lib.hid hF
 clear h4 h5 h2 hx hK hF
 go_enter Tryz.func78,Tryz.ntmps78
 go_wp2
 go_loopw [10] (fun i wr=>∃ (k:Nat) (F:Nat→List Ver) (vs':List Value),k≤m∧i = .int .i64 k∧KVo wr B g T 73 pre post vs' F∧Hid (KOk F)∧Hid (catK F 32=putN L by_ E k)∧Frm (TouchV g vs) w wr∧Hid (∀ j b,j < 32→(vs'.getD j undef).ownBlock=some b→(∃ i,i < 32∧(vs.getD i undef).ownBlock=some b)∨w.heap.size≤b)) (fun i _=>m - (intOf i).toNat)
 case atStart=>exact ⟨0,F,vs,Nat.zero_le _,rfl,h,HK,HF0,Frm.refl _ _,Lib.hid (fun j b hj hb=>.inl ⟨j,hj,hb⟩)⟩
 case round =>
  clear h
  obtain ⟨k,F,vs',hk,rfl,hKV,HKF,HCF,hB,HNW⟩:=hrel
  by_cases hlt:k < m
  · obtain ⟨b,off,rfl,hcc⟩:=H2.out.2.2.1 (by omega)
    obtain ⟨c1,c2⟩:=hcc k hlt
    have hbs:b < w.heap.size:=World.block_lt_of_cell? w ⟨b,off+k*2,none⟩ c1
    have hbl:=hB.block b hbs (HX.out b off (by omega) rfl)
    have hc1:=(World.cell?_of_block (a:=⟨b,off+k*2,none⟩) hbl).trans c1
    have hc2:=(World.cell?_of_block (a:=⟨b,off+k*2+1,none⟩) hbl).trans c2
    have hwr:=wrE_mem H5.out k (by rw [HEL.out];exact hlt)
    have HFR:=Lib.hid (fun kk hkk hkey=>put_fresh (L:=L) (b:=by_) (kk:=kk) H5.out (show k < E.length by rw [HEL.out];exact hlt) HCF.out HKF.out hkk hkey)
    have HPN:Hid (putN L by_ E (k+1)=insV ⟨(E.getD k (0,0)).1,by_,(E.getD k (0,0)).2⟩ (putN L by_ E k)):=Lib.hid rfl
    obtain ⟨p,hp⟩:∃ p,p=(E.getD k (0,0)).1:=⟨_,rfl⟩
    obtain ⟨q,hq⟩:∃ q,q=(E.getD k (0,0)).2:=⟨_,rfl⟩
    rw [← hp] at hc1 hwr HFR HPN
    rw [← hq] at hc2 hwr HPN
    obtain ⟨kk,hkp⟩:∃ kk:Nat,p=(kk:Int):=⟨p.toNat,by omega⟩
    have hkk:kk < 32:=by omega
    have HFK:=Lib.hid (HFR.out kk hkk hkp)
    have HVB:Hid (verB ⟨p,by_,q⟩=true):=Lib.hid ((verB_iff _).2 ⟨hwr.1,inB_true H4.out,hwr.2⟩)
    have HKP:=Lib.hid hkp
    have hbe:=(Below.refl wr.heap.size wr).alloc (Nat.le_refl _) (.cells #[.int .i64 p,.int .i64 q] 43)
    have hkv2:=hKV.below hbe
    have HSZ:=Lib.hid hB.size
    have HBe:Hid (Frm (TouchV g vs) w (wr.alloc (.cells #[.int .i64 p,.int .i64 q] 43))):=Lib.hid (hB.alloc _)
    have hBw2:B≤(wr.alloc (.cells #[.int .i64 p,.int .i64 q] 43)).heap.size:=by have:=hB.size;have:=hbe.size;omega
    clear c1 c2 hcc hp hq hkp hwr HFR hKV hB hbe hbl
    go_wp2_with (first | (go_at_call 144;refine (put_o g B o kk T pre post vs' F ⟨p,by_,q⟩ _ hkv2 HPO.out HKF.out hBw2 hkk HKP.out).mono ?_;rintro e w5 ⟨rfl,vs5,hk5,hb5,hn5⟩))
    have HB5:Hid (Frm (TouchV g vs) w w5):=Lib.hid (HBe.out.trans hb5 fun i hi hq=>by
     rcases hq with rfl | ⟨j,hj,hb⟩
     · exact .inl rfl
     · rcases HNW.out j i hj hb with h | h
       · exact .inr h
       · omega)
    have HN5:Hid (∀ j b,j < 32→(vs5.getD j undef).ownBlock=some b→(∃ i,i < 32∧(vs.getD i undef).ownBlock=some b)∨w.heap.size≤b):=Lib.hid (fun j b hj hb=>by
     rcases hn5 j b hj hb with ⟨i,hi,h⟩ | h
     · exact HNW.out i b hi h
     · right;have:=HSZ.out;simp at h;omega)
    clear hb5 hn5 HBe HNW
    go_roundw
    case rel=>exact ⟨k+1,_,vs5,by omega,by go_num,hk5,Lib.hid (kok_insK HKF.out hkk HVB.out HKP.out HFK.out),Lib.hid (by rw [catK_insK HKF.out hkk HVB.out HKP.out HFK.out,HCF.out,HPN.out]),HB5.out,HN5⟩
    case measure=>simp [intOf];omega
  · obtain rfl:k=m:=by omega
    have HFIN:Hid (catK F 32=putL L by_ E):=Lib.hid (by rw [HCF.out,← HEL.out];rfl)
    go_wp2
    refine bodyPost_ret (v:=.tuple #[]) ?_ rfl ⟨rfl,F,vs',hKV,HKF.out,HFIN.out,hB,HNW.out⟩
    simp [results,Tryz.results78]
def KeysPW (B g:Nat) (V:List Ver) (w:World) (e:Ending) (w':World):Prop :=
 e = .returned (.tuple #[])∧∃ F:Nat→List Ver,KV w' B g 95 73 F∧KOk F∧catK F 32=V∧Below B w w'
theorem putWrites_impl (g B:Nat) (F:Nat→List Ver) (L:List Ver) (by_:Int) (a2:Option Addr) (m cap2:Nat) (E:List Ent) (w:World) (h:KV w B g 95 73 F) (hK:KOk F) (hF:catK F 32=dropL L by_) (h2:RowE w a2 m E) (h4:inB by_ 0 9=true) (h5:writesB E=true) (hBg:B≤g)
  (hx:∀ bb oo,0 < m→a2=some ⟨bb,oo,none⟩→bb < B) :
  Calls Tryz.prog 78 #[.pointer (some ⟨g,0,none⟩),.int .i64 by_,.slice a2 m cap2] w (KeysPW B g (putL L by_ E) w):=by
 obtain ⟨vs,h⟩:=h.o
 have hgl:=h.lt
 have hT:∀ k,TouchV g vs k→B≤k:=fun k hq=>by
  rcases hq with rfl | ⟨i,hi,hb⟩
  · exact hBg
  · exact (h.kvs.lt hi hb).1
 refine (putWrites_o g B 0 95 [] [] vs F L by_ a2 m cap2 E w h rfl hK hF h2 h4 h5 (by omega) (fun bb oo h0 he hq=>by have:=hx bb oo h0 he;have:=hT bb hq;omega)).mono ?_
 rintro e w' ⟨rfl,F',vs',hk,hkf,hcf,hf,-⟩
 exact ⟨rfl,F',hk.kv,hkf,hcf,hf.below (by omega) hT⟩
end Go.Proofs.YtaaffpolmecicabGreat
/- The contracts of the program's DropVersions and PutVersions. -/
namespace Go.Proofs.YtaaffpolmecicabGreat
open Go.RowKit
set_option linter.unusedVariables false
end Go.Proofs.YtaaffpolmecicabGreat
