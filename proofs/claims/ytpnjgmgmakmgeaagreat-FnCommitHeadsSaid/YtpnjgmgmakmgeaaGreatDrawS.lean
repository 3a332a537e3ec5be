/- Texts of ours that stand together: Pick, DrawStore, DrawStores -/
import Derived.Test.YtpnjgmgmakmgeaaGreatCore
import Derived.Test.YtpnjgmgmakmgeaaGreatSpecS
/- The contract of the reader's pick and odd. -/
namespace Go.Proofs.YtpnjgmgmakmgeaaGreat
open Go.RowKit
theorem rdr_step {w:World} {R:Nat} {a:Option Addr} {len cap:Nat} {z:List Int} {p:Nat} (h:Rdr w R a len cap z p) :
  Rdr (w.setCell ⟨R,1,none⟩ (.int .i64 ((p:Int)+1))) R a len cap z (p+1)∧Upd R w (w.setCell ⟨R,1,none⟩ (.int .i64 ((p:Int)+1))):=by
 obtain ⟨h1,h2,h3,h4,h5,h6,h7,h8,h9,h10⟩:=h
 have hu:=(Upd.refl R w).setCell 1 (.int .i64 ((p:Int)+1))
 refine ⟨⟨?_,?_,?_,h4,h5,h6,h7,h8,fun hl=>?_,h10⟩,hu⟩
 · rw [← h1];simp [go_sem]
 · simp [go_sem,h2]
 · simpa [go_sem] using h3
 · obtain ⟨b,off,he,hc⟩:=h9 hl
   exact ⟨b,off,he,fun i hi=>hu.cell (hc i hi) (Nat.ne_of_lt (h6 hl b off he))⟩
theorem rdr_drewN {w:World} {R:Nat} {a:Option Addr} {len cap:Nat} {z:List Int} {p:Nat} (h:Rdr w R a len cap z p) (n:Nat):Rdr (w.drewN n) R a len cap z p:=h
set_option maxHeartbeats 800000 in
theorem pick_rd (R:Nat) (a:Option Addr) (len cap:Nat) (z:List Int) (p:Nat) (n:Int) (w:World) (h:Rdr w R a len cap z p) (hp:p≤1000000) (hn:n≤1000000) (hn' : -1000000≤n) :
  Calls Tryz.prog 79 #[.pointer (some ⟨R,0,none⟩),.int .i64 n] w (fun e w'=>∃ x:Int,e = .returned (.int .i64 x)∧0≤x∧(1≤n→x < n)∧(n < 1→x=0)∧Rdr w' R a len cap z (p+1)∧Upd R w w'):=by
 have HS:=Lib.hid (rdr_step h)
 have hc0:=HS.out.1.1
 obtain ⟨-,h2,h3,h4,h5,h6,h7⟩:=h
 by_cases hn1:1≤n
 · by_cases hl:0 < len
   · obtain ⟨b,off,rfl,hcc⟩:=HS.out.1.2.2.2.2.2.2.2.2.1 hl
     have hbd:=fun k hk=>h7.bd k hk
     have hbn:decide (n < 1)=false:=by simp;omega
     have hbl:((len:Int) == 0)=false:=by simp;omega
     clear h7 h6 h5
     by_cases hpl:p < len
     · have hcp:=hcc p hpl
       have hb:=hbd p hpl
       clear hcc hbd
       obtain ⟨x,hx⟩:∃ x,x=z.getD p 0:=⟨_,rfl⟩
       rw [← hx] at hcp hb
       clear hx
       go_enter Tryz.func79,Tryz.ntmps79
       go_wp2
       go_ret
       exact ⟨x % n,rfl,Int.emod_nonneg _ (by omega),fun _=>Int.emod_lt_of_pos _ (by omega),by omega,HS.out⟩
     · have hc1:=hcc (p % len) (Nat.mod_lt _ hl)
       have hc2:=hcc ((p*7+3) % len) (Nat.mod_lt _ hl)
       have hb1:=hbd (p % len) (Nat.mod_lt _ hl)
       have hb2:=hbd ((p*7+3) % len) (Nat.mod_lt _ hl)
       have hm1:=Nat.mod_lt p hl
       have hm2:=Nat.mod_lt (p*7+3) hl
       clear hcc hbd
       obtain ⟨x,hx⟩:∃ x,x=z.getD (p % len) 0:=⟨_,rfl⟩
       obtain ⟨y,hy⟩:∃ y,y=z.getD ((p*7+3) % len) 0:=⟨_,rfl⟩
       rw [← hx] at hc1 hb1
       rw [← hy] at hc2 hb2
       clear hx hy
       go_enter Tryz.func79,Tryz.ntmps79
       have hq1:p / len≤p:=Nat.div_le_self _ _
       obtain ⟨q,hq⟩:∃ q:Nat,q=p / len:=⟨_,rfl⟩
       rw [← hq] at hq1
       have HQ:=Lib.hid hq
       clear hq
       go_wp2
       have t1:(p:Int).tmod (len:Int)=((p % len:Nat):Int):=(Int.ofNat_tmod p len).symm
       have t2:((p:Int)*7+3).tmod (len:Int)=(((p*7+3) % len:Nat):Int):=by
        rw [show (p:Int)*7+3=((p*7+3:Nat):Int) by omega];exact (Int.ofNat_tmod _ _).symm
       have t3:(p:Int).tdiv (len:Int)=(q:Int):=by rw [HQ.out];exact (Int.ofNat_tdiv p len).symm
       have v1:IntKind.i64.wrap (x*131)=x*131:=IntWalk.i64_in _ (by omega)
       have v2:IntKind.i64.wrap ((p:Int)*7)=(p:Int)*7:=IntWalk.i64_in _ (by omega)
       have v3:IntKind.i64.wrap ((p:Int)*7+3)=(p:Int)*7+3:=IntWalk.i64_in _ (by omega)
       have v4:IntKind.i64.wrap (y*1117)=y*1117:=IntWalk.i64_in _ (by omega)
       have v5:IntKind.i64.wrap (x*131+y*1117)=x*131+y*1117:=IntWalk.i64_in _ (by omega)
       have v6:IntKind.i64.wrap ((p:Int)*29)=(p:Int)*29:=IntWalk.i64_in _ (by omega)
       have v7:IntKind.i64.wrap (x*131+y*1117+(p:Int)*29)=x*131+y*1117+(p:Int)*29:=IntWalk.i64_in _ (by omega)
       have v8:IntKind.i64.wrap ((q:Int)*53)=(q:Int)*53:=IntWalk.i64_in _ (by omega)
       have v9:IntKind.i64.wrap (x*131+y*1117+(p:Int)*29+(q:Int)*53)=x*131+y*1117+(p:Int)*29+(q:Int)*53:=IntWalk.i64_in _ (by omega)
       have ec:((p:Int)*7+3) % (len:Int)=(((p*7+3) % len:Nat):Int):=by
        rw [show (p:Int)*7+3=((p*7+3:Nat):Int) by omega];exact (Int.natCast_emod _ _).symm
       have g1:0≤((p:Int)*7+3) % (len:Int):=by rw [ec];exact Int.natCast_nonneg _
       have g2:((p:Int)*7+3) % (len:Int) < (len:Int):=by rw [ec];exact Int.ofNat_lt.2 (Nat.mod_lt _ hl)
       have g3:(((p:Int)*7+3) % (len:Int)).toNat=(p*7+3) % len:=by rw [ec];exact Int.toNat_natCast _
       clear ec
       go_quiet (fail)
       clear t1 t2 t3 v1 v2 v3 v4 v5 v6 v7 v8 v9 g1 g2 g3
       obtain ⟨T,hT⟩:∃ T,T=x*131+y*1117+(p:Int)*29+(q:Int)*53:=⟨_,rfl⟩
       rw [← hT]
       have hT1:0≤T:=by omega
       have hT2:T≤1000000000:=by omega
       clear hT
       have hx:=xor_i64_nn T (T / 64) hT1 (by omega) (by omega) (by omega)
       obtain ⟨U,hU⟩:∃ U,bits .xor .i64 T (T / 64)=U:=⟨_,rfl⟩
       rw [hU] at hx
       go_wp2
       go_ret
       exact ⟨U % n,rfl,Int.emod_nonneg _ (by omega),fun _=>Int.emod_lt_of_pos _ (by omega),by omega,rdr_drewN HS.out.1 _,HS.out.2.drewN _⟩
   · have hl0:len=0:=by omega
     have hbn:decide (n < 1)=false:=by simp;omega
     clear h7 h6 h5
     subst hl0
     go_enter Tryz.func79,Tryz.ntmps79
     go_wp2
     go_ret
     exact ⟨0,rfl,by omega,by omega,by omega,HS.out⟩
 · clear h7 h6 h5
   go_enter Tryz.func79,Tryz.ntmps79
   go_wp2
   go_ret
   exact ⟨0,rfl,by omega,by omega,by omega,HS.out⟩
theorem pick_any (R P:Nat) (n:Int) (w:World) (h:Rd w R P) (hP:P≤1000000) (hn:n≤1000000) (hn' : -1000000≤n) :
  Calls Tryz.prog 79 #[.pointer (some ⟨R,0,none⟩),.int .i64 n] w (Picked w R P n):=by
 obtain ⟨a,len,cap,z,p,h1,h2⟩:=h
 refine (pick_rd R a len cap z p n w h1 (by omega) hn hn').mono ?_
 rintro e w' ⟨x,he,hx0,hx1,hx2,hr,hu⟩
 exact ⟨x,he,hx0,hx1,hx2,⟨a,len,cap,z,p+1,hr,by omega⟩,hu⟩
def Pk (w:World) (R P:Nat) (n:Int) (e:Ending) (w':World):Prop :=
 ∃ x:Int,e = .returned (.int .i64 x)∧0≤x∧x < n∧Rd w' R (P+1)∧Upd R w w'
theorem pick_pos (R P:Nat) (n:Int) (w:World) (h:Rd w R P) (hP:P≤1000000) (hn:n≤1000000) (hn':1≤n) :
  Calls Tryz.prog 79 #[.pointer (some ⟨R,0,none⟩),.int .i64 n] w (Pk w R P n) :=
 (pick_any R P n w h hP hn (by omega)).mono fun _ _ ⟨x,he,h0,h1,_,h3,h4⟩=>⟨x,he,h0,h1 hn',h3,h4⟩
def Odd (w:World) (R P:Nat) (e:Ending) (w':World):Prop :=
 ∃ x:Bool,e = .returned (.bool x)∧Rd w' R (P+1)∧Upd R w w'
theorem odd_any (R P:Nat) (n:Int) (w:World) (h:Rd w R P) (hP:P≤1000000) (hn:n≤1000000) (hn':0≤n) :
  Calls Tryz.prog 93 #[.pointer (some ⟨R,0,none⟩),.int .i64 n] w (Odd w R P):=by
 by_cases h0:0 < n
 · go_enter Tryz.func93,Tryz.ntmps93
   go_wp2_with fail
   refine (pick_any R P n _ h hP hn (by omega)).mono ?_
   rintro e w' ⟨x,rfl,hx0,hx1,hx2,hr,hu⟩
   clear hx2
   go_wp2
   go_ret
   exact ⟨_,rfl,hr,hu⟩
 · have hb:decide (0 < n)=false:=by simpa using h0
   go_enter Tryz.func93,Tryz.ntmps93
   go_wp2
   go_ret
   exact ⟨_,rfl,h.mono (by omega),Upd.refl _ _⟩
def Opened (w:World) (e:Ending) (w':World):Prop :=
 ∃ R,e = .returned (.pointer (some ⟨R,0,none⟩))∧w.heap.size≤R∧Rd w' R 0∧Below w.heap.size w w'∧R < w'.heap.size
theorem opened_alloc {w:World} {a:Option Addr} {len cap:Nat} {z:List Int} (T:TypeId) (h:RowB w a len z) (hl:len≤2000) :
  Opened w (.returned (.pointer (some ⟨w.heap.size,0,none⟩))) (w.alloc (.cells #[.slice a len cap,.int .i64 0] T)):=by
 have hb:=(Below.refl w.heap.size w).alloc (Nat.le_refl _) (.cells #[.slice a len cap,.int .i64 0] T)
 refine ⟨w.heap.size,rfl,Nat.le_refl _,⟨a,len,cap,z,0,⟨?_,?_,?_,hl,h.1,?_,h.1,h.2.1,fun h0=>?_,h.2.2.2⟩,Nat.le_refl _⟩,hb,by simp⟩
 · simp [go_sem]
 · simp [go_sem]
 · simp [go_sem]
 · intro h0 b o he
   obtain ⟨b',off,he',hc⟩:=h.2.2.1 h0
   rw [he] at he'
   simp at he'
   have:=World.block_lt_of_cell? w ⟨b',off+0,none⟩ (hc 0 h0)
   simp at this
   omega
 · obtain ⟨b',off,he',hc⟩:=h.2.2.1 h0
   refine ⟨b',off,he',fun i hi=>?_⟩
   have hlt:b' < w.heap.size:=World.block_lt_of_cell? w ⟨b',off+i,none⟩ (hc i hi)
   rw [hb.cell (p:=⟨b',off+i,none⟩) hlt]
   exact hc i hi
theorem open_any (a:Option Addr) (len cap:Nat) (z:List Int) (w:World) (h:RowB w a len z) (hlc:len≤cap) :
  Calls Tryz.prog 66 #[.slice a len cap] w (Opened w):=by
 have HR:=Lib.hid h
 clear h
 by_cases hl:len≤2000
 · have hl':¬ (2000:Int) < (len:Int):=by omega
   go_enter Tryz.func66,Tryz.ntmps66
   go_wp2
   go_ret
   exact opened_alloc _ HR.out hl
 · have hl':(2000:Int) < (len:Int):=by omega
   have hc':2000≤cap:=by omega
   have HR2:=Lib.hid (HR.out.cut (m:=2000) (by omega))
   go_enter Tryz.func66,Tryz.ntmps66
   go_wp2
   go_ret
   exact opened_alloc _ HR2.out (Nat.le_refl _)
set_option linter.unusedVariables false
def DrawI (w:World) (R P c:Nat) (lo hi:Int) (e:Ending) (w':World):Prop :=
 ∃ x:Int,e = .returned (.int .i64 x)∧lo≤x∧x≤hi∧Rd w' R (P+c)∧Upd R w w'
set_option maxHeartbeats 1000000 in
theorem l20Key_any (R P:Nat) (w:World) (h:Rd w R P) (hP:P≤900000) :
  Calls Tryz.prog 159 #[.pointer (some ⟨R,0,none⟩)] w (DrawI w R P 3 0 31):=by
 go_enter Tryz.func159,Tryz.ntmps159
 go_wp2_with fail
 refine (pick_pos R P 5 _ h (by omega) (by omega) (by omega)).mono ?_;rintro e w1 ⟨x1,rfl,hx0,hx1,hr1,hu1⟩
 go_wp2_with fail
 refine (pick_pos R _ 32 _ hr1 (by omega) (by omega) (by omega)).mono ?_;rintro e w2 ⟨x2,rfl,hy0,hy1,hr2,hu2⟩
 go_wp2_with fail
 refine (pick_pos R _ 4 _ (hr2.alloc _) (by omega) (by omega) (by omega)).mono ?_;rintro e w3 ⟨x3,rfl,hz0,hz1,hr3,hu3⟩
 have hRb:=hr2.lt
 have hcell:∃ y,w3.cell? ⟨w2.heap.size,(x3 / 3).toNat,none⟩=some (.int .i64 y)∧0≤y∧y≤31:=by
  rcases (by omega:x3 / 3=0∨x3 / 3=1) with h | h
  · rw [h];exact ⟨_,hu3.cell (by simp [go_sem];rfl) (by omega),by omega,by omega⟩
  · rw [h];exact ⟨_,hu3.cell (by simp [go_sem];rfl) (by omega),by omega,by omega⟩
 obtain ⟨y,hy,hy2,hy3⟩:=hcell
 have hu:=(hu1.trans hu2).trans (((Upd.refl R w2).alloc _).trans hu3)
 have hq0:0≤x3 / 3:=by omega
 have hq1:x3 / 3 < 2:=by omega
 clear hu1 hu2 hu3 hr1 hr2
 go_wp2
 go_ret
 exact ⟨y,rfl,hy2,hy3,hr3,hu⟩
set_option maxHeartbeats 1000000 in
theorem l20Value_any (R P:Nat) (w:World) (h:Rd w R P) (hP:P≤900000) :
  Calls Tryz.prog 160 #[.pointer (some ⟨R,0,none⟩)] w (DrawI w R P 3 0 1000000):=by
 go_enter Tryz.func160,Tryz.ntmps160
 go_wp2_with fail
 refine (pick_pos R P 12 _ h (by omega) (by omega) (by omega)).mono ?_;rintro e w1 ⟨x1,rfl,hx0,hx1,hr1,hu1⟩
 go_wp2_with fail
 refine (pick_pos R _ 256 _ hr1 (by omega) (by omega) (by omega)).mono ?_;rintro e w2 ⟨x2,rfl,hy0,hy1,hr2,hu2⟩
 go_wp2_with fail
 refine (pick_pos R _ 7 _ ((hr2.alloc _).alloc _) (by omega) (by omega) (by omega)).mono ?_;rintro e w3 ⟨x3,rfl,hz0,hz1,hr3,hu3⟩
 have hRb:=hr2.lt
 have hcell:∃ y,w3.cell? ⟨w2.heap.size+1,x3.toNat,none⟩=some (.int .i64 y)∧0≤y∧y < 5:=by
  rcases (by omega:x3=0∨x3=1∨x3=2∨x3=3∨x3=4∨x3=5∨x3=6) with rfl | rfl | rfl | rfl | rfl | rfl | rfl <;> exact ⟨_,hu3.cell (by simp [go_sem];rfl) (by omega),by omega,by omega⟩
 obtain ⟨y,hy,hy2,hy3⟩:=hcell
 have hcell:∃ u,w3.cell? ⟨w2.heap.size,y.toNat,none⟩=some (.int .i64 u)∧0≤u∧u≤1000000:=by
  rcases (by omega:y=0∨y=1∨y=2∨y=3∨y=4) with rfl | rfl | rfl | rfl | rfl <;> exact ⟨_,hu3.cell (by simp [go_sem];rfl) (by omega),by omega,by omega⟩
 obtain ⟨u,hu0,hu4,hu5⟩:=hcell
 have hu:=(hu1.trans hu2).trans ((((Upd.refl R w2).alloc _).alloc _).trans hu3)
 clear hu1 hu2 hu3 hr1 hr2
 go_wp2
 go_ret
 exact ⟨u,rfl,hu4,hu5,hr3,hu⟩
theorem Rd.below {w w':World} {R P:Nat} (h:Rd w R P) (hb:Below w.heap.size w w'):Rd w' R P:=h.grown (row:=none) (Below.grownBy hb none) (fun k hk=>by cases hk)
theorem Upd.ofBelow {w w':World} (R:Nat) (hb:Below w.heap.size w w'):Upd R w w':=Below.grownBy hb (some R)
theorem Own.upd {w w':World} {B R:Nat} {e:TypeId} {size n:Nat} {v:Value} {xs:List Value} (h:Own w B e size v n xs) (hu:Upd R w w') (hR:R < B):Own w' B e size v n xs:=h.grown hu (fun k hk=>by simp at hk;omega)
theorem Upd.ofGrown {w0 w1 w' W:World} {R n:Nat} {e:TypeId} {size:Nat} {v:Value} {xs:List Value} (h:Upd R w0 w1) (hg:w1.grownBy w' v.ownBlock) (ho:Own W w0.heap.size e size v n xs):Upd R w0 w' :=
 ⟨hg.os.trans h.os,hg.tape.trans h.tape,hg.output.trans h.output,Nat.le_trans h.size hg.size,fun k hk hr =>
  (hg.block k (Nat.lt_of_lt_of_le hk h.size) (fun e=>by have:=(ho.1.lt k e.symm).1;omega)).trans (h.block k hk hr)⟩
end Go.Proofs.YtpnjgmgmakmgeaaGreat
