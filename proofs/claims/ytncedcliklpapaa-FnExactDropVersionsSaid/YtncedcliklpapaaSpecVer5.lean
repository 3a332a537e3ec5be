/- The contract of the model's PutVersions. -/
import Derived.Test.YtncedcliklpapaaSpecVer4
namespace Go.Proofs.Ytncedcliklpapaa
open Go.RowKit
set_option linter.unusedVariables false
set_option linter.unusedSimpArgs false
/-- New versions, and a truth value. -/
def NewVB (w : World) (e0 : TypeId) (p : List Ver × Bool) (e : Ending) (w' : World) : Prop :=
  ∃ v, e = .returned (.tuple #[v, .bool p.2]) ∧ Own w' w.heap.size e0 3 v p.1.length (flatV p.1) ∧ WfVs p.1 ∧ Below w.heap.size w w'
theorem putVersions_spec (a : Option Addr) (n cap : Nat) (L : List Ver) (by_ : Int) (a2 : Option Addr) (m cap2 : Nat) (E : List Ent) (w : World) (h : RowV w a n L) (h2 : RowE w a2 m E) :
    Calls Try.prog 27 #[.slice a n cap, .int .i64 by_, .slice a2 m cap2] w (NewVB w 28 (putVM L by_ E)) := by
  have HY : Hid (∀ (h1 : versB L = true) (h2 : inB by_ 0 9 = true) (h3 : writesB E = true), putVM L by_ E = (putL L by_ E, true)) := Lib.hid putVM_yes
  have HN : Hid ((versB L && inB by_ 0 9 && writesB E) = false → putVM L by_ E = ([], false)) := Lib.hid putVM_no
  have HLn := Lib.hid h.1
  have HEn := Lib.hid h2.1
  go_enter Try.func27, Try.ntmps27
  go_wp2_with fail
  refine (versionsValid_spec a n cap L _ h).mono ?_; rintro e w1 ⟨rfl, hb1⟩
  have h1b := h.below hb1
  have h2b := h2.below hb1
  have HO : Hid (∀ W, Below w.heap.size w W → Own (W.alloc (.cells #[] 28)) w.heap.size 28 3 (.slice (some ⟨W.heap.size, 0, none⟩) 0 0) 0 (flatV []) ∧ Below w.heap.size w (W.alloc (.cells #[] 28))) := Lib.hid (fun W hb => ⟨own_lit 28 3 #[] 0 hb.size (by simp) rfl, hb.alloc hb.size _⟩)
  clear h h2
  cases e1 : versB L with
  | false =>
    have HF := Lib.hid (HN.out (by rw [e1]; rfl))
    clear HN HY e1
    go_wp2
    go_ret2
    exact ⟨_, by rw [HF.out]; rfl, by rw [HF.out]; exact (HO.out _ hb1).1, by rw [HF.out]; exact fun x hx => (by cases hx), (HO.out _ hb1).2⟩
  | true =>
    go_wp2_with fail
    refine (l1In_spec_hid _ _ _ _).mono ?_; rintro e w' ⟨rfl, rfl⟩
    cases e3 : inB by_ 0 9 with
    | false =>
      have HF := Lib.hid (HN.out (by rw [e1, e3]; rfl))
      clear HN HY e1 e3
      go_wp2
      go_ret2
      exact ⟨_, by rw [HF.out]; rfl, by rw [HF.out]; exact (HO.out _ hb1).1, by rw [HF.out]; exact fun x hx => (by cases hx), (HO.out _ hb1).2⟩
    | true =>
      go_wp2_with fail
      refine (l4Writes_spec a2 m cap2 E _ h2b).mono ?_; rintro e w3 ⟨rfl, hd3⟩
      have hb3 := hb1.trans ((hd3.below _).mono hb1.size)
      have h1c := h1b.below (hd3.below _)
      have h2c := h2b.below (hd3.below _)
      clear h1b h2b hd3 hb1
      cases e4 : writesB E with
      | false =>
        have HF := Lib.hid (HN.out (by rw [e1, e3, e4]; rfl))
        clear HN HY e1 e3 e4
        go_wp2
        go_ret2
        exact ⟨_, by rw [HF.out]; rfl, by rw [HF.out]; exact (HO.out _ hb3).1, by rw [HF.out]; exact fun x hx => (by cases hx), (HO.out _ hb3).2⟩
      | true =>
        have HF := Lib.hid (HY.out e1 e3 e4)
        have hn : n ≤ 100000 := by have := vers_len ((versB_ok L).1 e1); rw [HLn.out] at this; omega
        have hm : m ≤ 100000 := by have := wr_len e4; rw [HEn.out] at this; omega
        have hbw : (Lit.int .i64 by_).wf = true := WalkArith.wf_i64 (by have := inB_true e3; omega)
        clear HN HY e1 e3 e4
        go_wp2_with fail
        refine (l9Put_spec a n cap L by_ a2 m cap2 E _ h1c hn h2c hm hbw).mono ?_; rintro e w4 ⟨v4, rfl, ho4, hw4, hb4⟩
        have HO4 := Lib.hid (ho4.mono hb3.size)
        have hb5 := hb3.trans (hb4.mono hb3.size)
        clear ho4 h1c h2c hb3 hb4
        go_wp2
        go_ret2
        exact ⟨_, by rw [HF.out]; rfl, by rw [HF.out]; exact HO4.out, by rw [HF.out]; exact hw4, hb5⟩
end Go.Proofs.Ytncedcliklpapaa
