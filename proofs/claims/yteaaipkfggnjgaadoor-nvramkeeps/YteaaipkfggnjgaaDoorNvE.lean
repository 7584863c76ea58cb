/-
  The chapter's example of layer 5, as the law's text has it: no statement is proved here.
-/
import Derived.Test.YteaaipkfggnjgaaDoorNvD
namespace Go.Proofs.YteaaipkfggnjgaaDoor
open Go.ChangeShapes Go.WideShapes Go.ChangeAt Go.RowKit
set_option linter.unusedVariables false

theorem right_put2 (x : WS) : x.put2.right = true := by unfold WS.right WS.put2; simp
theorem says_put2 (x : WS) (h : x.b < 256) : x.put2.says = x.b := by
  unfold WS.says; rw [right_put2, if_pos rfl]; show x.b % 256 = x.b; omega
structure NW (x y z : WS) : Prop where
  x0 : x = ⟨0, 0, 0⟩
  r0 : x.right = false
  s0 : WS.says x = 255
  o0 : PS.fresh.okk 3
  o1 : PS.fresh.turn.okk 3
  c1 : turnErr PS.fresh = 0
  c2 : WS.turn x 0 PS.fresh = y
  mE : markErr y 3 PS.fresh.turn = 0
  mX : y.mark 3 PS.fresh.turn = z
  s2 : z.says = 8
  r2 : z.right = true
  hm : z.says.testBit 3 = true
theorem nw : ∃ x y z, NW x y z := by
  have r0 : WS.right ⟨0, 0, 0⟩ = false := by decide +kernel
  have s0 : WS.says ⟨0, 0, 0⟩ = 255 := by unfold WS.says; rw [r0]; rfl
  have o0 : PS.fresh.okk 6 := by unfold PS.okk PS.fresh; simp
  obtain ⟨c1, c2, c3⟩ := turn_d (p := PS.fresh) (x := ⟨0, 0, 0⟩) (gr := 0) rfl rfl rfl
  have o1 : PS.fresh.turn.okk 3 := turn_ok o0
  obtain ⟨y, hy⟩ : ∃ y, y = ((WS.put1 ⟨0, 0, 0⟩ 0).put0) := ⟨_, rfl⟩
  rw [← hy] at c2
  have s1 : y.put2.says = 0 := by rw [says_put2 y (by rw [hy]; decide)]; rw [hy]; rfl
  obtain ⟨d1, d2, d3⟩ := turn_d (p := PS.fresh.turn) (x := y.put2) (gr := 8) (by rw [c3]; rfl) (by rw [c3]; rfl) (by rw [c3]; rfl)
  have hmk : y.put2.says.testBit 3 = false := by rw [s1]; rfl
  have mE : markErr y.put2 3 PS.fresh.turn = 0 := by unfold markErr; rw [hmk, d1]; rfl
  have mX : y.put2.mark 3 PS.fresh.turn = ((y.put2.put1 8).put0).put2 := by unfold WS.mark; rw [hmk, s1]; exact d2
  obtain ⟨z, hz⟩ : ∃ z, z = ((y.put2.put1 8).put0) := ⟨_, rfl⟩
  rw [← hz] at mX
  have s2 : z.put2.says = 8 := by rw [says_put2 z (by rw [hz]; show 8 < 256; decide)]; rw [hz]; rfl
  exact ⟨_, _, _, rfl, r0, s0, o0.mono (by omega), o1, c1, c2, mE, mX, s2, right_put2 z, by rw [s2]; rfl⟩
theorem nnew_nil (w : World) :
    Calls Tryd.prog 7 #[.pointer none] w fun e w' => e = .returned (.pointer (some ⟨w.heap.size, 0, none⟩)) ∧ Below w.heap.size w w' ∧ Ww w' w.heap.size ⟨0, 0, 0⟩ none ∧ w'.heap.size = w.heap.size + 1 := nnew_any none w
theorem nworks_any (w : World) (ht : Tab w) : Calls Tryd.prog 5 #[] w fun e w' => e = .returned (.bool true) ∧ Below w.heap.size w w' := by
  obtain ⟨x, y, z, N⟩ := nw
  go_enter Tryd.func5, Tryd.ntmps5
  go_wp2_with fail
  refine (nnew_nil _).mono ?_
  rintro e w1 ⟨rfl, b1, h1, z1⟩
  have tl := ht.lt
  obtain ⟨g, hg⟩ : ∃ g, w.heap.size = g := ⟨_, rfl⟩
  rw [hg, ← N.x0] at h1
  rw [hg]
  go_wp2_with fail
  refine (nsays_any g _ none _ h1).mono ?_
  rintro e w2 ⟨rfl, b2⟩
  rw [N.r0, N.s0]
  have k2 := bnext b1 b2 (Nat.le_refl _)
  go_wp2_with fail
  refine (clear_any g _ none PS.fresh _ (h1.later b2) ⟨rfl, rfl⟩ (ht.later k2) N.o0 (by simp) (by simp)).mono ?_
  rintro e w3 ⟨rfl, k3, h3, p3⟩
  rw [N.c1]
  rw [N.c2] at h3
  have ks : Step [g] w w3 := (step_below k2 _).trans k3
  have t3 := ht.step ks (by simp; omega)
  go_wp2_with fail
  refine (mark_any g 3 _ none PS.fresh.turn _ h3 p3 t3 N.o1 (by omega) (by simp) (by simp)).mono ?_
  rintro e w4 ⟨rfl, k4, h4, p4⟩
  rw [N.mE]
  rw [N.mX] at h4
  go_wp2_with fail
  refine (nsays_any g _ none _ h4).mono ?_
  rintro e w5 ⟨rfl, b5⟩
  rw [N.s2, N.r2]
  have ke : Step [g] w w5 := (ks.trans k4).trans (step_below b5 _)
  go_wp2_with (first
    | (go_at_call 18; refine (all_any _).mono ?_; rintro e u ⟨rfl, rfl⟩)
    | (go_at_call 14; refine (marked_any g 3 _ none _ (h4.later b5) (by omega)).mono ?_; rintro e u ⟨rfl, b6⟩; rw [N.hm]))
  go_returns
  exact ⟨rfl, (ke.trans (step_below b6 _)).below (Nat.le_refl _) (by simp; omega)⟩
end Go.Proofs.YteaaipkfggnjgaaDoor
