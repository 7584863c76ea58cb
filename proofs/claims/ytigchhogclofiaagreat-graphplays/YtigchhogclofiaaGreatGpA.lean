/-
  What the statement's sameIs returns: no statement is proved here.
-/
import Derived.Test.YtigchhogclofiaaGreatGcA
namespace Go.Proofs.YtigchhogclofiaaGreat
open Go.ChangeShapes Go.WideShapes Go.ChangeAt Go.RowKit
set_option linter.unusedVariables false
set_option linter.unusedSimpArgs false

theorem conv_s {w : World} {s : Sv} {l : List Int} (h : BsS w s l) : (convert 27 9 (.slice s.a s.n s.c)).run Tryz.prog w = .ok (.string (strOfNums l)) w :=
  Bs.convert (P := Tryz.prog) h 27 5 9 (by kernel_rfl) (by kernel_rfl) (by kernel_rfl)
set_option maxRecDepth 100000 in
set_option maxHeartbeats 2000000 in
theorem sameIs_any {w : World} {E E' : Nat → Prop} {p : Pt} {d n d' n' : Sv} (h : PtM w E p d n) (h' : PtM w E' p d' n') (hn : p.needs.length ≤ 100000) :
    Calls Tryz.prog 46 #[.agg (p.cs d n).toArray, .agg (p.cs d' n').toArray] w fun e w' => e = .returned (.bool true) ∧ Below w.heap.size w w' := by
  have t1 : True := trivial
  have t2 : True := trivial
  have t3 : True := trivial
  go_enter Tryz.func46, Tryz.ntmps46
  go_wp2_with (first
    | (clear t1; refine at_boxP (by rfl) _ (by rfl) p d n (by rfl) ?_; intro g1 w1 a1 a2 r1 b1)
    | (clear t2; refine at_boxP (by rfl) _ (by rfl) p d' n' (by rfl) ?_; intro g2 w2 a3 a4 r2 b2
       have r12 := r1.later b2
       have B2 := bnext b1 b2 (Nat.le_refl _)
       have m1 := h.later B2
       have m2 := h'.later B2
       have c1 := conv_s m1.bs
       have c2 := conv_s m2.bs
       obtain ⟨k0, k1, k2, k3, k4, k5, k6, k7, k8⟩ := Pt.cells r12
       obtain ⟨q0, q1, q2, q3, q4, q5, q6, q7, q8⟩ := Pt.cells r2
       have hS := same_any m1.is m2.is hn)
    | (go_at_call 23; clear t3; refine hS.mono ?_; rintro e w3 ⟨rfl, b3⟩
       have B3 := bnext B2 b3 (Nat.le_refl _)
       obtain ⟨_, _, _, _, _, _, x6, x7, x8⟩ := Pt.cells (r12.later b3)
       obtain ⟨_, _, _, _, _, _, y6, y7, y8⟩ := Pt.cells (r2.later b3)))
  go_returns
  exact ⟨by simp, B3⟩
end Go.Proofs.YtigchhogclofiaaGreat
