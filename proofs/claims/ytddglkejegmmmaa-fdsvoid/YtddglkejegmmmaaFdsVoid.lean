/-
  The statement FdsVoid, proved: for every number the law returns true; no condition.
-/
import Derived.Test.YtddglkejegmmmaaFdI
namespace Go.Proofs.Ytddglkejegmmmaa.fdsVoid
open Go.ChangeShapes Go.WideShapes Go.ChangeAt Go.RowKit
set_option linter.unusedVariables false
set_option linter.unusedSimpArgs false

set_option maxHeartbeats 1000000 in
theorem walk (n : Int) (W : World) (wf : (Lit.int .i64 n).wf = true) :
    Calls Try.prog 5 #[.int .i64 n] W fun e w' => e = .returned (.bool true) ∧ Below W.heap.size W w' := by
  have hW := fworks_any W
  have tk : Hid True := trivial
  go_enter Try.func5, Try.ntmps5
  go_wp2_with (first
    | (go_at_call 24; refine hW.mono ?_; rintro e w1 ⟨rfl, b1⟩; clear hW)
    | (go_at_call 9; refine (fopen_nil _ _ _).mono ?_; rintro e u ⟨rfl, rfl⟩)
    | (go_at_call 16; refine (fget_nil _ _).mono ?_; rintro e w2 ⟨rfl, b2⟩)
    | (clear tk; refine at_newFl (by rfl) (by rfl) ?_; intro g3 w3 z1 z2 r3 b3)
    | (refine at_putFl (by rfl) _ _ (by rfl) g3 (by rfl) Fl.zero (by rfl) _ r3 rfl ?_; intro w4 r4 s4; clear r3)
    | (go_at_call 11; refine (fclose_nil _ _).mono ?_; rintro e w5 ⟨rfl, b5⟩)
    | (refine at_newFl (by rfl) (by rfl) ?_; intro g6 w6 z3 z4 r6 b6)
    | (refine at_putFl (by rfl) _ _ (by rfl) g6 (by rfl) Fl.zero (by rfl) _ r6 rfl ?_; intro w7 r7 s7)
    | (go_at_call 13; refine (fseek_nil _ _ _).mono ?_; rintro e u ⟨rfl, rfl⟩)
    | (go_at_call 18; refine (fcount_nil _ _).mono ?_; rintro e u ⟨rfl, rfl⟩)
    | (go_at_call 21; refine (fused_nil _).mono ?_; rintro e u ⟨rfl, rfl⟩)
    | (go_at_call 23; refine (ffull_nil _).mono ?_; rintro e u ⟨rfl, rfl⟩)
    | (go_at_call 15; refine (fcopy_nil _).mono ?_; rintro e u ⟨rfl, rfl⟩))
  go_returns
  refine ⟨by simp, ?_⟩
  have h2 := b2.size
  have h5 := b5.size
  have h1 := b1.size
  have h4 := s4.size
  have S4 := (Stp.of_below (bnext (bnext b1 b2 (Nat.le_refl _)) b3 (Nat.le_refl _)) (fun _ => False)).next s4 (fun x e => .inr (by omega))
  have S6 := S4.next (Stp.of_below (bnext b5 b6 (Nat.le_refl _)) (fun _ => False)) (fun x e => e.elim)
  have S7 := S6.next s7 (fun x e => .inr (by omega))
  first
    | exact S7.below (Nat.le_refl _) (fun _ h => h.elim)
    | exact (S7.drew).below (Nat.le_refl _) (fun _ h => h.elim)

theorem own : ownKnob Try.prog.godebug = none := by kernel_rfl
theorem laidOut : laidOutB Try.prog = true := by kernel_rfl
set_option maxRecDepth 100000 in
theorem lifted (os : Os) (started : os.Started) (H : Type) (enc : TypeId × Value → H) :
    ReturnsInHanded {} Try.checked os 5 .any (Rows.fdsVoidSpec.pre6 enc Try.prog Try.f5 Rows.fdsVoidRow.domain false) (Rows.fdsVoidSpec.post enc Try.prog Try.f5 false true false false) := by
  refine returnsInHanded_of_change (C := Try.checked) own started (by kernel_rfl) Try.func5
    (ChangeSpec.witness6 (enc := enc) (C := Try.checked) false ⟨#[], #[.int .i64 0], []⟩ 8 (by kernel_rfl) (by kernel_rfl) (by kernel_rfl) (by kernel_rfl)) ?_
  intro W base args ds gs before hval0 hW hcnd _
  have hval : ∀ (j : Nat) t v, Try.f5.params[j]? = some t → args[j]? = some v → Value.okWide Try.prog W .any base t v := hval0
  have hW' := hW
  obtain ⟨p, q, hA0, hV, rfl, hfz, hnd⟩ := hW
  have hA : DataW.TrodAll enc Try.prog W 0 (fun _ => true) true Try.f5.params.toList args.toList ds p := hA0
  rw [Try.params5] at hA hval
  obtain ⟨v0, vs0, d0, ds0, p0, q0, hargs, rfl, rfl, h0, r0⟩ := trodAll_cons hA
  obtain ⟨rfl, rfl, rfl⟩ := trodAll_nil r0
  obtain rfl : args = #[v0] := by cases args; simp_all
  obtain ⟨rfl, rfl⟩ := trodVars_none hV
  obtain ⟨a0, rfl, rfl, rfl, w0⟩ := open_int Try.underlying3 (hval 0 3 v0 rfl rfl) h0
  clear hA0 hval0
  refine (walk a0 W w0).mono fun e W' ⟨he, bel⟩ => ?_
  subst he
  exact ⟨_, rfl, _, _, _, [], _, [], hW', trodAll_mk1 (shut_bool Try.underlying4 _), (trodAll_cons_mk (shut_int Try.underlying3 w0) trodAll_mk0), rfl, bel.frame _, fun h => by cases h⟩
theorem over : Rows.fdsVoidRow.holds Try.pinned (OpenSpec.ofChange Rows.fdsVoidSpec) :=
  OpenClaim.holds_of_wide 5 Try.f5 rfl rfl rfl rfl rfl rfl rfl ⟨rfl, rfl, rfl, rfl, rfl⟩ rfl rfl rfl rfl rfl (by kernel_rfl) Try.func5 (by kernel_rfl)
    (of_decide_eq_true (by kernel_rfl)) (by unfold Func.isWrapper; first | (rw [if_pos (by decide +kernel)]; kernel_rfl) | (rw [if_neg (by decide +kernel)]; exact ⟨rfl, rfl⟩))
    (fun os started H enc _ => lifted os started H enc)
end Go.Proofs.Ytddglkejegmmmaa.fdsVoid
namespace Go.Proofs.Ytddglkejegmmmaa
/-- The statement. -/
theorem fdsVoid_holds : Rows.FdsVoidSaid := fdsVoid.over
#print axioms fdsVoid_holds
end Go.Proofs.Ytddglkejegmmmaa
