/-
  That the fixed whole of layer 1 works: no statement is proved here.
-/
import Derived.Test.YtccooigblgnndaaNumG
namespace Go.Proofs.Ytccooigblgnndaa
open Go.ChangeShapes Go.WideShapes Go.ChangeAt Go.RowKit
set_option linter.unusedVariables false

theorem works_any (w : World) : Calls Try.prog 19 #[] w fun e w' => e = .returned (.bool true) ∧ Below w.heap.size w w' := by
  go_enter Try.func19, Try.ntmps19
  go_wp2_with (first
    | (go_at_call 9; refine (works1 _ _ (by simp)).mono ?_; rintro e w' ⟨rfl, rfl⟩)
    | (go_at_call 22; refine (works2 _ _ (by simp)).mono ?_; rintro e w2 ⟨a, c, rfl, hbs, hbel⟩)
    | (go_at_call 16; refine (works4 _ _ _ _ (by simp) hbs).mono ?_; rintro e w' ⟨rfl, rfl⟩)
    | (go_at_call 26; refine (works3 _ _ (by simp)).mono ?_; rintro e w' ⟨rfl, k, rfl⟩))
  go_returns
  have hb2 : Below w.heap.size w w2 := bstep (by go_grown) hbel (by omega)
  have hz := hb2.size
  exact ⟨rfl, bdrewN (by go_grown) k⟩
end Go.Proofs.Ytccooigblgnndaa
