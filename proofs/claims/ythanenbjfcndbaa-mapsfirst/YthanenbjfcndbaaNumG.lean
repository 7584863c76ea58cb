/-
  What the numbers' functions of layer 1 and of its reference return, each for every input: no statement is proved here.
-/
import Derived.Test.YthanenbjfcndbaaNumE
namespace Go.Proofs.Ythanenbjfcndbaa
open Go.ChangeShapes Go.WideShapes Go.ChangeAt Go.RowKit
set_option linter.unusedVariables false

theorem works2 (w : World) (g : Nat) (hg : w.heap.size = g) : Calls Try.prog 32 #[.slice (some ⟨g, 0, none⟩) 2 2, .int .i64 9, .bool true] (w.alloc (.cells #[.int .u8 0, .int .u8 0] 5))
    fun e w' => ∃ a c, e = .returned (.tuple #[.slice a 2 c, .int .i64 0]) ∧ Bs w' a 2 c [0, 2] ∧ Below (g + 1) (w.alloc (.cells #[.int .u8 0, .int .u8 0] 5)) w' := by
  subst hg
  refine (with_ok _ 2 2 [0, 0] 9 true _ (bs_made w 5 [0, 0] (by decide) (by decide)) (by decide) (by decide) (by decide)).mono ?_
  rintro e w' ⟨v, rfl, hown, hbel⟩
  obtain ⟨a, c, rfl, hb⟩ := own_bs (l := [0, 2]) hown (by decide)
  exact ⟨a, c, rfl, hb, by simpa using hbel⟩
theorem works3 (w : World) (g : Nat) (hg : w.heap.size = g) : Calls Try.prog 37 #[.slice (some ⟨g, 0, none⟩) 2 2, .int .i64 0, .int .i64 16] (w.alloc (.cells #[.int .u8 255, .int .u8 1] 5))
    fun e w' => e = .returned (.int .i64 9) ∧ ∃ k, w' = (w.alloc (.cells #[.int .u8 255, .int .u8 1] 5)).drewN k := by
  subst hg; exact first_any _ 2 2 [255, 1] 0 16 _ (bs_made w 5 [255, 1] (by decide) (by decide)) (by decide) (by decide) (by decide) (by decide) (by decide)
end Go.Proofs.Ythanenbjfcndbaa
