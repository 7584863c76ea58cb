/-
  What works of layer 6's statements returns: no statement is proved here.
-/
import Derived.Test.YtdinkcaeanehgaaGeoI
namespace Go.Proofs.Ytdinkcaeanehgaa
open Go.ChangeShapes Go.WideShapes Go.ChangeAt Go.RowKit
set_option linter.unusedVariables false

/-- A slot lies in the block b. -/
structure Sat (w : World) (b : Nat) (x y z t : Int) : Prop where
  c0 : w.cell? ⟨b, 0, none⟩ = some (.int .i64 x)
  c1 : w.cell? ⟨b, 1, none⟩ = some (.int .i64 y)
  c2 : w.cell? ⟨b, 2, none⟩ = some (.int .i64 z)
  c3 : w.cell? ⟨b, 3, none⟩ = some (.int .i64 t)
theorem Sat.lt {w : World} {b : Nat} {x y z t : Int} (h : Sat w b x y z t) : b < w.heap.size := World.block_lt_of_cell? w ⟨b, 0, none⟩ h.c0
theorem Sat.later {w w' : World} {b : Nat} {x y z t : Int} (h : Sat w b x y z t) (k : Below w.heap.size w w') : Sat w' b x y z t :=
  ⟨by rw [k.cell (p := ⟨b, 0, none⟩) h.lt]; exact h.c0, by rw [k.cell (p := ⟨b, 1, none⟩) h.lt]; exact h.c1, by rw [k.cell (p := ⟨b, 2, none⟩) h.lt]; exact h.c2, by rw [k.cell (p := ⟨b, 3, none⟩) h.lt]; exact h.c3⟩
theorem Sat.made (w : World) (x y z t : Int) (T : TypeId) : Sat (w.alloc (.cells #[.int .i64 x, .int .i64 y, .int .i64 z, .int .i64 t] T)) w.heap.size x y z t := by
  constructor <;> simp [go_sem]
def Gm.ex : Gm := ⟨2, 1, 4⟩
set_option maxHeartbeats 2000000 in
theorem gworks_any (w : World) : Calls Try.prog 23 #[] w fun e w' => e = .returned (.bool true) ∧ Below w.heap.size w w' := by
  have hI := inode_any Gm.ex 4
  rw [show Gm.ex.sec 4 = 11 by decide, show Gm.ex.slt 4 = 0 by decide, show Gm.ex.grp 4 = 1 by decide, show Gm.ex.idx 4 = 0 by decide, show Gm.ex.ierr 4 = 0 by decide] at hI
  have hT := total_any Gm.ex
  rw [show Gm.ex.total = 16 by decide] at hT
  have hA := Gat.made w Gm.ex
  have bW := below_made w (.cells #[.int .i64 2, .int .i64 1, .int .i64 4] 23)
  go_enter Try.func23, Try.ntmps23
  go_wp2_with fail
  refine (hI _).mono ?_
  rintro e w1 ⟨rfl, b1⟩
  obtain ⟨c0, c1, c2⟩ := (hA.later b1).later (below_made w1 (.cells #[.int .i64 11, .int .i64 0, .int .i64 1, .int .i64 0] 28))
  have bW1 := bnext bW b1 (Nat.le_refl _)
  clear hA bW b1
  go_wp2_with fail
  refine (hT _).mono ?_
  rintro e w2 ⟨rfl, b2⟩
  obtain ⟨d0, d1, d2, d3⟩ := (Sat.made w1 11 0 1 0 28).later b2
  go_wp2
  go_returns
  exact ⟨by simp, bnext (bnext bW1 (below_made _ _) (Nat.le_refl _)) b2 (Nat.le_refl _)⟩
end Go.Proofs.Ytdinkcaeanehgaa
