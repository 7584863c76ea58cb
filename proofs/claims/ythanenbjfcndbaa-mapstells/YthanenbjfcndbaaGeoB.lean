/-
  What Check, Total, Inodes, Head, Maps and Data of layer 6 return, for every input: no statement is proved here.
-/
import Derived.Test.YthanenbjfcndbaaGeoA
namespace Go.Proofs.Ythanenbjfcndbaa
open Go.ChangeShapes Go.WideShapes Go.ChangeAt Go.RowKit
set_option linter.unusedVariables false

theorem Gat.held {W : World} {b : Nat} {s : Gm} (h : Gat W b s) (w' : World) (k : Below W.heap.size W w') :
    Below W.heap.size W w' ∧ w'.cell? ⟨b, 0, none⟩ = some (.int .i64 s.g) ∧ w'.cell? ⟨b, 1, none⟩ = some (.int .i64 s.i) ∧ w'.cell? ⟨b, 2, none⟩ = some (.int .i64 s.d) :=
  ⟨k, (h.later k).c0, (h.later k).c1, (h.later k).c2⟩
theorem below_made (w : World) (o : Obj) : Below w.heap.size w (w.alloc o) := (Below.refl _ _).alloc (Nat.le_refl _) _
theorem groupInodes_ok (s : Gm) (w : World) (h1 : 0 ≤ s.i) (h2 : s.i ≤ 8) :
    Calls Try.prog 51 #[.agg #[.int .i64 s.g, .int .i64 s.i, .int .i64 s.d]] w fun e w' => e = .returned (.int .i64 (s.i * 3)) ∧ Below w.heap.size w w' := by
  obtain ⟨g, i, d⟩ := s
  simp only at h1 h2
  go_enter Try.func51, Try.ntmps51
  go_wp2
  go_returns
  exact ⟨rfl, by go_grown⟩
theorem check_any (s : Gm) (w : World) :
    Calls Try.prog 40 #[.agg #[.int .i64 s.g, .int .i64 s.i, .int .i64 s.d]] w fun e w' => e = .returned (.int .i64 s.err) ∧ Below w.heap.size w w' := by
  by_cases h : s.ok
  · have e : s.err = 0 := if_pos h
    rw [e]; clear e
    have hg : ¬ s.g = 0 := by unfold Gm.ok at h; omega
    go_enter Try.func40, Try.ntmps40
    go_wp2_with fail
    refine (allowed_ok s _ h).mono ?_
    rintro e w1 ⟨rfl, b1⟩
    go_wp2
    go_returns
    exact ⟨rfl, bnext (below_made _ _) b1 (Nat.le_refl _)⟩
  · have e : s.err = 2 := if_neg h
    rw [e]; clear e
    go_enter Try.func40, Try.ntmps40
    go_wp2_with fail
    refine (allowed_no s _ h).mono ?_
    rintro e w1 ⟨rfl, b1⟩
    go_wp2
    go_returns
    exact ⟨rfl, bnext (below_made _ _) b1 (Nat.le_refl _)⟩
end Go.Proofs.Ythanenbjfcndbaa
