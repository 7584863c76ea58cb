/-
  What Check, Total, Inodes, Head, Maps and Data of layer 6 return, for every input: no statement is proved here.
-/
import Derived.Test.YtjbgcbokffaemaaGeoA
namespace Go.Proofs.Ytjbgcbokffaemaa
open Go.ChangeShapes Go.WideShapes Go.ChangeAt Go.RowKit
set_option linter.unusedVariables false

theorem dataAt_any (s : Gm) (w : World) :
    Calls Try.prog 55 #[.agg #[.int .i64 s.g, .int .i64 s.i, .int .i64 s.d]] w fun e w' => e = .returned (.int .i64 (wrap64 (2 + s.i))) ∧ Below w.heap.size w w' := by
  obtain ⟨g, i, d⟩ := s
  go_enter Try.func55, Try.ntmps55
  go_wp2
  go_returns
  exact ⟨rfl, by go_grown⟩
theorem dataAt_ok (s : Gm) (w : World) (h : s.ok) :
    Calls Try.prog 55 #[.agg #[.int .i64 s.g, .int .i64 s.i, .int .i64 s.d]] w fun e w' => e = .returned (.int .i64 (2 + s.i)) ∧ Below w.heap.size w w' := by
  obtain ⟨h0, h1, h2, h3, h4, h5⟩ := h
  obtain ⟨g, i, d⟩ := s
  simp only at h0 h1 h2 h3 h4 h5
  go_enter Try.func55, Try.ntmps55
  go_wp2
  go_returns
  exact ⟨rfl, by go_grown⟩
theorem Gat.held {W : World} {b : Nat} {s : Gm} (h : Gat W b s) (w' : World) (k : Below W.heap.size W w') :
    Below W.heap.size W w' ∧ w'.cell? ⟨b, 0, none⟩ = some (.int .i64 s.g) ∧ w'.cell? ⟨b, 1, none⟩ = some (.int .i64 s.i) ∧ w'.cell? ⟨b, 2, none⟩ = some (.int .i64 s.d) :=
  ⟨k, (h.later k).c0, (h.later k).c1, (h.later k).c2⟩
theorem below_made (w : World) (o : Obj) : Below w.heap.size w (w.alloc o) := (Below.refl _ _).alloc (Nat.le_refl _) _
theorem span_ok (s : Gm) (w : World) (h : s.ok) :
    Calls Try.prog 49 #[.agg #[.int .i64 s.g, .int .i64 s.i, .int .i64 s.d]] w fun e w' => e = .returned (.int .i64 s.span) ∧ Below w.heap.size w w' := by
  have hh := h
  obtain ⟨h0, h1, h2, h3, h4, h5⟩ := hh
  unfold Gm.span
  have hA := Gat.made w s
  have bW := below_made w (.cells #[.int .i64 s.g, .int .i64 s.i, .int .i64 s.d] 23)
  go_enter Try.func49, Try.ntmps49
  go_wp2_with fail
  generalize w.alloc (.cells #[.int .i64 s.g, .int .i64 s.i, .int .i64 s.d] 23) = W at *
  have hS := hA.held
  have ew : IntKind.i64.wrap (2 + s.i + s.d) = 2 + s.i + s.d := by rw [IntKind.wrap_i64]; omega
  go_region_held3 (fun w' => Below W.heap.size W w' ∧ w'.cell? ⟨w.heap.size, 0, none⟩ = some (.int .i64 s.g) ∧ w'.cell? ⟨w.heap.size, 1, none⟩ = some (.int .i64 s.i) ∧ w'.cell? ⟨w.heap.size, 2, none⟩ = some (.int .i64 s.d))
    (first | assumption | exact hS _ (Below.refl _ _).drew | exact hS _ (bnext (And.left (by assumption)) b1 (Nat.le_refl _)))
    (first
    | (go_at_call 55; refine (dataAt_ok s _ h).mono ?_; rintro e w1 ⟨rfl, b1⟩))
  go_wp2
  go_returns
  exact ⟨rfl, bnext bW (And.left (by assumption)) (Nat.le_refl _)⟩
theorem start_ok (s : Gm) (k : Int) (w : World) (h : s.ok) (k0 : 0 ≤ k) (k1 : k ≤ 8) :
    Calls Try.prog 36 #[.agg #[.int .i64 s.g, .int .i64 s.i, .int .i64 s.d], .int .i64 k] w fun e w' => e = .returned (.int .i64 (2 + k * s.span)) ∧ Below w.heap.size w w' := by
  have hB := Gm.prodB h k0 k1
  obtain ⟨p0, p1⟩ := hB
  have hS := Gm.spanB h
  obtain ⟨q0, q1⟩ := hS
  go_enter Try.func36, Try.ntmps36
  go_wp2_with fail
  refine (span_ok s _ h).mono ?_
  rintro e w1 ⟨rfl, b1⟩
  go_wp2
  go_returns
  exact ⟨rfl, ((Below.refl _ _).alloc (Nat.le_refl _) _).trans (b1.mono (by simp))⟩
theorem check_any (s : Gm) (w : World) :
    Calls Try.prog 20 #[.agg #[.int .i64 s.g, .int .i64 s.i, .int .i64 s.d]] w fun e w' => e = .returned (.int .i64 s.err) ∧ Below w.heap.size w w' := by
  by_cases h : s.ok
  · have e : s.err = 0 := if_pos h
    rw [e]; clear e
    have hg : ¬ s.g = 0 := by unfold Gm.ok at h; omega
    go_enter Try.func20, Try.ntmps20
    go_wp2_with fail
    refine (allowed_ok s _ h).mono ?_
    rintro e w1 ⟨rfl, b1⟩
    go_wp2
    go_returns
    exact ⟨rfl, bnext (below_made _ _) b1 (Nat.le_refl _)⟩
  · have e : s.err = 2 := if_neg h
    rw [e]; clear e
    go_enter Try.func20, Try.ntmps20
    go_wp2_with fail
    refine (allowed_no s _ h).mono ?_
    rintro e w1 ⟨rfl, b1⟩
    go_wp2
    go_returns
    exact ⟨rfl, bnext (below_made _ _) b1 (Nat.le_refl _)⟩
theorem total_any (s : Gm) (w : World) :
    Calls Try.prog 19 #[.agg #[.int .i64 s.g, .int .i64 s.i, .int .i64 s.d]] w fun e w' => e = .returned (.int .i64 s.total) ∧ Below w.heap.size w w' := by
  have hA := Gat.made w s
  have bW := below_made w (.cells #[.int .i64 s.g, .int .i64 s.i, .int .i64 s.d] 23)
  by_cases h : s.ok
  · have e : s.total = 2 + s.g * s.span := if_pos h
    rw [e]; clear e
    have e2 : s.err = 0 := if_pos h
    have hc := check_any s
    rw [e2] at hc; clear e2
    go_enter Try.func19, Try.ntmps19
    go_wp2_with fail
    refine (hc _).mono ?_
    rintro e w1 ⟨rfl, b1⟩
    obtain ⟨c0, c1, c2⟩ := hA.later b1
    go_wp2_with fail
    refine (start_ok s _ _ h (by unfold Gm.ok at h; omega) (by unfold Gm.ok at h; omega)).mono ?_
    rintro e w2 ⟨rfl, b2⟩
    go_wp2
    go_returns
    exact ⟨rfl, bnext (bnext bW b1 (Nat.le_refl _)) b2 (Nat.le_refl _)⟩
  · have e : s.total = 0 := if_neg h
    rw [e]; clear e
    have e2 : s.err = 2 := if_neg h
    have hc := check_any s
    rw [e2] at hc; clear e2
    go_enter Try.func19, Try.ntmps19
    go_wp2_with fail
    refine (hc _).mono ?_
    rintro e w1 ⟨rfl, b1⟩
    go_wp2
    go_returns
    exact ⟨rfl, bnext bW b1 (Nat.le_refl _)⟩
end Go.Proofs.Ytjbgcbokffaemaa
