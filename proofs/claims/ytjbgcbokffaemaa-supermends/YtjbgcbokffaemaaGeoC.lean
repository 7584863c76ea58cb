/-
  What Inodes, Head, Maps and Data of layer 6, and the document's Total, Inodes, Head, Maps and Data, return, for every input: no statement is proved here.
-/
import Derived.Test.YtjbgcbokffaemaaGeoB
namespace Go.Proofs.Ytjbgcbokffaemaa
open Go.ChangeShapes Go.WideShapes Go.ChangeAt Go.RowKit
set_option linter.unusedVariables false

theorem rtotal_any (s : Gm) (w : World) :
    Calls Try.prog 46 #[.agg #[.int .i64 s.g, .int .i64 s.i, .int .i64 s.d]] w fun e w' => e = .returned (.int .i64 s.total) ∧ Below w.heap.size w w' := by
  have hA := Gat.made w s
  have bW := below_made w (.cells #[.int .i64 s.g, .int .i64 s.i, .int .i64 s.d] 23)
  by_cases h : s.ok
  · have e : s.total = 2 + s.g * (2 + s.i + s.d) := if_pos h
    rw [e]; clear e
    have e2 : s.err = 0 := if_pos h
    have hc := rcheck_any s
    rw [e2] at hc; clear e2
    have p := Gm.prodB h (k := s.g) (by unfold Gm.ok at h; omega) (by unfold Gm.ok at h; omega)
    unfold Gm.span at p
    obtain ⟨p0, p1⟩ := p
    have hh := h
    obtain ⟨h0, h1, h2, h3, h4, h5⟩ := hh
    go_enter Try.func46, Try.ntmps46
    go_wp2_with fail
    refine (hc _).mono ?_
    rintro e w1 ⟨rfl, b1⟩
    obtain ⟨c0, c1, c2⟩ := hA.later b1
    go_wp2
    go_returns
    exact ⟨rfl, bnext bW b1 (Nat.le_refl _)⟩
  · have e : s.total = 0 := if_neg h
    rw [e]; clear e
    have e2 : s.err = 2 := if_neg h
    have hc := rcheck_any s
    rw [e2] at hc; clear e2
    go_enter Try.func46, Try.ntmps46
    go_wp2_with fail
    refine (hc _).mono ?_
    rintro e w1 ⟨rfl, b1⟩
    go_wp2
    go_returns
    exact ⟨rfl, bnext bW b1 (Nat.le_refl _)⟩
/-- The block of a shape that was handed in, and may be written. -/
structure Gown (w : World) (b : Nat) (s : Gm) : Prop where
  at' : Gat w b s
  f0 : w.frozen? ⟨b, 0, none⟩ = false
  f1 : w.frozen? ⟨b, 1, none⟩ = false
  f2 : w.frozen? ⟨b, 2, none⟩ = false
theorem frozen_later {w w' : World} {b i : Nat} (k : Below w.heap.size w w') (hb : b < w.heap.size) (h : w.frozen? ⟨b, i, none⟩ = false) : w'.frozen? ⟨b, i, none⟩ = false := by
  have e := k.block b hb
  unfold World.frozen? at h ⊢
  simp only at h ⊢
  rw [e]; exact h
end Go.Proofs.Ytjbgcbokffaemaa
