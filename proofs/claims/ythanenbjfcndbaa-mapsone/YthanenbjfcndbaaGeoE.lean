/-
  What Inodes of layer 6, and the document's Head, Maps and Data, return, for every input: no statement is proved here.
-/
import Derived.Test.YthanenbjfcndbaaGeoD
namespace Go.Proofs.Ythanenbjfcndbaa
open Go.ChangeShapes Go.WideShapes Go.ChangeAt Go.RowKit
set_option linter.unusedVariables false

theorem inG_yes {s : Gm} {k : Int} (h : s.has k) (j : Int) : s.inG k j = s.inG k 0 + j := by unfold Gm.inG; rw [if_pos h, if_pos h]; omega
theorem inG_no {s : Gm} {k : Int} (h : ¬ s.has k) (j : Int) : s.inG k j = 0 := if_neg h
theorem inG_b (s : Gm) (k : Int) : 0 ≤ s.inG k 0 ∧ s.inG k 0 ≤ 2000 := by
  unfold Gm.inG
  by_cases h : s.has k
  · rw [if_pos h]
    have := Gm.prodB h.1 h.2.1 (by have := h.1.2.1; have := h.2.2; omega)
    omega
  · rw [if_neg h]; omega
/-- Inodes' own: the shape is put in the place of what came in. -/
theorem inodes_any (s : Gm) (w : World) :
    Calls Try.prog 48 #[.agg #[.int .i64 s.g, .int .i64 s.i, .int .i64 s.d]] w fun e w' => e = .returned (.int .i64 s.inodes) ∧ Below w.heap.size w w' := by
  obtain ⟨t, ht, hal, hi0, hi1, hp⟩ : ∃ t : Gm, t.g * (t.i * 3) = s.inodes ∧ (∀ w, Calls Try.prog 50 #[.agg #[.int .i64 s.g, .int .i64 s.i, .int .i64 s.d]] w fun e w' => e = .returned (.agg #[.int .i64 t.g, .int .i64 t.i, .int .i64 t.d]) ∧ Below w.heap.size w w') ∧ 0 ≤ t.i ∧ t.i ≤ 8 ∧ (0 ≤ t.g * (t.i * 3) ∧ t.g * (t.i * 3) ≤ 192) := by
    unfold Gm.inodes
    by_cases h : s.ok
    · refine ⟨s, (if_pos h).symm, fun w => allowed_ok s w h, by have := h.2.2.1; omega, h.2.2.2.1, Gm.inoB h⟩
    · exact ⟨⟨0, 0, 0⟩, by rw [if_neg h]; rfl, fun w => allowed_no s w h, by decide, by decide, by decide⟩
  have hA := Gat.made w s
  have hf : ∀ i, (w.alloc (.cells #[.int .i64 s.g, .int .i64 s.i, .int .i64 s.d] 36)).frozen? ⟨w.heap.size, i, none⟩ = false := fun i => by simp [go_sem]
  have bW := below_made w (.cells #[.int .i64 s.g, .int .i64 s.i, .int .i64 s.d] 36)
  rw [← ht]; clear ht
  obtain ⟨p0, p1⟩ := hp
  go_enter Try.func48, Try.ntmps48
  go_wp2_with fail
  refine (hal _).mono ?_
  rintro e w1 ⟨rfl, b1⟩
  obtain ⟨c0, c1, c2⟩ := hA.later b1
  have f0 := frozen_later b1 hA.lt (hf 0)
  have f1 := frozen_later b1 hA.lt (hf 1)
  have f2 := frozen_later b1 hA.lt (hf 2)
  go_wp2_with fail
  have hT : Gat (((w1.setCell ⟨w.heap.size, 0, none⟩ (.int .i64 t.g)).setCell ⟨w.heap.size, 1, none⟩ (.int .i64 t.i)).setCell ⟨w.heap.size, 2, none⟩ (.int .i64 t.d)) w.heap.size t := by
    constructor <;> simp [World.cell?_setCell_same, World.cell?_setCell_other, c0, c1, c2]
  have bT : Below w.heap.size w (((w1.setCell ⟨w.heap.size, 0, none⟩ (.int .i64 t.g)).setCell ⟨w.heap.size, 1, none⟩ (.int .i64 t.i)).setCell ⟨w.heap.size, 2, none⟩ (.int .i64 t.d)) := by
    have := bnext bW b1 (Nat.le_refl _)
    exact ((this.setCell (Nat.le_refl _) _).setCell (Nat.le_refl _) _).setCell (Nat.le_refl _) _
  generalize ((w1.setCell ⟨w.heap.size, 0, none⟩ (.int .i64 t.g)).setCell ⟨w.heap.size, 1, none⟩ (.int .i64 t.i)).setCell ⟨w.heap.size, 2, none⟩ (.int .i64 t.d) = W at *
  clear c0 c1 c2 f0 f1 f2 hA hf
  have hS := hT.held
  have ew : IntKind.i64.wrap (t.g * (t.i * 3)) = t.g * (t.i * 3) := by rw [IntKind.wrap_i64]; omega
  go_region_held3 (fun w' => Below W.heap.size W w' ∧ w'.cell? ⟨w.heap.size, 0, none⟩ = some (.int .i64 t.g) ∧ w'.cell? ⟨w.heap.size, 1, none⟩ = some (.int .i64 t.i) ∧ w'.cell? ⟨w.heap.size, 2, none⟩ = some (.int .i64 t.d))
    (first | assumption | exact hS _ (Below.refl _ _).drew | exact hS _ (bnext (And.left (by assumption)) b2 (Nat.le_refl _)))
    (first
    | (go_at_call 51; refine (groupInodes_ok t _ hi0 hi1).mono ?_; rintro e w2 ⟨rfl, b2⟩))
  go_wp2
  go_returns
  exact ⟨rfl, bnext bT (And.left (by assumption)) (Nat.le_refl _)⟩
end Go.Proofs.Ythanenbjfcndbaa
