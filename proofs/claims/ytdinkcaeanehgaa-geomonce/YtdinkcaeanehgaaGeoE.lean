/-
  What Inodes of layer 6, and the document's Head, Maps and Data, return, for every input: no statement is proved here.
-/
import Derived.Test.YtdinkcaeanehgaaGeoD
namespace Go.Proofs.Ytdinkcaeanehgaa
open Go.ChangeShapes Go.WideShapes Go.ChangeAt Go.RowKit
set_option linter.unusedVariables false

theorem rbegin_any (s : Gm) (k : Int) (w : World) :
    Calls Try.prog 26 #[.agg #[.int .i64 s.g, .int .i64 s.i, .int .i64 s.d], .int .i64 k] w fun e w' => e = .returned (.tuple #[.int .i64 (s.inG k 0), .int .i64 (s.herr k)]) ∧ Below w.heap.size w w' := by
  have hA := Gat.made w s
  have bW := below_made w (.cells #[.int .i64 s.g, .int .i64 s.i, .int .i64 s.d] 23)
  have hc := rcheck_any s
  unfold Gm.inG Gm.herr
  by_cases ho : s.ok
  · have e2 : s.err = 0 := if_pos ho
    rw [e2] at hc; clear e2
    by_cases h0 : 0 ≤ k
    · by_cases h1 : k < s.g
      · rw [if_pos ⟨ho, h0, h1⟩, if_pos ⟨ho, h0, h1⟩]
        have hB := Gm.prodB ho h0 (by have := ho.2.1; omega)
        unfold Gm.span at hB ⊢
        obtain ⟨p0, p1⟩ := hB
        obtain ⟨q0, q1, q2, q3, q4, q5⟩ := ho
        go_enter Try.func26, Try.ntmps26
        go_wp2_with fail
        refine (hc _).mono ?_
        rintro e w1 ⟨rfl, b1⟩
        obtain ⟨c0, c1, c2⟩ := hA.later b1
        go_wp2
        go_returns
        exact ⟨ret_pair (by simp) rfl, bnext bW b1 (Nat.le_refl _)⟩
      · rw [if_neg (fun x => h1 x.2.2), if_neg (fun x => h1 x.2.2)]
        go_enter Try.func26, Try.ntmps26
        go_wp2_with fail
        refine (hc _).mono ?_
        rintro e w1 ⟨rfl, b1⟩
        obtain ⟨c0, c1, c2⟩ := hA.later b1
        go_wp2
        go_returns
        exact ⟨rfl, bnext bW b1 (Nat.le_refl _)⟩
    · rw [if_neg (fun x => h0 x.2.1), if_neg (fun x => h0 x.2.1)]
      go_enter Try.func26, Try.ntmps26
      go_wp2_with fail
      refine (hc _).mono ?_
      rintro e w1 ⟨rfl, b1⟩
      go_wp2
      go_returns
      exact ⟨rfl, bnext bW b1 (Nat.le_refl _)⟩
  · rw [if_neg (fun x => ho x.1), if_neg (fun x => ho x.1)]
    have e2 : s.err = 2 := if_neg ho
    rw [e2] at hc; clear e2
    go_enter Try.func26, Try.ntmps26
    go_wp2_with fail
    refine (hc _).mono ?_
    rintro e w1 ⟨rfl, b1⟩
    go_wp2
    go_returns
    exact ⟨rfl, bnext bW b1 (Nat.le_refl _)⟩
theorem rhead_any (s : Gm) (k : Int) (w : World) :
    Calls Try.prog 8 #[.agg #[.int .i64 s.g, .int .i64 s.i, .int .i64 s.d], .int .i64 k] w fun e w' => e = .returned (.tuple #[.int .i64 (s.inG k 0), .int .i64 (s.herr k)]) ∧ Below w.heap.size w w' := by
  have bW := below_made w (.cells #[.int .i64 s.g, .int .i64 s.i, .int .i64 s.d] 23)
  go_enter Try.func8, Try.ntmps8
  go_wp2_with fail
  refine (rbegin_any s k _).mono ?_
  rintro e w1 ⟨rfl, b1⟩
  go_wp2
  go_returns
  exact ⟨rfl, bnext bW b1 (Nat.le_refl _)⟩
theorem inG_yes {s : Gm} {k : Int} (h : s.has k) (j : Int) : s.inG k j = s.inG k 0 + j := by unfold Gm.inG; rw [if_pos h, if_pos h]; omega
theorem inG_no {s : Gm} {k : Int} (h : ¬ s.has k) (j : Int) : s.inG k j = 0 := if_neg h
theorem inG_b (s : Gm) (k : Int) : 0 ≤ s.inG k 0 ∧ s.inG k 0 ≤ 2000 := by
  unfold Gm.inG
  by_cases h : s.has k
  · rw [if_pos h]
    have := Gm.prodB h.1 h.2.1 (by have := h.1.2.1; have := h.2.2; omega)
    omega
  · rw [if_neg h]; omega
theorem rmaps_any (s : Gm) (k : Int) (w : World) :
    Calls Try.prog 10 #[.agg #[.int .i64 s.g, .int .i64 s.i, .int .i64 s.d], .int .i64 k] w fun e w' => e = .returned (.tuple #[.int .i64 (s.inG k 1), .int .i64 (s.herr k)]) ∧ Below w.heap.size w w' := by
  have bW := below_made w (.cells #[.int .i64 s.g, .int .i64 s.i, .int .i64 s.d] 23)
  have hb := rbegin_any s k
  have hB := inG_b s k
  obtain ⟨p0, p1⟩ := hB
  by_cases h : s.has k
  · rw [inG_yes h 1]
    have e : s.herr k = 0 := if_pos h
    rw [e] at hb ⊢; clear e
    go_enter Try.func10, Try.ntmps10
    go_wp2_with fail
    refine (hb _).mono ?_
    rintro e w1 ⟨rfl, b1⟩
    go_wp2
    go_returns
    exact ⟨rfl, bnext bW b1 (Nat.le_refl _)⟩
  · rw [inG_no h 1]
    have e : s.herr k = 2 := if_neg h
    rw [e] at hb ⊢; clear e
    go_enter Try.func10, Try.ntmps10
    go_wp2_with fail
    refine (hb _).mono ?_
    rintro e w1 ⟨rfl, b1⟩
    go_wp2
    go_returns
    exact ⟨rfl, bnext bW b1 (Nat.le_refl _)⟩
theorem rdata_any (s : Gm) (k j : Int) (w : World) :
    Calls Try.prog 14 #[.agg #[.int .i64 s.g, .int .i64 s.i, .int .i64 s.d], .int .i64 k, .int .i64 j] w fun e w' => e = .returned (.tuple #[.int .i64 (s.data k j), .int .i64 (s.derr k j)]) ∧ Below w.heap.size w w' := by
  have hA := Gat.made w s
  have bW := below_made w (.cells #[.int .i64 s.g, .int .i64 s.i, .int .i64 s.d] 23)
  have hb := rbegin_any s k
  have hB := inG_b s k
  obtain ⟨p0, p1⟩ := hB
  by_cases h : s.has k
  · have e : s.herr k = 0 := if_pos h
    rw [e] at hb; clear e
    by_cases h0 : 0 ≤ j
    · by_cases h1 : j < s.d
      · have hj : s.hasD k j := ⟨h, h0, h1⟩
        have e1 : s.data k j = s.inG k 0 + 2 + s.i + j := by unfold Gm.data Gm.inG; rw [if_pos hj, if_pos h]; omega
        have e2 : s.derr k j = 0 := if_pos hj
        rw [e1, e2]; clear e1 e2
        obtain ⟨q0, q1, q2, q3, q4, q5⟩ := h.1
        go_enter Try.func14, Try.ntmps14
        go_wp2_with fail
        refine (hb _).mono ?_
        rintro e w1 ⟨rfl, b1⟩
        obtain ⟨c0, c1, c2⟩ := hA.later b1
        go_wp2
        go_returns
        exact ⟨rfl, bnext bW b1 (Nat.le_refl _)⟩
      · have e1 : s.data k j = 0 := if_neg (fun x => h1 x.2.2)
        have e2 : s.derr k j = 2 := if_neg (fun x => h1 x.2.2)
        rw [e1, e2]; clear e1 e2
        go_enter Try.func14, Try.ntmps14
        go_wp2_with fail
        refine (hb _).mono ?_
        rintro e w1 ⟨rfl, b1⟩
        obtain ⟨c0, c1, c2⟩ := hA.later b1
        go_wp2
        go_returns
        exact ⟨rfl, bnext bW b1 (Nat.le_refl _)⟩
    · have e1 : s.data k j = 0 := if_neg (fun x => h0 x.2.1)
      have e2 : s.derr k j = 2 := if_neg (fun x => h0 x.2.1)
      rw [e1, e2]; clear e1 e2
      go_enter Try.func14, Try.ntmps14
      go_wp2_with fail
      refine (hb _).mono ?_
      rintro e w1 ⟨rfl, b1⟩
      go_wp2
      go_returns
      exact ⟨rfl, bnext bW b1 (Nat.le_refl _)⟩
  · have e : s.herr k = 2 := if_neg h
    rw [e] at hb; clear e
    have e1 : s.data k j = 0 := if_neg (fun x => h x.1)
    have e2 : s.derr k j = 2 := if_neg (fun x => h x.1)
    rw [e1, e2]; clear e1 e2
    go_enter Try.func14, Try.ntmps14
    go_wp2_with fail
    refine (hb _).mono ?_
    rintro e w1 ⟨rfl, b1⟩
    go_wp2
    go_returns
    exact ⟨rfl, bnext bW b1 (Nat.le_refl _)⟩
/-- Inodes' own: the shape is put in the place of what came in. -/
theorem inodes_any (s : Gm) (w : World) :
    Calls Try.prog 21 #[.agg #[.int .i64 s.g, .int .i64 s.i, .int .i64 s.d]] w fun e w' => e = .returned (.int .i64 s.inodes) ∧ Below w.heap.size w w' := by
  obtain ⟨t, ht, hal, hi0, hi1, hp⟩ : ∃ t : Gm, t.g * (t.i * 3) = s.inodes ∧ (∀ w, Calls Try.prog 33 #[.agg #[.int .i64 s.g, .int .i64 s.i, .int .i64 s.d]] w fun e w' => e = .returned (.agg #[.int .i64 t.g, .int .i64 t.i, .int .i64 t.d]) ∧ Below w.heap.size w w') ∧ 0 ≤ t.i ∧ t.i ≤ 8 ∧ (0 ≤ t.g * (t.i * 3) ∧ t.g * (t.i * 3) ≤ 192) := by
    unfold Gm.inodes
    by_cases h : s.ok
    · refine ⟨s, (if_pos h).symm, fun w => allowed_ok s w h, by have := h.2.2.1; omega, h.2.2.2.1, Gm.inoB h⟩
    · exact ⟨⟨0, 0, 0⟩, by rw [if_neg h]; rfl, fun w => allowed_no s w h, by decide, by decide, by decide⟩
  have hA := Gat.made w s
  have hf : ∀ i, (w.alloc (.cells #[.int .i64 s.g, .int .i64 s.i, .int .i64 s.d] 23)).frozen? ⟨w.heap.size, i, none⟩ = false := fun i => by simp [go_sem]
  have bW := below_made w (.cells #[.int .i64 s.g, .int .i64 s.i, .int .i64 s.d] 23)
  rw [← ht]; clear ht
  obtain ⟨p0, p1⟩ := hp
  go_enter Try.func21, Try.ntmps21
  go_wp2_with fail
  refine (hal _).mono ?_
  rintro e w1 ⟨rfl, b1⟩
  obtain ⟨c0, c1, c2⟩ := hA.later b1
  have f0 := frozen_later b1 hA.lt (hf 0)
  have f1 := frozen_later b1 hA.lt (hf 1)
  have f2 := frozen_later b1 hA.lt (hf 2)
  go_wp2_with fail
  have hT : Gat (((w1.setCell ⟨w.heap.size, 0, none⟩ (.int .i64 t.g)).setCell ⟨w.heap.size, 1, none⟩ (.int .i64 t.i)).setCell ⟨w.heap.size, 2, none⟩ (.int .i64 t.d)) w.heap.size t := by
    constructor <;> simp [World.cell?_setCell_same, World.cell?_setCell_other, c0, c1, c2]
  have bT : Below w.heap.size w (((w1.setCell ⟨w.heap.size, 0, none⟩ (.int .i64 t.g)).setCell ⟨w.heap.size, 1, none⟩ (.int .i64 t.i)).setCell ⟨w.heap.size, 2, none⟩ (.int .i64 t.d)) := by
    have := bnext bW b1 (Nat.le_refl _)
    exact ((this.setCell (Nat.le_refl _) _).setCell (Nat.le_refl _) _).setCell (Nat.le_refl _) _
  generalize ((w1.setCell ⟨w.heap.size, 0, none⟩ (.int .i64 t.g)).setCell ⟨w.heap.size, 1, none⟩ (.int .i64 t.i)).setCell ⟨w.heap.size, 2, none⟩ (.int .i64 t.d) = W at *
  clear c0 c1 c2 f0 f1 f2 hA hf
  have hS := hT.held
  have ew : IntKind.i64.wrap (t.g * (t.i * 3)) = t.g * (t.i * 3) := by rw [IntKind.wrap_i64]; omega
  go_region_held3 (fun w' => Below W.heap.size W w' ∧ w'.cell? ⟨w.heap.size, 0, none⟩ = some (.int .i64 t.g) ∧ w'.cell? ⟨w.heap.size, 1, none⟩ = some (.int .i64 t.i) ∧ w'.cell? ⟨w.heap.size, 2, none⟩ = some (.int .i64 t.d))
    (first | assumption | exact hS _ (Below.refl _ _).drew | exact hS _ (bnext (And.left (by assumption)) b2 (Nat.le_refl _)))
    (first
    | (go_at_call 27; refine (groupInodes_ok t _ hi0 hi1).mono ?_; rintro e w2 ⟨rfl, b2⟩))
  go_wp2
  go_returns
  exact ⟨rfl, bnext bT (And.left (by assumption)) (Nat.le_refl _)⟩
end Go.Proofs.Ytdinkcaeanehgaa
