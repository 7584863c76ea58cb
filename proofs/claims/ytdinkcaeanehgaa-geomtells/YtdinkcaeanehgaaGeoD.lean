/-
  What Head, Maps and Data of layer 6, and the document's, return, for every input: no statement is proved here.
-/
import Derived.Test.YtdinkcaeanehgaaGeoC
namespace Go.Proofs.Ytdinkcaeanehgaa
open Go.ChangeShapes Go.WideShapes Go.ChangeAt Go.RowKit
set_option linter.unusedVariables false

abbrev Gm.has (s : Gm) (k : Int) : Prop := s.ok ∧ 0 ≤ k ∧ k < s.g
def Gm.herr (s : Gm) (k : Int) : Int := if s.has k then 0 else 2
def Gm.inG (s : Gm) (k j : Int) : Int := if s.has k then 2 + k * s.span + j else 0
abbrev Gm.hasD (s : Gm) (k j : Int) : Prop := s.has k ∧ 0 ≤ j ∧ j < s.d
def Gm.derr (s : Gm) (k j : Int) : Int := if s.hasD k j then 0 else 2
def Gm.data (s : Gm) (k j : Int) : Int := if s.hasD k j then 2 + k * s.span + (2 + s.i + j) else 0
theorem ret_pair {a b c d : Value} (h : a = c) (k : b = d) : Ending.returned (.tuple #[a, b]) = .returned (.tuple #[c, d]) := by rw [h, k]

theorem run_field (a b c : Value) (w : World) : Sem.run Try.prog (Instr.field 23 (.agg #[a, b, c]) 0) w = .ok a w := by
  simp [Instr.field, asAgg, go_sem]
theorem inGroup_ok (s : Gm) (k j : Int) (w : World) (h : s.has k) (h1 : 0 ≤ j) (h2 : j ≤ 200) :
    Calls Try.prog 25 #[.agg #[.int .i64 s.g, .int .i64 s.i, .int .i64 s.d], .int .i64 k, .int .i64 j] w fun e w' => e = .returned (.tuple #[.int .i64 (2 + k * s.span + j), .int .i64 0]) ∧ Below w.heap.size w w' := by
  have hA := Gat.made w s
  have bW := below_made w (.cells #[.int .i64 s.g, .int .i64 s.i, .int .i64 s.d] 23)
  have ho := h.1
  have k0 := h.2.1
  have k1 := h.2.2
  have k2 : k ≤ 8 := by have := h.1.2.1; omega
  have hB := Gm.prodB ho k0 k2
  obtain ⟨p0, p1⟩ := hB
  have hg := gamong_any k s.g
  rw [decide_eq_true ⟨k0, k1⟩] at hg
  go_enter Try.func25, Try.ntmps25
  have hf := run_field
  go_wp2_with fail
  refine (allowed_ok s _ ho).mono ?_
  rintro e w1 ⟨rfl, b1⟩
  obtain ⟨c0, c1, c2⟩ := hA.later b1
  go_wp2_with fail
  refine (hg _).mono ?_
  rintro e u ⟨rfl, rfl⟩
  go_wp2_with fail
  refine (start_ok s _ _ ho k0 k2).mono ?_
  rintro e w2 ⟨rfl, b2⟩
  go_wp2
  go_returns
  exact ⟨rfl, bnext (bnext bW b1 (Nat.le_refl _)) b2 (Nat.le_refl _)⟩
theorem inGroup_no (s : Gm) (k j : Int) (w : World) (h : ¬ s.has k) :
    Calls Try.prog 25 #[.agg #[.int .i64 s.g, .int .i64 s.i, .int .i64 s.d], .int .i64 k, .int .i64 j] w fun e w' => e = .returned (.tuple #[.int .i64 0, .int .i64 2]) ∧ Below w.heap.size w w' := by
  have hA := Gat.made w s
  have bW := below_made w (.cells #[.int .i64 s.g, .int .i64 s.i, .int .i64 s.d] 23)
  by_cases ho : s.ok
  · have hg := gamong_any k s.g
    rw [decide_eq_false (fun x => h ⟨ho, x⟩)] at hg
    go_enter Try.func25, Try.ntmps25
    have hf := run_field
    go_wp2_with fail
    refine (allowed_ok s _ ho).mono ?_
    rintro e w1 ⟨rfl, b1⟩
    go_wp2_with fail
    refine (hg _).mono ?_
    rintro e u ⟨rfl, rfl⟩
    go_wp2
    go_returns
    exact ⟨rfl, bnext bW b1 (Nat.le_refl _)⟩
  · have hg := gamong_any k 0
    rw [decide_eq_false (by omega)] at hg
    go_enter Try.func25, Try.ntmps25
    have hf := run_field
    go_wp2_with fail
    refine (allowed_no s _ ho).mono ?_
    rintro e w1 ⟨rfl, b1⟩
    go_wp2_with fail
    refine (hg _).mono ?_
    rintro e u ⟨rfl, rfl⟩
    go_wp2
    go_returns
    exact ⟨rfl, bnext bW b1 (Nat.le_refl _)⟩
theorem inGroup_any (s : Gm) (k j : Int) (w : World) (h1 : 0 ≤ j) (h2 : j ≤ 200) :
    Calls Try.prog 25 #[.agg #[.int .i64 s.g, .int .i64 s.i, .int .i64 s.d], .int .i64 k, .int .i64 j] w fun e w' => e = .returned (.tuple #[.int .i64 (s.inG k j), .int .i64 (s.herr k)]) ∧ Below w.heap.size w w' := by
  unfold Gm.herr Gm.inG
  by_cases h : s.has k
  · rw [if_pos h, if_pos h]; exact inGroup_ok s k j w h h1 h2
  · rw [if_neg h, if_neg h]; exact inGroup_no s k j w h
theorem head_any (s : Gm) (k : Int) (w : World) :
    Calls Try.prog 7 #[.agg #[.int .i64 s.g, .int .i64 s.i, .int .i64 s.d], .int .i64 k] w fun e w' => e = .returned (.tuple #[.int .i64 (s.inG k 0), .int .i64 (s.herr k)]) ∧ Below w.heap.size w w' := by
  have bW := below_made w (.cells #[.int .i64 s.g, .int .i64 s.i, .int .i64 s.d] 23)
  go_enter Try.func7, Try.ntmps7
  go_wp2_with fail
  refine (inGroup_any s k 0 _ (by omega) (by omega)).mono ?_
  rintro e w1 ⟨rfl, b1⟩
  go_wp2
  go_returns
  exact ⟨rfl, bnext bW b1 (Nat.le_refl _)⟩
theorem maps_any (s : Gm) (k : Int) (w : World) :
    Calls Try.prog 9 #[.agg #[.int .i64 s.g, .int .i64 s.i, .int .i64 s.d], .int .i64 k] w fun e w' => e = .returned (.tuple #[.int .i64 (s.inG k 1), .int .i64 (s.herr k)]) ∧ Below w.heap.size w w' := by
  have bW := below_made w (.cells #[.int .i64 s.g, .int .i64 s.i, .int .i64 s.d] 23)
  go_enter Try.func9, Try.ntmps9
  go_wp2_with fail
  refine (inGroup_any s k 1 _ (by omega) (by omega)).mono ?_
  rintro e w1 ⟨rfl, b1⟩
  go_wp2
  go_returns
  exact ⟨rfl, bnext bW b1 (Nat.le_refl _)⟩
theorem data_any (s : Gm) (k j : Int) (w : World) :
    Calls Try.prog 13 #[.agg #[.int .i64 s.g, .int .i64 s.i, .int .i64 s.d], .int .i64 k, .int .i64 j] w fun e w' => e = .returned (.tuple #[.int .i64 (s.data k j), .int .i64 (s.derr k j)]) ∧ Below w.heap.size w w' := by
  have hA := Gat.made w s
  have bW := below_made w (.cells #[.int .i64 s.g, .int .i64 s.i, .int .i64 s.d] 23)
  have hg := gamong_any j s.d
  by_cases hj : 0 ≤ j ∧ j < s.d
  · rw [decide_eq_true hj] at hg
    obtain ⟨V, hV, hD⟩ : ∃ V, Hid (V = wrap64 (wrap64 (2 + s.i) + j)) ∧ ∀ w, Calls Try.prog 25 #[.agg #[.int .i64 s.g, .int .i64 s.i, .int .i64 s.d], .int .i64 k, .int .i64 V] w fun e w' => e = .returned (.tuple #[.int .i64 (s.data k j), .int .i64 (s.derr k j)]) ∧ Below w.heap.size w w' := by
      refine ⟨_, (rfl : _ = _), fun w => ?_⟩
      unfold Gm.data Gm.derr
      by_cases hk : s.has k
      · have hh := hk.1
        unfold Gm.ok at hh
        have e : wrap64 (wrap64 (2 + s.i) + j) = 2 + s.i + j := by unfold wrap64; omega
        rw [if_pos ⟨hk, hj⟩, if_pos ⟨hk, hj⟩, e]
        exact inGroup_ok s k _ w hk (by omega) (by omega)
      · rw [if_neg (fun x => hk x.1), if_neg (fun x => hk x.1)]
        exact inGroup_no s k _ w hk
    go_enter Try.func13, Try.ntmps13
    go_wp2_with fail
    refine (hg _).mono ?_
    rintro e u ⟨rfl, rfl⟩
    go_wp2_with fail
    generalize w.alloc (.cells #[.int .i64 s.g, .int .i64 s.i, .int .i64 s.d] 23) = W at *
    have hS := hA.held
    have hV' : IntKind.i64.wrap (wrap64 (2 + s.i) + j) = V := by rw [IntKind.wrap_i64, hV.out]; simp only [wrap64]
    go_region_held3 (fun w' => Below W.heap.size W w' ∧ w'.cell? ⟨w.heap.size, 0, none⟩ = some (.int .i64 s.g) ∧ w'.cell? ⟨w.heap.size, 1, none⟩ = some (.int .i64 s.i) ∧ w'.cell? ⟨w.heap.size, 2, none⟩ = some (.int .i64 s.d))
      (first | assumption | exact hS _ (Below.refl _ _).drew | exact hS _ (bnext (And.left (by assumption)) b1 (Nat.le_refl _)) | exact hS _ (bnext (And.left (by assumption)) b2 (Nat.le_refl _)))
      (first
      | (go_at_call 30; refine (dataAt_any s _).mono ?_; rintro e w1 ⟨rfl, b1⟩)
      | (go_at_call 25; refine (hD _).mono ?_; rintro e w2 ⟨rfl, b2⟩))
    go_wp2
    go_returns
    exact ⟨rfl, bnext bW (And.left (by assumption)) (Nat.le_refl _)⟩
  · rw [decide_eq_false hj] at hg
    have e1 : s.data k j = 0 := if_neg (fun x => hj x.2)
    have e2 : s.derr k j = 2 := if_neg (fun x => hj x.2)
    rw [e1, e2]; clear e1 e2
    go_enter Try.func13, Try.ntmps13
    go_wp2_with fail
    refine (hg _).mono ?_
    rintro e u ⟨rfl, rfl⟩
    go_wp2
    go_returns
    exact ⟨rfl, bW⟩
end Go.Proofs.Ytdinkcaeanehgaa
