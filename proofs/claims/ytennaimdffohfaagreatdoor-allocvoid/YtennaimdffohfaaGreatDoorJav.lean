/-
  Texts of my own, joined: no statement is proved here.
-/
import Derived.Test.YtennaimdffohfaaGreatDoorRows
import Derived.Laws.ResultCell
import Derived.Test.YtennaimdffohfaaGreatDoorJaa
set_option linter.unusedSimpArgs false
set_option linter.unusedVariables false
namespace Go.Proofs.YtennaimdffohfaaGreatDoor
open Go.ChangeShapes Go.WideShapes Go.ChangeAt Go.RowKit
structure Gm where
  g : Int
  i : Int
  d : Int
abbrev Gm.ok (s : Gm) : Prop := 1 ≤ s.g ∧ s.g ≤ 8 ∧ 1 ≤ s.i ∧ s.i ≤ 8 ∧ 4 ≤ s.d ∧ s.d ≤ 128
def Gm.err (s : Gm) : Int := if s.ok then 0 else 2
def Gm.span (s : Gm) : Int := 2 + s.i + s.d
def Gm.total (s : Gm) : Int := if s.ok then 2 + s.g * s.span else 0
def Gm.inodes (s : Gm) : Int := if s.ok then s.g * (s.i * 3) else 0
theorem Gm.bad {s : Gm} (h : ¬ s.ok) : s.g < 1 ∨ (1 ≤ s.g ∧ 8 < s.g) ∨ (1 ≤ s.g ∧ s.g ≤ 8 ∧ s.i < 1) ∨ (1 ≤ s.g ∧ s.g ≤ 8 ∧ 1 ≤ s.i ∧ 8 < s.i) ∨ (1 ≤ s.g ∧ s.g ≤ 8 ∧ 1 ≤ s.i ∧ s.i ≤ 8 ∧ s.d < 4) ∨ (1 ≤ s.g ∧ s.g ≤ 8 ∧ 1 ≤ s.i ∧ s.i ≤ 8 ∧ 4 ≤ s.d ∧ 128 < s.d) := by
  unfold Gm.ok at h; omega
theorem Gm.spanB {s : Gm} (h : s.ok) : 7 ≤ s.span ∧ s.span ≤ 138 := by unfold Gm.ok at h; unfold Gm.span; omega
theorem Gm.prodB {s : Gm} (h : s.ok) {k : Int} (h0 : 0 ≤ k) (h1 : k ≤ 8) : 0 ≤ k * s.span ∧ k * s.span ≤ 1104 := by
  have := Gm.spanB h
  exact ⟨Int.mul_nonneg h0 (by omega), Int.le_trans (Int.mul_le_mul h1 this.2 (by omega) (by omega)) (by decide)⟩
theorem Gm.inoB {s : Gm} (h : s.ok) : 0 ≤ s.g * (s.i * 3) ∧ s.g * (s.i * 3) ≤ 192 := by
  unfold Gm.ok at h
  exact ⟨Int.mul_nonneg (by omega) (by omega), Int.le_trans (Int.mul_le_mul h.2.1 (show s.i * 3 ≤ 24 by omega) (by omega) (by omega)) (by decide)⟩
structure Gat (w : World) (b : Nat) (s : Gm) : Prop where
  c0 : w.cell? ⟨b, 0, none⟩ = some (.int .i64 s.g)
  c1 : w.cell? ⟨b, 1, none⟩ = some (.int .i64 s.i)
  c2 : w.cell? ⟨b, 2, none⟩ = some (.int .i64 s.d)
theorem Gat.lt {w : World} {b : Nat} {s : Gm} (h : Gat w b s) : b < w.heap.size := World.block_lt_of_cell? w ⟨b, 0, none⟩ h.c0
theorem Gat.later {w w' : World} {b : Nat} {s : Gm} (h : Gat w b s) (k : Below w.heap.size w w') : Gat w' b s :=
  ⟨by rw [k.cell (p := ⟨b, 0, none⟩) h.lt]; exact h.c0, by rw [k.cell (p := ⟨b, 1, none⟩) h.lt]; exact h.c1, by rw [k.cell (p := ⟨b, 2, none⟩) h.lt]; exact h.c2⟩
theorem Gat.made (w : World) (s : Gm) : Gat (w.alloc (.cells #[.int .i64 s.g, .int .i64 s.i, .int .i64 s.d] 37)) w.heap.size s := by
  constructor <;> simp [go_sem]
set_option maxHeartbeats 2000000 in
theorem allowed_ok (s : Gm) (w : World) (h : s.ok) :
    Calls Tryz.prog 76 #[.agg #[.int .i64 s.g, .int .i64 s.i, .int .i64 s.d]] w fun e w' => e = .returned (.agg #[.int .i64 s.g, .int .i64 s.i, .int .i64 s.d]) ∧ Below w.heap.size w w' := by
  obtain ⟨h0, h1, h2, h3, h4, h5⟩ := h
  obtain ⟨g, i, d⟩ := s
  simp only at h0 h1 h2 h3 h4 h5
  go_enter Tryz.func76, Tryz.ntmps76
  go_wp2
  go_returns
  exact ⟨rfl, by go_grown⟩
set_option maxHeartbeats 2000000 in
theorem allowed_no (s : Gm) (w : World) (h : ¬ s.ok) :
    Calls Tryz.prog 76 #[.agg #[.int .i64 s.g, .int .i64 s.i, .int .i64 s.d]] w fun e w' => e = .returned (.agg #[.int .i64 0, .int .i64 0, .int .i64 0]) ∧ Below w.heap.size w w' := by
  obtain ⟨g, i, d⟩ := s
  rcases Gm.bad h with h | ⟨h0, h⟩ | ⟨h0, h1, h⟩ | ⟨h0, h1, h2, h⟩ | ⟨h0, h1, h2, h3, h⟩ | ⟨h0, h1, h2, h3, h4, h⟩
  all_goals
    go_enter Tryz.func76, Tryz.ntmps76
    go_wp2
    go_returns
    exact ⟨rfl, by go_grown⟩
set_option maxHeartbeats 2000000 in
theorem rcheck_anyG (s : Gm) (w : World) :
    Calls Tryz.prog 68 #[.agg #[.int .i64 s.g, .int .i64 s.i, .int .i64 s.d]] w fun e w' => e = .returned (.int .i64 s.err) ∧ Below w.heap.size w w' := by
  obtain ⟨g, i, d⟩ := s
  by_cases h : Gm.ok ⟨g, i, d⟩
  · have e : Gm.err ⟨g, i, d⟩ = 0 := if_pos h
    rw [e]; clear e
    obtain ⟨h0, h1, h2, h3, h4, h5⟩ := h
    simp only at h0 h1 h2 h3 h4 h5
    go_enter Tryz.func68, Tryz.ntmps68
    go_wp2
    go_returns
    exact ⟨rfl, by go_grown⟩
  · have e : Gm.err ⟨g, i, d⟩ = 2 := if_neg h
    rw [e]; clear e
    rcases Gm.bad h with h | ⟨h0, h⟩ | ⟨h0, h1, h⟩ | ⟨h0, h1, h2, h⟩ | ⟨h0, h1, h2, h3, h⟩ | ⟨h0, h1, h2, h3, h4, h⟩
    all_goals
      go_enter Tryz.func68, Tryz.ntmps68
      go_wp2
      go_returns
      exact ⟨rfl, by go_grown⟩
theorem dataAt_any (s : Gm) (w : World) :
    Calls Tryz.prog 46 #[.agg #[.int .i64 s.g, .int .i64 s.i, .int .i64 s.d]] w fun e w' => e = .returned (.int .i64 (wrap64 (2 + s.i))) ∧ Below w.heap.size w w' := by
  obtain ⟨g, i, d⟩ := s
  go_enter Tryz.func46, Tryz.ntmps46
  go_wp2
  go_returns
  exact ⟨rfl, by go_grown⟩
theorem dataAt_ok (s : Gm) (w : World) (h : s.ok) :
    Calls Tryz.prog 46 #[.agg #[.int .i64 s.g, .int .i64 s.i, .int .i64 s.d]] w fun e w' => e = .returned (.int .i64 (2 + s.i)) ∧ Below w.heap.size w w' := by
  obtain ⟨h0, h1, h2, h3, h4, h5⟩ := h
  obtain ⟨g, i, d⟩ := s
  simp only at h0 h1 h2 h3 h4 h5
  go_enter Tryz.func46, Tryz.ntmps46
  go_wp2
  go_returns
  exact ⟨rfl, by go_grown⟩
theorem Gat.held {W : World} {b : Nat} {s : Gm} (h : Gat W b s) (w' : World) (k : Below W.heap.size W w') :
    Below W.heap.size W w' ∧ w'.cell? ⟨b, 0, none⟩ = some (.int .i64 s.g) ∧ w'.cell? ⟨b, 1, none⟩ = some (.int .i64 s.i) ∧ w'.cell? ⟨b, 2, none⟩ = some (.int .i64 s.d) :=
  ⟨k, (h.later k).c0, (h.later k).c1, (h.later k).c2⟩
theorem below_made (w : World) (o : Obj) : Below w.heap.size w (w.alloc o) := (Below.refl _ _).alloc (Nat.le_refl _) _
theorem span_ok (s : Gm) (w : World) (h : s.ok) :
    Calls Tryz.prog 81 #[.agg #[.int .i64 s.g, .int .i64 s.i, .int .i64 s.d]] w fun e w' => e = .returned (.int .i64 s.span) ∧ Below w.heap.size w w' := by
  have hh := h
  obtain ⟨h0, h1, h2, h3, h4, h5⟩ := hh
  unfold Gm.span
  have hA := Gat.made w s
  have bW := below_made w (.cells #[.int .i64 s.g, .int .i64 s.i, .int .i64 s.d] 37)
  go_enter Tryz.func81, Tryz.ntmps81
  go_wp2_with fail
  generalize w.alloc (.cells #[.int .i64 s.g, .int .i64 s.i, .int .i64 s.d] 37) = W at *
  have hS := hA.held
  have ew : IntKind.i64.wrap (2 + s.i + s.d) = 2 + s.i + s.d := by rw [IntKind.wrap_i64]; omega
  go_region_held3 (fun w' => Below W.heap.size W w' ∧ w'.cell? ⟨w.heap.size, 0, none⟩ = some (.int .i64 s.g) ∧ w'.cell? ⟨w.heap.size, 1, none⟩ = some (.int .i64 s.i) ∧ w'.cell? ⟨w.heap.size, 2, none⟩ = some (.int .i64 s.d))
    (first | assumption | exact hS _ (Below.refl _ _).drew | exact hS _ (bnext (And.left (by assumption)) b1 (Nat.le_refl _)))
    (first
    | (go_at_call 46; refine (dataAt_ok s _ h).mono ?_; rintro e w1 ⟨rfl, b1⟩))
  go_wp2
  go_returns
  exact ⟨rfl, bnext bW (And.left (by assumption)) (Nat.le_refl _)⟩
theorem groupInodes_ok (s : Gm) (w : World) (h1 : 0 ≤ s.i) (h2 : s.i ≤ 8) :
    Calls Tryz.prog 51 #[.agg #[.int .i64 s.g, .int .i64 s.i, .int .i64 s.d]] w fun e w' => e = .returned (.int .i64 (s.i * 3)) ∧ Below w.heap.size w w' := by
  obtain ⟨g, i, d⟩ := s
  simp only at h1 h2
  go_enter Tryz.func51, Tryz.ntmps51
  go_wp2
  go_returns
  exact ⟨rfl, by go_grown⟩
theorem start_ok (s : Gm) (k : Int) (w : World) (h : s.ok) (k0 : 0 ≤ k) (k1 : k ≤ 8) :
    Calls Tryz.prog 52 #[.agg #[.int .i64 s.g, .int .i64 s.i, .int .i64 s.d], .int .i64 k] w fun e w' => e = .returned (.int .i64 (2 + k * s.span)) ∧ Below w.heap.size w w' := by
  have hB := Gm.prodB h k0 k1
  obtain ⟨p0, p1⟩ := hB
  have hS := Gm.spanB h
  obtain ⟨q0, q1⟩ := hS
  go_enter Tryz.func52, Tryz.ntmps52
  go_wp2_with fail
  refine (span_ok s _ h).mono ?_
  rintro e w1 ⟨rfl, b1⟩
  go_wp2
  go_returns
  exact ⟨rfl, ((Below.refl _ _).alloc (Nat.le_refl _) _).trans (b1.mono (by simp))⟩
theorem gamong_any (i n : Int) (w : World) :
    Calls Tryz.prog 44 #[.int .i64 i, .int .i64 n] w fun e w' => e = .returned (.bool (decide (0 ≤ i ∧ i < n))) ∧ w = w' := by
  by_cases h0 : 0 ≤ i
  · by_cases h1 : i < n
    · rw [decide_eq_true ⟨h0, h1⟩]
      go_enter Tryz.func44, Tryz.ntmps44
      go_wp2
      go_returns
      exact ⟨rfl, rfl⟩
    · rw [decide_eq_false (fun h => h1 h.2)]
      go_enter Tryz.func44, Tryz.ntmps44
      go_wp2
      go_returns
      exact ⟨rfl, rfl⟩
  · rw [decide_eq_false (fun h => h0 h.1)]
    go_enter Tryz.func44, Tryz.ntmps44
    go_wp2
    go_returns
    exact ⟨rfl, rfl⟩
theorem check_anyG (s : Gm) (w : World) :
    Calls Tryz.prog 80 #[.agg #[.int .i64 s.g, .int .i64 s.i, .int .i64 s.d]] w fun e w' => e = .returned (.int .i64 s.err) ∧ Below w.heap.size w w' := by
  by_cases h : s.ok
  · have e : s.err = 0 := if_pos h
    rw [e]; clear e
    have hg : ¬ s.g = 0 := by unfold Gm.ok at h; omega
    go_enter Tryz.func80, Tryz.ntmps80
    go_wp2_with fail
    refine (allowed_ok s _ h).mono ?_
    rintro e w1 ⟨rfl, b1⟩
    go_wp2
    go_returns
    exact ⟨rfl, bnext (below_made _ _) b1 (Nat.le_refl _)⟩
  · have e : s.err = 2 := if_neg h
    rw [e]; clear e
    go_enter Tryz.func80, Tryz.ntmps80
    go_wp2_with fail
    refine (allowed_no s _ h).mono ?_
    rintro e w1 ⟨rfl, b1⟩
    go_wp2
    go_returns
    exact ⟨rfl, bnext (below_made _ _) b1 (Nat.le_refl _)⟩
theorem total_any (s : Gm) (w : World) :
    Calls Tryz.prog 89 #[.agg #[.int .i64 s.g, .int .i64 s.i, .int .i64 s.d]] w fun e w' => e = .returned (.int .i64 s.total) ∧ Below w.heap.size w w' := by
  have hA := Gat.made w s
  have bW := below_made w (.cells #[.int .i64 s.g, .int .i64 s.i, .int .i64 s.d] 37)
  by_cases h : s.ok
  · have e : s.total = 2 + s.g * s.span := if_pos h
    rw [e]; clear e
    have e2 : s.err = 0 := if_pos h
    have hc := check_anyG s
    rw [e2] at hc; clear e2
    go_enter Tryz.func89, Tryz.ntmps89
    go_wp2_with fail
    refine (hc _).mono ?_
    rintro e w1 ⟨rfl, b1⟩
    obtain ⟨c0, c1, c2⟩ := hA.later b1
    go_wp2_with fail
    refine (start_ok s _ _ h (by unfold Gm.ok at h; omega) (by unfold Gm.ok at h; omega)).mono ?_
    rintro e w2 ⟨rfl, b2⟩
    go_wp2
    go_returns
    exact ⟨rfl, bnext (bnext bW b1 (Nat.le_refl _)) b2 (Nat.le_refl _)⟩
  · have e : s.total = 0 := if_neg h
    rw [e]; clear e
    have e2 : s.err = 2 := if_neg h
    have hc := check_anyG s
    rw [e2] at hc; clear e2
    go_enter Tryz.func89, Tryz.ntmps89
    go_wp2_with fail
    refine (hc _).mono ?_
    rintro e w1 ⟨rfl, b1⟩
    go_wp2
    go_returns
    exact ⟨rfl, bnext bW b1 (Nat.le_refl _)⟩
theorem rtotal_any (s : Gm) (w : World) :
    Calls Tryz.prog 35 #[.agg #[.int .i64 s.g, .int .i64 s.i, .int .i64 s.d]] w fun e w' => e = .returned (.int .i64 s.total) ∧ Below w.heap.size w w' := by
  have hA := Gat.made w s
  have bW := below_made w (.cells #[.int .i64 s.g, .int .i64 s.i, .int .i64 s.d] 37)
  by_cases h : s.ok
  · have e : s.total = 2 + s.g * (2 + s.i + s.d) := if_pos h
    rw [e]; clear e
    have e2 : s.err = 0 := if_pos h
    have hc := rcheck_anyG s
    rw [e2] at hc; clear e2
    have p := Gm.prodB h (k := s.g) (by unfold Gm.ok at h; omega) (by unfold Gm.ok at h; omega)
    unfold Gm.span at p
    obtain ⟨p0, p1⟩ := p
    have hh := h
    obtain ⟨h0, h1, h2, h3, h4, h5⟩ := hh
    go_enter Tryz.func35, Tryz.ntmps35
    go_wp2_with fail
    refine (hc _).mono ?_
    rintro e w1 ⟨rfl, b1⟩
    obtain ⟨c0, c1, c2⟩ := hA.later b1
    go_wp2
    go_returns
    exact ⟨rfl, bnext bW b1 (Nat.le_refl _)⟩
  · have e : s.total = 0 := if_neg h
    rw [e]; clear e
    have e2 : s.err = 2 := if_neg h
    have hc := rcheck_anyG s
    rw [e2] at hc; clear e2
    go_enter Tryz.func35, Tryz.ntmps35
    go_wp2_with fail
    refine (hc _).mono ?_
    rintro e w1 ⟨rfl, b1⟩
    go_wp2
    go_returns
    exact ⟨rfl, bnext bW b1 (Nat.le_refl _)⟩
theorem frozen_later {w w' : World} {b i : Nat} (k : Below w.heap.size w w') (hb : b < w.heap.size) (h : w.frozen? ⟨b, i, none⟩ = false) : w'.frozen? ⟨b, i, none⟩ = false := by
  have e := k.block b hb
  unfold World.frozen? at h ⊢
  simp only at h ⊢
  rw [e]; exact h
abbrev Gm.has (s : Gm) (k : Int) : Prop := s.ok ∧ 0 ≤ k ∧ k < s.g
def Gm.herr (s : Gm) (k : Int) : Int := if s.has k then 0 else 2
def Gm.inG (s : Gm) (k j : Int) : Int := if s.has k then 2 + k * s.span + j else 0
abbrev Gm.hasD (s : Gm) (k j : Int) : Prop := s.has k ∧ 0 ≤ j ∧ j < s.d
def Gm.derr (s : Gm) (k j : Int) : Int := if s.hasD k j then 0 else 2
def Gm.data (s : Gm) (k j : Int) : Int := if s.hasD k j then 2 + k * s.span + (2 + s.i + j) else 0
theorem ret_pair {a b c d : Value} (h : a = c) (k : b = d) : Ending.returned (.tuple #[a, b]) = .returned (.tuple #[c, d]) := by rw [h, k]
theorem run_field (a b c : Value) (w : World) : Sem.run Tryz.prog (Instr.field 37 (.agg #[a, b, c]) 0) w = .ok a w := by
  simp [Instr.field, asAgg, go_sem]
theorem inGroup_ok (s : Gm) (k j : Int) (w : World) (h : s.has k) (h1 : 0 ≤ j) (h2 : j ≤ 200) :
    Calls Tryz.prog 45 #[.agg #[.int .i64 s.g, .int .i64 s.i, .int .i64 s.d], .int .i64 k, .int .i64 j] w fun e w' => e = .returned (.tuple #[.int .i64 (2 + k * s.span + j), .int .i64 0]) ∧ Below w.heap.size w w' := by
  have hA := Gat.made w s
  have bW := below_made w (.cells #[.int .i64 s.g, .int .i64 s.i, .int .i64 s.d] 37)
  have ho := h.1
  have k0 := h.2.1
  have k1 := h.2.2
  have k2 : k ≤ 8 := by have := h.1.2.1; omega
  have hB := Gm.prodB ho k0 k2
  obtain ⟨p0, p1⟩ := hB
  have hg := gamong_any k s.g
  rw [decide_eq_true ⟨k0, k1⟩] at hg
  go_enter Tryz.func45, Tryz.ntmps45
  have hf := run_field
  go_wp2_with fail
  refine (allowed_ok s _ ho).mono ?_
  rintro e w1 ⟨rfl, b1⟩
  obtain ⟨c0, c1, c2⟩ := hA.later b1
  go_wp2_with fail
  refine (hg _).mono ?_
  rintro e u ⟨rfl, rfl⟩
  go_wp2_with fail
  refine (start_ok s _ _ ho k0 k2).mono ?_
  rintro e w2 ⟨rfl, b2⟩
  go_wp2
  go_returns
  exact ⟨rfl, bnext (bnext bW b1 (Nat.le_refl _)) b2 (Nat.le_refl _)⟩
theorem inGroup_no (s : Gm) (k j : Int) (w : World) (h : ¬ s.has k) :
    Calls Tryz.prog 45 #[.agg #[.int .i64 s.g, .int .i64 s.i, .int .i64 s.d], .int .i64 k, .int .i64 j] w fun e w' => e = .returned (.tuple #[.int .i64 0, .int .i64 2]) ∧ Below w.heap.size w w' := by
  have hA := Gat.made w s
  have bW := below_made w (.cells #[.int .i64 s.g, .int .i64 s.i, .int .i64 s.d] 37)
  by_cases ho : s.ok
  · have hg := gamong_any k s.g
    rw [decide_eq_false (fun x => h ⟨ho, x⟩)] at hg
    go_enter Tryz.func45, Tryz.ntmps45
    have hf := run_field
    go_wp2_with fail
    refine (allowed_ok s _ ho).mono ?_
    rintro e w1 ⟨rfl, b1⟩
    go_wp2_with fail
    refine (hg _).mono ?_
    rintro e u ⟨rfl, rfl⟩
    go_wp2
    go_returns
    exact ⟨rfl, bnext bW b1 (Nat.le_refl _)⟩
  · have hg := gamong_any k 0
    rw [decide_eq_false (by omega)] at hg
    go_enter Tryz.func45, Tryz.ntmps45
    have hf := run_field
    go_wp2_with fail
    refine (allowed_no s _ ho).mono ?_
    rintro e w1 ⟨rfl, b1⟩
    go_wp2_with fail
    refine (hg _).mono ?_
    rintro e u ⟨rfl, rfl⟩
    go_wp2
    go_returns
    exact ⟨rfl, bnext bW b1 (Nat.le_refl _)⟩
theorem inGroup_any (s : Gm) (k j : Int) (w : World) (h1 : 0 ≤ j) (h2 : j ≤ 200) :
    Calls Tryz.prog 45 #[.agg #[.int .i64 s.g, .int .i64 s.i, .int .i64 s.d], .int .i64 k, .int .i64 j] w fun e w' => e = .returned (.tuple #[.int .i64 (s.inG k j), .int .i64 (s.herr k)]) ∧ Below w.heap.size w w' := by
  unfold Gm.herr Gm.inG
  by_cases h : s.has k
  · rw [if_pos h, if_pos h]; exact inGroup_ok s k j w h h1 h2
  · rw [if_neg h, if_neg h]; exact inGroup_no s k j w h
theorem maps_any (s : Gm) (k : Int) (w : World) :
    Calls Tryz.prog 41 #[.agg #[.int .i64 s.g, .int .i64 s.i, .int .i64 s.d], .int .i64 k] w fun e w' => e = .returned (.tuple #[.int .i64 (s.inG k 1), .int .i64 (s.herr k)]) ∧ Below w.heap.size w w' := by
  have bW := below_made w (.cells #[.int .i64 s.g, .int .i64 s.i, .int .i64 s.d] 37)
  go_enter Tryz.func41, Tryz.ntmps41
  go_wp2_with fail
  refine (inGroup_any s k 1 _ (by omega) (by omega)).mono ?_
  rintro e w1 ⟨rfl, b1⟩
  go_wp2
  go_returns
  exact ⟨rfl, bnext bW b1 (Nat.le_refl _)⟩
theorem data_any (s : Gm) (k j : Int) (w : World) :
    Calls Tryz.prog 15 #[.agg #[.int .i64 s.g, .int .i64 s.i, .int .i64 s.d], .int .i64 k, .int .i64 j] w fun e w' => e = .returned (.tuple #[.int .i64 (s.data k j), .int .i64 (s.derr k j)]) ∧ Below w.heap.size w w' := by
  have hA := Gat.made w s
  have bW := below_made w (.cells #[.int .i64 s.g, .int .i64 s.i, .int .i64 s.d] 37)
  have hg := gamong_any j s.d
  by_cases hj : 0 ≤ j ∧ j < s.d
  · rw [decide_eq_true hj] at hg
    obtain ⟨V, hV, hD⟩ : ∃ V, Hid (V = wrap64 (wrap64 (2 + s.i) + j)) ∧ ∀ w, Calls Tryz.prog 45 #[.agg #[.int .i64 s.g, .int .i64 s.i, .int .i64 s.d], .int .i64 k, .int .i64 V] w fun e w' => e = .returned (.tuple #[.int .i64 (s.data k j), .int .i64 (s.derr k j)]) ∧ Below w.heap.size w w' := by
      refine ⟨_, (rfl : _ = _), fun w => ?_⟩
      unfold Gm.data Gm.derr
      by_cases hk : s.has k
      · have hh := hk.1
        unfold Gm.ok at hh
        have e : wrap64 (wrap64 (2 + s.i) + j) = 2 + s.i + j := by unfold wrap64; omega
        rw [if_pos ⟨hk, hj⟩, if_pos ⟨hk, hj⟩, e]
        exact inGroup_ok s k _ w hk (by omega) (by omega)
      · rw [if_neg (fun x => hk x.1), if_neg (fun x => hk x.1)]
        exact inGroup_no s k _ w hk
    go_enter Tryz.func15, Tryz.ntmps15
    go_wp2_with fail
    refine (hg _).mono ?_
    rintro e u ⟨rfl, rfl⟩
    go_wp2_with fail
    generalize w.alloc (.cells #[.int .i64 s.g, .int .i64 s.i, .int .i64 s.d] 37) = W at *
    have hS := hA.held
    have hV' : IntKind.i64.wrap (wrap64 (2 + s.i) + j) = V := by rw [IntKind.wrap_i64, hV.out]; simp only [wrap64]
    go_region_held3 (fun w' => Below W.heap.size W w' ∧ w'.cell? ⟨w.heap.size, 0, none⟩ = some (.int .i64 s.g) ∧ w'.cell? ⟨w.heap.size, 1, none⟩ = some (.int .i64 s.i) ∧ w'.cell? ⟨w.heap.size, 2, none⟩ = some (.int .i64 s.d))
      (first | assumption | exact hS _ (Below.refl _ _).drew | exact hS _ (bnext (And.left (by assumption)) b1 (Nat.le_refl _)) | exact hS _ (bnext (And.left (by assumption)) b2 (Nat.le_refl _)))
      (first
      | (go_at_call 46; refine (dataAt_any s _).mono ?_; rintro e w1 ⟨rfl, b1⟩)
      | (go_at_call 45; refine (hD _).mono ?_; rintro e w2 ⟨rfl, b2⟩))
    go_wp2
    go_returns
    exact ⟨rfl, bnext bW (And.left (by assumption)) (Nat.le_refl _)⟩
  · rw [decide_eq_false hj] at hg
    have e1 : s.data k j = 0 := if_neg (fun x => hj x.2)
    have e2 : s.derr k j = 2 := if_neg (fun x => hj x.2)
    rw [e1, e2]; clear e1 e2
    go_enter Tryz.func15, Tryz.ntmps15
    go_wp2_with fail
    refine (hg _).mono ?_
    rintro e u ⟨rfl, rfl⟩
    go_wp2
    go_returns
    exact ⟨rfl, bW⟩
theorem rbegin_any (s : Gm) (k : Int) (w : World) :
    Calls Tryz.prog 40 #[.agg #[.int .i64 s.g, .int .i64 s.i, .int .i64 s.d], .int .i64 k] w fun e w' => e = .returned (.tuple #[.int .i64 (s.inG k 0), .int .i64 (s.herr k)]) ∧ Below w.heap.size w w' := by
  have hA := Gat.made w s
  have bW := below_made w (.cells #[.int .i64 s.g, .int .i64 s.i, .int .i64 s.d] 37)
  have hc := rcheck_anyG s
  unfold Gm.inG Gm.herr
  by_cases ho : s.ok
  · have e2 : s.err = 0 := if_pos ho
    rw [e2] at hc; clear e2
    by_cases h0 : 0 ≤ k
    · by_cases h1 : k < s.g
      · rw [if_pos ⟨ho, h0, h1⟩, if_pos ⟨ho, h0, h1⟩]
        have hB := Gm.prodB ho h0 (by have := ho.2.1; omega)
        unfold Gm.span at hB ⊢
        obtain ⟨p0, p1⟩ := hB
        obtain ⟨q0, q1, q2, q3, q4, q5⟩ := ho
        go_enter Tryz.func40, Tryz.ntmps40
        go_wp2_with fail
        refine (hc _).mono ?_
        rintro e w1 ⟨rfl, b1⟩
        obtain ⟨c0, c1, c2⟩ := hA.later b1
        go_wp2
        go_returns
        exact ⟨ret_pair (by simp) rfl, bnext bW b1 (Nat.le_refl _)⟩
      · rw [if_neg (fun x => h1 x.2.2), if_neg (fun x => h1 x.2.2)]
        go_enter Tryz.func40, Tryz.ntmps40
        go_wp2_with fail
        refine (hc _).mono ?_
        rintro e w1 ⟨rfl, b1⟩
        obtain ⟨c0, c1, c2⟩ := hA.later b1
        go_wp2
        go_returns
        exact ⟨rfl, bnext bW b1 (Nat.le_refl _)⟩
    · rw [if_neg (fun x => h0 x.2.1), if_neg (fun x => h0 x.2.1)]
      go_enter Tryz.func40, Tryz.ntmps40
      go_wp2_with fail
      refine (hc _).mono ?_
      rintro e w1 ⟨rfl, b1⟩
      go_wp2
      go_returns
      exact ⟨rfl, bnext bW b1 (Nat.le_refl _)⟩
  · rw [if_neg (fun x => ho x.1), if_neg (fun x => ho x.1)]
    have e2 : s.err = 2 := if_neg ho
    rw [e2] at hc; clear e2
    go_enter Tryz.func40, Tryz.ntmps40
    go_wp2_with fail
    refine (hc _).mono ?_
    rintro e w1 ⟨rfl, b1⟩
    go_wp2
    go_returns
    exact ⟨rfl, bnext bW b1 (Nat.le_refl _)⟩
theorem inG_yes {s : Gm} {k : Int} (h : s.has k) (j : Int) : s.inG k j = s.inG k 0 + j := by unfold Gm.inG; rw [if_pos h, if_pos h]; omega
theorem inG_no {s : Gm} {k : Int} (h : ¬ s.has k) (j : Int) : s.inG k j = 0 := if_neg h
theorem inG_b (s : Gm) (k : Int) : 0 ≤ s.inG k 0 ∧ s.inG k 0 ≤ 2000 := by
  unfold Gm.inG
  by_cases h : s.has k
  · rw [if_pos h]
    have := Gm.prodB h.1 h.2.1 (by have := h.1.2.1; have := h.2.2; omega)
    omega
  · rw [if_neg h]; omega
theorem rdata_any (s : Gm) (k j : Int) (w : World) :
    Calls Tryz.prog 13 #[.agg #[.int .i64 s.g, .int .i64 s.i, .int .i64 s.d], .int .i64 k, .int .i64 j] w fun e w' => e = .returned (.tuple #[.int .i64 (s.data k j), .int .i64 (s.derr k j)]) ∧ Below w.heap.size w w' := by
  have hA := Gat.made w s
  have bW := below_made w (.cells #[.int .i64 s.g, .int .i64 s.i, .int .i64 s.d] 37)
  have hb := rbegin_any s k
  have hB := inG_b s k
  obtain ⟨p0, p1⟩ := hB
  by_cases h : s.has k
  · have e : s.herr k = 0 := if_pos h
    rw [e] at hb; clear e
    by_cases h0 : 0 ≤ j
    · by_cases h1 : j < s.d
      · have hj : s.hasD k j := ⟨h, h0, h1⟩
        have e1 : s.data k j = s.inG k 0 + 2 + s.i + j := by unfold Gm.data Gm.inG; rw [if_pos hj, if_pos h]; omega
        have e2 : s.derr k j = 0 := if_pos hj
        rw [e1, e2]; clear e1 e2
        obtain ⟨q0, q1, q2, q3, q4, q5⟩ := h.1
        go_enter Tryz.func13, Tryz.ntmps13
        go_wp2_with fail
        refine (hb _).mono ?_
        rintro e w1 ⟨rfl, b1⟩
        obtain ⟨c0, c1, c2⟩ := hA.later b1
        go_wp2
        go_returns
        exact ⟨rfl, bnext bW b1 (Nat.le_refl _)⟩
      · have e1 : s.data k j = 0 := if_neg (fun x => h1 x.2.2)
        have e2 : s.derr k j = 2 := if_neg (fun x => h1 x.2.2)
        rw [e1, e2]; clear e1 e2
        go_enter Tryz.func13, Tryz.ntmps13
        go_wp2_with fail
        refine (hb _).mono ?_
        rintro e w1 ⟨rfl, b1⟩
        obtain ⟨c0, c1, c2⟩ := hA.later b1
        go_wp2
        go_returns
        exact ⟨rfl, bnext bW b1 (Nat.le_refl _)⟩
    · have e1 : s.data k j = 0 := if_neg (fun x => h0 x.2.1)
      have e2 : s.derr k j = 2 := if_neg (fun x => h0 x.2.1)
      rw [e1, e2]; clear e1 e2
      go_enter Tryz.func13, Tryz.ntmps13
      go_wp2_with fail
      refine (hb _).mono ?_
      rintro e w1 ⟨rfl, b1⟩
      go_wp2
      go_returns
      exact ⟨rfl, bnext bW b1 (Nat.le_refl _)⟩
  · have e : s.herr k = 2 := if_neg h
    rw [e] at hb; clear e
    have e1 : s.data k j = 0 := if_neg (fun x => h x.1)
    have e2 : s.derr k j = 2 := if_neg (fun x => h x.1)
    rw [e1, e2]; clear e1 e2
    go_enter Tryz.func13, Tryz.ntmps13
    go_wp2_with fail
    refine (hb _).mono ?_
    rintro e w1 ⟨rfl, b1⟩
    go_wp2
    go_returns
    exact ⟨rfl, bnext bW b1 (Nat.le_refl _)⟩
theorem inodes_any (s : Gm) (w : World) :
    Calls Tryz.prog 47 #[.agg #[.int .i64 s.g, .int .i64 s.i, .int .i64 s.d]] w fun e w' => e = .returned (.int .i64 s.inodes) ∧ Below w.heap.size w w' := by
  obtain ⟨t, ht, hal, hi0, hi1, hp⟩ : ∃ t : Gm, t.g * (t.i * 3) = s.inodes ∧ (∀ w, Calls Tryz.prog 76 #[.agg #[.int .i64 s.g, .int .i64 s.i, .int .i64 s.d]] w fun e w' => e = .returned (.agg #[.int .i64 t.g, .int .i64 t.i, .int .i64 t.d]) ∧ Below w.heap.size w w') ∧ 0 ≤ t.i ∧ t.i ≤ 8 ∧ (0 ≤ t.g * (t.i * 3) ∧ t.g * (t.i * 3) ≤ 192) := by
    unfold Gm.inodes
    by_cases h : s.ok
    · refine ⟨s, (if_pos h).symm, fun w => allowed_ok s w h, by have := h.2.2.1; omega, h.2.2.2.1, Gm.inoB h⟩
    · exact ⟨⟨0, 0, 0⟩, by rw [if_neg h]; rfl, fun w => allowed_no s w h, by decide, by decide, by decide⟩
  have hA := Gat.made w s
  have hf : ∀ i, (w.alloc (.cells #[.int .i64 s.g, .int .i64 s.i, .int .i64 s.d] 37)).frozen? ⟨w.heap.size, i, none⟩ = false := fun i => by simp [go_sem]
  have bW := below_made w (.cells #[.int .i64 s.g, .int .i64 s.i, .int .i64 s.d] 37)
  rw [← ht]; clear ht
  obtain ⟨p0, p1⟩ := hp
  go_enter Tryz.func47, Tryz.ntmps47
  go_wp2_with fail
  refine (hal _).mono ?_
  rintro e w1 ⟨rfl, b1⟩
  obtain ⟨c0, c1, c2⟩ := hA.later b1
  have f0 := frozen_later b1 hA.lt (hf 0)
  have f1 := frozen_later b1 hA.lt (hf 1)
  have f2 := frozen_later b1 hA.lt (hf 2)
  go_wp2_with fail
  have hT : Gat (((w1.setCell ⟨w.heap.size, 0, none⟩ (.int .i64 t.g)).setCell ⟨w.heap.size, 1, none⟩ (.int .i64 t.i)).setCell ⟨w.heap.size, 2, none⟩ (.int .i64 t.d)) w.heap.size t := by
    constructor <;> simp [World.cell?_setCell_same, World.cell?_setCell_other, c0, c1, c2]
  have bT : Below w.heap.size w (((w1.setCell ⟨w.heap.size, 0, none⟩ (.int .i64 t.g)).setCell ⟨w.heap.size, 1, none⟩ (.int .i64 t.i)).setCell ⟨w.heap.size, 2, none⟩ (.int .i64 t.d)) := by
    have := bnext bW b1 (Nat.le_refl _)
    exact ((this.setCell (Nat.le_refl _) _).setCell (Nat.le_refl _) _).setCell (Nat.le_refl _) _
  generalize ((w1.setCell ⟨w.heap.size, 0, none⟩ (.int .i64 t.g)).setCell ⟨w.heap.size, 1, none⟩ (.int .i64 t.i)).setCell ⟨w.heap.size, 2, none⟩ (.int .i64 t.d) = W at *
  clear c0 c1 c2 f0 f1 f2 hA hf
  have hS := hT.held
  have ew : IntKind.i64.wrap (t.g * (t.i * 3)) = t.g * (t.i * 3) := by rw [IntKind.wrap_i64]; omega
  go_region_held3 (fun w' => Below W.heap.size W w' ∧ w'.cell? ⟨w.heap.size, 0, none⟩ = some (.int .i64 t.g) ∧ w'.cell? ⟨w.heap.size, 1, none⟩ = some (.int .i64 t.i) ∧ w'.cell? ⟨w.heap.size, 2, none⟩ = some (.int .i64 t.d))
    (first | assumption | exact hS _ (Below.refl _ _).drew | exact hS _ (bnext (And.left (by assumption)) b2 (Nat.le_refl _)))
    (first
    | (go_at_call 51; refine (groupInodes_ok t _ hi0 hi1).mono ?_; rintro e w2 ⟨rfl, b2⟩))
  go_wp2
  go_returns
  exact ⟨rfl, bnext bT (And.left (by assumption)) (Nat.le_refl _)⟩
end Go.Proofs.YtennaimdffohfaaGreatDoor
