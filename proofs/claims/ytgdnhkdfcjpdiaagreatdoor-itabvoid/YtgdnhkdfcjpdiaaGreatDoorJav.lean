/-
  Texts of my own, joined: no statement is proved here.
-/
import Derived.Test.YtgdnhkdfcjpdiaaGreatDoorRows
import Derived.Laws.ResultCell
import Derived.Test.YtgdnhkdfcjpdiaaGreatDoorJaa
set_option linter.unusedSimpArgs false
set_option linter.unusedVariables false
namespace Go.Proofs.YtgdnhkdfcjpdiaaGreatDoor
open Go.ChangeShapes Go.WideShapes Go.ChangeAt Go.RowKit
structure Gm where
  g : Int
  i : Int
  d : Int
abbrev Gm.ok (s : Gm) : Prop := 1 ≤ s.g ∧ s.g ≤ 8 ∧ 1 ≤ s.i ∧ s.i ≤ 8 ∧ 4 ≤ s.d ∧ s.d ≤ 128
def Gm.err (s : Gm) : Int := if s.ok then 0 else 2
def Gm.span (s : Gm) : Int := 2 + s.i + s.d
def Gm.total (s : Gm) : Int := if s.ok then 2 + s.g * s.span else 0
def Gm.inodes (s : Gm) : Int := if s.ok then s.g * (s.i * 3) else 0
theorem Gm.bad {s : Gm} (h : ¬ s.ok) : s.g < 1 ∨ (1 ≤ s.g ∧ 8 < s.g) ∨ (1 ≤ s.g ∧ s.g ≤ 8 ∧ s.i < 1) ∨ (1 ≤ s.g ∧ s.g ≤ 8 ∧ 1 ≤ s.i ∧ 8 < s.i) ∨ (1 ≤ s.g ∧ s.g ≤ 8 ∧ 1 ≤ s.i ∧ s.i ≤ 8 ∧ s.d < 4) ∨ (1 ≤ s.g ∧ s.g ≤ 8 ∧ 1 ≤ s.i ∧ s.i ≤ 8 ∧ 4 ≤ s.d ∧ 128 < s.d) := by
  unfold Gm.ok at h; omega
theorem Gm.spanB {s : Gm} (h : s.ok) : 7 ≤ s.span ∧ s.span ≤ 138 := by unfold Gm.ok at h; unfold Gm.span; omega
theorem Gm.prodB {s : Gm} (h : s.ok) {k : Int} (h0 : 0 ≤ k) (h1 : k ≤ 8) : 0 ≤ k * s.span ∧ k * s.span ≤ 1104 := by
  have := Gm.spanB h
  exact ⟨Int.mul_nonneg h0 (by omega), Int.le_trans (Int.mul_le_mul h1 this.2 (by omega) (by omega)) (by decide)⟩
theorem Gm.inoB {s : Gm} (h : s.ok) : 0 ≤ s.g * (s.i * 3) ∧ s.g * (s.i * 3) ≤ 192 := by
  unfold Gm.ok at h
  exact ⟨Int.mul_nonneg (by omega) (by omega), Int.le_trans (Int.mul_le_mul h.2.1 (show s.i * 3 ≤ 24 by omega) (by omega) (by omega)) (by decide)⟩
structure Gat (w : World) (b : Nat) (s : Gm) : Prop where
  c0 : w.cell? ⟨b, 0, none⟩ = some (.int .i64 s.g)
  c1 : w.cell? ⟨b, 1, none⟩ = some (.int .i64 s.i)
  c2 : w.cell? ⟨b, 2, none⟩ = some (.int .i64 s.d)
theorem Gat.lt {w : World} {b : Nat} {s : Gm} (h : Gat w b s) : b < w.heap.size := World.block_lt_of_cell? w ⟨b, 0, none⟩ h.c0
theorem Gat.later {w w' : World} {b : Nat} {s : Gm} (h : Gat w b s) (k : Below w.heap.size w w') : Gat w' b s :=
  ⟨by rw [k.cell (p := ⟨b, 0, none⟩) h.lt]; exact h.c0, by rw [k.cell (p := ⟨b, 1, none⟩) h.lt]; exact h.c1, by rw [k.cell (p := ⟨b, 2, none⟩) h.lt]; exact h.c2⟩
theorem Gat.made (w : World) (s : Gm) : Gat (w.alloc (.cells #[.int .i64 s.g, .int .i64 s.i, .int .i64 s.d] 43)) w.heap.size s := by
  constructor <;> simp [go_sem]
set_option maxHeartbeats 2000000 in
theorem allowed_ok (s : Gm) (w : World) (h : s.ok) :
    Calls Tryz.prog 44 #[.agg #[.int .i64 s.g, .int .i64 s.i, .int .i64 s.d]] w fun e w' => e = .returned (.agg #[.int .i64 s.g, .int .i64 s.i, .int .i64 s.d]) ∧ Below w.heap.size w w' := by
  obtain ⟨h0, h1, h2, h3, h4, h5⟩ := h
  obtain ⟨g, i, d⟩ := s
  simp only at h0 h1 h2 h3 h4 h5
  go_enter Tryz.func44, Tryz.ntmps44
  go_wp2
  go_returns
  exact ⟨rfl, by go_grown⟩
set_option maxHeartbeats 2000000 in
theorem allowed_no (s : Gm) (w : World) (h : ¬ s.ok) :
    Calls Tryz.prog 44 #[.agg #[.int .i64 s.g, .int .i64 s.i, .int .i64 s.d]] w fun e w' => e = .returned (.agg #[.int .i64 0, .int .i64 0, .int .i64 0]) ∧ Below w.heap.size w w' := by
  obtain ⟨g, i, d⟩ := s
  rcases Gm.bad h with h | ⟨h0, h⟩ | ⟨h0, h1, h⟩ | ⟨h0, h1, h2, h⟩ | ⟨h0, h1, h2, h3, h⟩ | ⟨h0, h1, h2, h3, h4, h⟩
  all_goals
    go_enter Tryz.func44, Tryz.ntmps44
    go_wp2
    go_returns
    exact ⟨rfl, by go_grown⟩
set_option maxHeartbeats 2000000 in
theorem rcheck_anyG (s : Gm) (w : World) :
    Calls Tryz.prog 56 #[.agg #[.int .i64 s.g, .int .i64 s.i, .int .i64 s.d]] w fun e w' => e = .returned (.int .i64 s.err) ∧ Below w.heap.size w w' := by
  obtain ⟨g, i, d⟩ := s
  by_cases h : Gm.ok ⟨g, i, d⟩
  · have e : Gm.err ⟨g, i, d⟩ = 0 := if_pos h
    rw [e]; clear e
    obtain ⟨h0, h1, h2, h3, h4, h5⟩ := h
    simp only at h0 h1 h2 h3 h4 h5
    go_enter Tryz.func56, Tryz.ntmps56
    go_wp2
    go_returns
    exact ⟨rfl, by go_grown⟩
  · have e : Gm.err ⟨g, i, d⟩ = 2 := if_neg h
    rw [e]; clear e
    rcases Gm.bad h with h | ⟨h0, h⟩ | ⟨h0, h1, h⟩ | ⟨h0, h1, h2, h⟩ | ⟨h0, h1, h2, h3, h⟩ | ⟨h0, h1, h2, h3, h4, h⟩
    all_goals
      go_enter Tryz.func56, Tryz.ntmps56
      go_wp2
      go_returns
      exact ⟨rfl, by go_grown⟩
theorem dataAt_ok (s : Gm) (w : World) (h : s.ok) :
    Calls Tryz.prog 85 #[.agg #[.int .i64 s.g, .int .i64 s.i, .int .i64 s.d]] w fun e w' => e = .returned (.int .i64 (2 + s.i)) ∧ Below w.heap.size w w' := by
  obtain ⟨h0, h1, h2, h3, h4, h5⟩ := h
  obtain ⟨g, i, d⟩ := s
  simp only at h0 h1 h2 h3 h4 h5
  go_enter Tryz.func85, Tryz.ntmps85
  go_wp2
  go_returns
  exact ⟨rfl, by go_grown⟩
theorem Gat.held {W : World} {b : Nat} {s : Gm} (h : Gat W b s) (w' : World) (k : Below W.heap.size W w') :
    Below W.heap.size W w' ∧ w'.cell? ⟨b, 0, none⟩ = some (.int .i64 s.g) ∧ w'.cell? ⟨b, 1, none⟩ = some (.int .i64 s.i) ∧ w'.cell? ⟨b, 2, none⟩ = some (.int .i64 s.d) :=
  ⟨k, (h.later k).c0, (h.later k).c1, (h.later k).c2⟩
theorem below_made (w : World) (o : Obj) : Below w.heap.size w (w.alloc o) := (Below.refl _ _).alloc (Nat.le_refl _) _
theorem span_ok (s : Gm) (w : World) (h : s.ok) :
    Calls Tryz.prog 61 #[.agg #[.int .i64 s.g, .int .i64 s.i, .int .i64 s.d]] w fun e w' => e = .returned (.int .i64 s.span) ∧ Below w.heap.size w w' := by
  have hh := h
  obtain ⟨h0, h1, h2, h3, h4, h5⟩ := hh
  unfold Gm.span
  have hA := Gat.made w s
  have bW := below_made w (.cells #[.int .i64 s.g, .int .i64 s.i, .int .i64 s.d] 43)
  go_enter Tryz.func61, Tryz.ntmps61
  go_wp2_with fail
  generalize w.alloc (.cells #[.int .i64 s.g, .int .i64 s.i, .int .i64 s.d] 43) = W at *
  have hS := hA.held
  have ew : IntKind.i64.wrap (2 + s.i + s.d) = 2 + s.i + s.d := by rw [IntKind.wrap_i64]; omega
  go_region_held3 (fun w' => Below W.heap.size W w' ∧ w'.cell? ⟨w.heap.size, 0, none⟩ = some (.int .i64 s.g) ∧ w'.cell? ⟨w.heap.size, 1, none⟩ = some (.int .i64 s.i) ∧ w'.cell? ⟨w.heap.size, 2, none⟩ = some (.int .i64 s.d))
    (first | assumption | exact hS _ (Below.refl _ _).drew | exact hS _ (bnext (And.left (by assumption)) b1 (Nat.le_refl _)))
    (first
    | (go_at_call 85; refine (dataAt_ok s _ h).mono ?_; rintro e w1 ⟨rfl, b1⟩))
  go_wp2
  go_returns
  exact ⟨rfl, bnext bW (And.left (by assumption)) (Nat.le_refl _)⟩
theorem groupInodes_ok (s : Gm) (w : World) (h1 : 0 ≤ s.i) (h2 : s.i ≤ 8) :
    Calls Tryz.prog 35 #[.agg #[.int .i64 s.g, .int .i64 s.i, .int .i64 s.d]] w fun e w' => e = .returned (.int .i64 (s.i * 3)) ∧ Below w.heap.size w w' := by
  obtain ⟨g, i, d⟩ := s
  simp only at h1 h2
  go_enter Tryz.func35, Tryz.ntmps35
  go_wp2
  go_returns
  exact ⟨rfl, by go_grown⟩
theorem start_ok (s : Gm) (k : Int) (w : World) (h : s.ok) (k0 : 0 ≤ k) (k1 : k ≤ 8) :
    Calls Tryz.prog 36 #[.agg #[.int .i64 s.g, .int .i64 s.i, .int .i64 s.d], .int .i64 k] w fun e w' => e = .returned (.int .i64 (2 + k * s.span)) ∧ Below w.heap.size w w' := by
  have hB := Gm.prodB h k0 k1
  obtain ⟨p0, p1⟩ := hB
  have hS := Gm.spanB h
  obtain ⟨q0, q1⟩ := hS
  go_enter Tryz.func36, Tryz.ntmps36
  go_wp2_with fail
  refine (span_ok s _ h).mono ?_
  rintro e w1 ⟨rfl, b1⟩
  go_wp2
  go_returns
  exact ⟨rfl, ((Below.refl _ _).alloc (Nat.le_refl _) _).trans (b1.mono (by simp))⟩
theorem gamong_any (i n : Int) (w : World) :
    Calls Tryz.prog 128 #[.int .i64 i, .int .i64 n] w fun e w' => e = .returned (.bool (decide (0 ≤ i ∧ i < n))) ∧ w = w' := by
  by_cases h0 : 0 ≤ i
  · by_cases h1 : i < n
    · rw [decide_eq_true ⟨h0, h1⟩]
      go_enter Tryz.func128, Tryz.ntmps128
      go_wp2
      go_returns
      exact ⟨rfl, rfl⟩
    · rw [decide_eq_false (fun h => h1 h.2)]
      go_enter Tryz.func128, Tryz.ntmps128
      go_wp2
      go_returns
      exact ⟨rfl, rfl⟩
  · rw [decide_eq_false (fun h => h0 h.1)]
    go_enter Tryz.func128, Tryz.ntmps128
    go_wp2
    go_returns
    exact ⟨rfl, rfl⟩
theorem check_anyG (s : Gm) (w : World) :
    Calls Tryz.prog 109 #[.agg #[.int .i64 s.g, .int .i64 s.i, .int .i64 s.d]] w fun e w' => e = .returned (.int .i64 s.err) ∧ Below w.heap.size w w' := by
  by_cases h : s.ok
  · have e : s.err = 0 := if_pos h
    rw [e]; clear e
    have hg : ¬ s.g = 0 := by unfold Gm.ok at h; omega
    go_enter Tryz.func109, Tryz.ntmps109
    go_wp2_with fail
    refine (allowed_ok s _ h).mono ?_
    rintro e w1 ⟨rfl, b1⟩
    go_wp2
    go_returns
    exact ⟨rfl, bnext (below_made _ _) b1 (Nat.le_refl _)⟩
  · have e : s.err = 2 := if_neg h
    rw [e]; clear e
    go_enter Tryz.func109, Tryz.ntmps109
    go_wp2_with fail
    refine (allowed_no s _ h).mono ?_
    rintro e w1 ⟨rfl, b1⟩
    go_wp2
    go_returns
    exact ⟨rfl, bnext (below_made _ _) b1 (Nat.le_refl _)⟩
theorem total_any (s : Gm) (w : World) :
    Calls Tryz.prog 79 #[.agg #[.int .i64 s.g, .int .i64 s.i, .int .i64 s.d]] w fun e w' => e = .returned (.int .i64 s.total) ∧ Below w.heap.size w w' := by
  have hA := Gat.made w s
  have bW := below_made w (.cells #[.int .i64 s.g, .int .i64 s.i, .int .i64 s.d] 43)
  by_cases h : s.ok
  · have e : s.total = 2 + s.g * s.span := if_pos h
    rw [e]; clear e
    have e2 : s.err = 0 := if_pos h
    have hc := check_anyG s
    rw [e2] at hc; clear e2
    go_enter Tryz.func79, Tryz.ntmps79
    go_wp2_with fail
    refine (hc _).mono ?_
    rintro e w1 ⟨rfl, b1⟩
    obtain ⟨c0, c1, c2⟩ := hA.later b1
    go_wp2_with fail
    refine (start_ok s _ _ h (by unfold Gm.ok at h; omega) (by unfold Gm.ok at h; omega)).mono ?_
    rintro e w2 ⟨rfl, b2⟩
    go_wp2
    go_returns
    exact ⟨rfl, bnext (bnext bW b1 (Nat.le_refl _)) b2 (Nat.le_refl _)⟩
  · have e : s.total = 0 := if_neg h
    rw [e]; clear e
    have e2 : s.err = 2 := if_neg h
    have hc := check_anyG s
    rw [e2] at hc; clear e2
    go_enter Tryz.func79, Tryz.ntmps79
    go_wp2_with fail
    refine (hc _).mono ?_
    rintro e w1 ⟨rfl, b1⟩
    go_wp2
    go_returns
    exact ⟨rfl, bnext bW b1 (Nat.le_refl _)⟩
theorem rtotal_any (s : Gm) (w : World) :
    Calls Tryz.prog 30 #[.agg #[.int .i64 s.g, .int .i64 s.i, .int .i64 s.d]] w fun e w' => e = .returned (.int .i64 s.total) ∧ Below w.heap.size w w' := by
  have hA := Gat.made w s
  have bW := below_made w (.cells #[.int .i64 s.g, .int .i64 s.i, .int .i64 s.d] 43)
  by_cases h : s.ok
  · have e : s.total = 2 + s.g * (2 + s.i + s.d) := if_pos h
    rw [e]; clear e
    have e2 : s.err = 0 := if_pos h
    have hc := rcheck_anyG s
    rw [e2] at hc; clear e2
    have p := Gm.prodB h (k := s.g) (by unfold Gm.ok at h; omega) (by unfold Gm.ok at h; omega)
    unfold Gm.span at p
    obtain ⟨p0, p1⟩ := p
    have hh := h
    obtain ⟨h0, h1, h2, h3, h4, h5⟩ := hh
    go_enter Tryz.func30, Tryz.ntmps30
    go_wp2_with fail
    refine (hc _).mono ?_
    rintro e w1 ⟨rfl, b1⟩
    obtain ⟨c0, c1, c2⟩ := hA.later b1
    go_wp2
    go_returns
    exact ⟨rfl, bnext bW b1 (Nat.le_refl _)⟩
  · have e : s.total = 0 := if_neg h
    rw [e]; clear e
    have e2 : s.err = 2 := if_neg h
    have hc := rcheck_anyG s
    rw [e2] at hc; clear e2
    go_enter Tryz.func30, Tryz.ntmps30
    go_wp2_with fail
    refine (hc _).mono ?_
    rintro e w1 ⟨rfl, b1⟩
    go_wp2
    go_returns
    exact ⟨rfl, bnext bW b1 (Nat.le_refl _)⟩
theorem frozen_later {w w' : World} {b i : Nat} (k : Below w.heap.size w w') (hb : b < w.heap.size) (h : w.frozen? ⟨b, i, none⟩ = false) : w'.frozen? ⟨b, i, none⟩ = false := by
  have e := k.block b hb
  unfold World.frozen? at h ⊢
  simp only at h ⊢
  rw [e]; exact h
theorem inodes_any (s : Gm) (w : World) :
    Calls Tryz.prog 17 #[.agg #[.int .i64 s.g, .int .i64 s.i, .int .i64 s.d]] w fun e w' => e = .returned (.int .i64 s.inodes) ∧ Below w.heap.size w w' := by
  obtain ⟨t, ht, hal, hi0, hi1, hp⟩ : ∃ t : Gm, t.g * (t.i * 3) = s.inodes ∧ (∀ w, Calls Tryz.prog 44 #[.agg #[.int .i64 s.g, .int .i64 s.i, .int .i64 s.d]] w fun e w' => e = .returned (.agg #[.int .i64 t.g, .int .i64 t.i, .int .i64 t.d]) ∧ Below w.heap.size w w') ∧ 0 ≤ t.i ∧ t.i ≤ 8 ∧ (0 ≤ t.g * (t.i * 3) ∧ t.g * (t.i * 3) ≤ 192) := by
    unfold Gm.inodes
    by_cases h : s.ok
    · refine ⟨s, (if_pos h).symm, fun w => allowed_ok s w h, by have := h.2.2.1; omega, h.2.2.2.1, Gm.inoB h⟩
    · exact ⟨⟨0, 0, 0⟩, by rw [if_neg h]; rfl, fun w => allowed_no s w h, by decide, by decide, by decide⟩
  have hA := Gat.made w s
  have hf : ∀ i, (w.alloc (.cells #[.int .i64 s.g, .int .i64 s.i, .int .i64 s.d] 43)).frozen? ⟨w.heap.size, i, none⟩ = false := fun i => by simp [go_sem]
  have bW := below_made w (.cells #[.int .i64 s.g, .int .i64 s.i, .int .i64 s.d] 43)
  rw [← ht]; clear ht
  obtain ⟨p0, p1⟩ := hp
  go_enter Tryz.func17, Tryz.ntmps17
  go_wp2_with fail
  refine (hal _).mono ?_
  rintro e w1 ⟨rfl, b1⟩
  obtain ⟨c0, c1, c2⟩ := hA.later b1
  have f0 := frozen_later b1 hA.lt (hf 0)
  have f1 := frozen_later b1 hA.lt (hf 1)
  have f2 := frozen_later b1 hA.lt (hf 2)
  go_wp2_with fail
  have hT : Gat (((w1.setCell ⟨w.heap.size, 0, none⟩ (.int .i64 t.g)).setCell ⟨w.heap.size, 1, none⟩ (.int .i64 t.i)).setCell ⟨w.heap.size, 2, none⟩ (.int .i64 t.d)) w.heap.size t := by
    constructor <;> simp [World.cell?_setCell_same, World.cell?_setCell_other, c0, c1, c2]
  have bT : Below w.heap.size w (((w1.setCell ⟨w.heap.size, 0, none⟩ (.int .i64 t.g)).setCell ⟨w.heap.size, 1, none⟩ (.int .i64 t.i)).setCell ⟨w.heap.size, 2, none⟩ (.int .i64 t.d)) := by
    have := bnext bW b1 (Nat.le_refl _)
    exact ((this.setCell (Nat.le_refl _) _).setCell (Nat.le_refl _) _).setCell (Nat.le_refl _) _
  generalize ((w1.setCell ⟨w.heap.size, 0, none⟩ (.int .i64 t.g)).setCell ⟨w.heap.size, 1, none⟩ (.int .i64 t.i)).setCell ⟨w.heap.size, 2, none⟩ (.int .i64 t.d) = W at *
  clear c0 c1 c2 f0 f1 f2 hA hf
  have hS := hT.held
  have ew : IntKind.i64.wrap (t.g * (t.i * 3)) = t.g * (t.i * 3) := by rw [IntKind.wrap_i64]; omega
  go_region_held3 (fun w' => Below W.heap.size W w' ∧ w'.cell? ⟨w.heap.size, 0, none⟩ = some (.int .i64 t.g) ∧ w'.cell? ⟨w.heap.size, 1, none⟩ = some (.int .i64 t.i) ∧ w'.cell? ⟨w.heap.size, 2, none⟩ = some (.int .i64 t.d))
    (first | assumption | exact hS _ (Below.refl _ _).drew | exact hS _ (bnext (And.left (by assumption)) b2 (Nat.le_refl _)))
    (first
    | (go_at_call 35; refine (groupInodes_ok t _ hi0 hi1).mono ?_; rintro e w2 ⟨rfl, b2⟩))
  go_wp2
  go_returns
  exact ⟨rfl, bnext bT (And.left (by assumption)) (Nat.le_refl _)⟩
abbrev Gm.hasI (s : Gm) (n : Int) : Prop := s.ok ∧ 1 ≤ n ∧ n ≤ s.inodes
def Gm.ierr (s : Gm) (n : Int) : Int := if s.hasI n then 0 else 2
def Gm.grp (s : Gm) (n : Int) : Int := if s.hasI n then (n - 1) / (s.i * 3) else 0
def Gm.idx (s : Gm) (n : Int) : Int := if s.hasI n then (n - 1) % (s.i * 3) else 0
def Gm.slt (s : Gm) (n : Int) : Int := s.idx n % 3
def Gm.sec (s : Gm) (n : Int) : Int := if s.hasI n then 2 + s.grp n * s.span + 2 + s.idx n / 3 else 0
theorem Gm.inoF {s : Gm} {n : Int} (h : s.hasI n) : 0 ≤ s.grp n ∧ s.grp n < s.g ∧ 0 ≤ s.idx n ∧ s.idx n < s.i * 3 ∧ (n - 1).tdiv (s.i * 3) = s.grp n ∧ (n - 1).tmod (s.i * 3) = s.idx n ∧ s.grp n * (s.i * 3) + s.idx n = n - 1 := by
  have e1 : s.grp n = (n - 1) / (s.i * 3) := if_pos h
  have e2 : s.idx n = (n - 1) % (s.i * 3) := if_pos h
  have e3 : s.inodes = s.g * (s.i * 3) := if_pos h.1
  obtain ⟨ho, h1, h2⟩ := h
  have hi := ho.2.2.1
  rw [e3] at h2
  rw [e1, e2]
  have q := Int.mul_ediv_add_emod (n - 1) (s.i * 3)
  refine ⟨Int.ediv_nonneg (by omega) (by omega), Int.ediv_lt_of_lt_mul (by omega) (by omega), Int.emod_nonneg _ (by omega), Int.emod_lt_of_pos _ (by omega), Int.tdiv_eq_ediv_of_nonneg (by omega), Int.tmod_eq_emod_of_nonneg (by omega), ?_⟩
  rw [Int.mul_comm]; exact q
def Zat (w : World) (b k : Nat) : Prop := ∀ i, i < k → w.cell? ⟨b, i, none⟩ = some (.int .i64 0) ∧ w.frozen? ⟨b, i, none⟩ = false
theorem Zat.later {w w' : World} {b k : Nat} (h : Zat w b k) (y : Below w.heap.size w w') : Zat w' b k := fun i hi => by
  have hl := World.block_lt_of_cell? w ⟨b, i, none⟩ (h i hi).1
  exact ⟨by rw [y.cell (p := ⟨b, i, none⟩) hl]; exact (h i hi).1, by rw [y.frozen (p := ⟨b, i, none⟩) hl]; exact (h i hi).2⟩
theorem Zat.made4 (w : World) (t : TypeId) : Zat (w.alloc (.cells #[.int .i64 0, .int .i64 0, .int .i64 0, .int .i64 0] t)) w.heap.size 4 := fun i hi => by
  match i, hi with
  | 0, _ => exact ⟨by simp [go_sem], by simp [go_sem]⟩
  | 1, _ => exact ⟨by simp [go_sem], by simp [go_sem]⟩
  | 2, _ => exact ⟨by simp [go_sem], by simp [go_sem]⟩
  | 3, _ => exact ⟨by simp [go_sem], by simp [go_sem]⟩
theorem Zat.made3 (w : World) (t : TypeId) : Zat (w.alloc (.cells #[.int .i64 0, .int .i64 0, .int .i64 0] t)) w.heap.size 3 := fun i hi => by
  match i, hi with
  | 0, _ => exact ⟨by simp [go_sem], by simp [go_sem]⟩
  | 1, _ => exact ⟨by simp [go_sem], by simp [go_sem]⟩
  | 2, _ => exact ⟨by simp [go_sem], by simp [go_sem]⟩
theorem size_made (w : World) (o : Obj) : (w.alloc o).heap.size = w.heap.size + 1 := by simp
set_option maxHeartbeats 2000000 in
theorem inode_yes (s : Gm) (n : Int) (w : World) (h : s.hasI n) :
    Calls Tryz.prog 12 #[.agg #[.int .i64 s.g, .int .i64 s.i, .int .i64 s.d], .int .i64 n] w fun e w' => e = .returned (.tuple #[.agg #[.int .i64 (s.sec n), .int .i64 (s.slt n), .int .i64 (s.grp n), .int .i64 (s.idx n)], .int .i64 0]) ∧ Below w.heap.size w w' := by
  have hA : Gat ((w.alloc (.cells #[.int .i64 s.g, .int .i64 s.i, .int .i64 s.d] 43)).alloc (.cells #[.int .i64 0, .int .i64 0, .int .i64 0, .int .i64 0] 57)) w.heap.size s := (Gat.made w s).later (below_made _ _)
  have hZ : Zat ((w.alloc (.cells #[.int .i64 s.g, .int .i64 s.i, .int .i64 s.d] 43)).alloc (.cells #[.int .i64 0, .int .i64 0, .int .i64 0, .int .i64 0] 57)) (w.heap.size + 1) 4 := by
    have := Zat.made4 (w.alloc (.cells #[.int .i64 s.g, .int .i64 s.i, .int .i64 s.d] 43)) 57
    rwa [size_made] at this
  have bW : Below w.heap.size w ((w.alloc (.cells #[.int .i64 s.g, .int .i64 s.i, .int .i64 s.d] 43)).alloc (.cells #[.int .i64 0, .int .i64 0, .int .i64 0, .int .i64 0] 57)) := bnext (below_made _ _) (below_made _ _) (Nat.le_refl _)
  obtain ⟨g0, g1, x0, x1, ed, em, _⟩ := Gm.inoF h
  obtain ⟨ho, n1, n2⟩ := h
  have es : s.sec n = 2 + s.grp n * s.span + 2 + s.idx n / 3 := if_pos ⟨ho, n1, n2⟩
  have et : s.slt n = s.idx n % 3 := rfl
  rw [es, et]; clear es et
  have i1 := ho.2.2.1
  have i2 := ho.2.2.2.1
  have i3 := ho.2.1
  have nB : s.inodes ≤ 192 := by unfold Gm.inodes; rw [if_pos ho]; exact (Gm.inoB ho).2
  have hB := Gm.prodB ho g0 (by omega)
  obtain ⟨p0, p1⟩ := hB
  generalize s.grp n = Y at *
  generalize s.idx n = X at *
  have d3 : X.tdiv 3 = X / 3 := Int.tdiv_eq_ediv_of_nonneg x0
  have m3 : X.tmod 3 = X % 3 := Int.tmod_eq_emod_of_nonneg x0
  have nz : ¬ s.i * 3 = 0 := by omega
  go_enter Tryz.func12, Tryz.ntmps12
  go_wp2_with fail
  generalize (w.alloc (.cells #[.int .i64 s.g, .int .i64 s.i, .int .i64 s.d] 43)).alloc (.cells #[.int .i64 0, .int .i64 0, .int .i64 0, .int .i64 0] 57) = W0 at *
  refine (inodes_any s _).mono ?_
  rintro e W ⟨rfl, b1⟩
  have bW1 := bnext bW b1 (Nat.le_refl _)
  have hA1 := hA.later b1
  have hZ1 := hZ.later b1
  clear hA hZ bW b1
  go_wp2_with fail
  have hS := hA1.held
  have _t := ho
  have ew : IntKind.i64.wrap Y = Y := by rw [IntKind.wrap_i64]; omega
  go_region_held3 (fun w' => Below W.heap.size W w' ∧ w'.cell? ⟨w.heap.size, 0, none⟩ = some (.int .i64 s.g) ∧ w'.cell? ⟨w.heap.size, 1, none⟩ = some (.int .i64 s.i) ∧ w'.cell? ⟨w.heap.size, 2, none⟩ = some (.int .i64 s.d))
    (first | assumption | exact hS _ (Below.refl _ _).drew | exact hS _ (bnext (And.left (by assumption)) b3 (Nat.le_refl _)) | exact hS _ (bnext (And.left (by assumption)) b2 (Nat.le_refl _)))
    (first
    | (go_at_call 35; clear _t; refine (groupInodes_ok s _ (by omega) (by omega)).mono ?_; rintro e w2 ⟨rfl, b2⟩)
    | (go_at_call 35; refine (groupInodes_ok s _ (by omega) (by omega)).mono ?_; rintro e w3 ⟨rfl, b3⟩))
  have hB3 : Below W.heap.size W w3 := And.left (by assumption)
  have hA3 := hA1.later hB3
  have hZ3 := hZ1.later hB3
  have bW3 := bnext bW1 hB3 (Nat.le_refl _)
  clear hS hA1 hZ1 b2 b3 hB3 bW1
  have c0 := hA3.c0
  have c1 := hA3.c1
  have c2 := hA3.c2
  go_wp2_with fail
  refine (start_ok s _ _ ho g0 (by omega)).mono ?_
  rintro e w4 ⟨rfl, b4⟩
  obtain ⟨y0, z0⟩ := hZ3.later b4 0 (by decide)
  obtain ⟨y1, z1⟩ := hZ3.later b4 1 (by decide)
  obtain ⟨y2, z2⟩ := hZ3.later b4 2 (by decide)
  obtain ⟨y3, z3⟩ := hZ3.later b4 3 (by decide)
  have bW4 := bnext bW3 b4 (Nat.le_refl _)
  clear c0 c1 c2 hA3 hZ3 b4 bW3
  have q3 : X / 3 ≤ 8 := by omega
  have q4 : 0 ≤ X / 3 := by omega
  go_wp2
  refine bodyPost_ret (v := .tuple #[.agg #[.int .i64 (2 + Y * s.span + 2 + X / 3), .int .i64 (X % 3), .int .i64 Y, .int .i64 X], .int .i64 0]) (by simp [results, Tryz.results12, go_sem, World.cell?_setCell_same, World.cell?_setCell_other, y0, y1, y2, y3]) rfl ⟨rfl, ?_⟩
  exact (((bW4.setCell (by simp) _).setCell (by simp) _).setCell (by simp) _).setCell (by simp) _
set_option maxHeartbeats 2000000 in
theorem inode_no (s : Gm) (n : Int) (w : World) (h : ¬ s.hasI n) :
    Calls Tryz.prog 12 #[.agg #[.int .i64 s.g, .int .i64 s.i, .int .i64 s.d], .int .i64 n] w fun e w' => e = .returned (.tuple #[.agg #[.int .i64 0, .int .i64 0, .int .i64 0, .int .i64 0], .int .i64 2]) ∧ Below w.heap.size w w' := by
  by_cases n0 : n < 1
  · go_enter Tryz.func12, Tryz.ntmps12
    go_wp2
    refine bodyPost_ret (v := .tuple #[.agg #[.int .i64 0, .int .i64 0, .int .i64 0, .int .i64 0], .int .i64 2]) (by simp [results, Tryz.results12, go_sem]) rfl ⟨rfl, ?_⟩
    go_grown
  · have n1 : s.inodes < n := by
      by_cases ho : s.ok
      · have : ¬ (1 ≤ n ∧ n ≤ s.inodes) := fun x => h ⟨ho, x⟩
        omega
      · have : s.inodes = 0 := if_neg ho
        omega
    have hZ : Zat ((w.alloc (.cells #[.int .i64 s.g, .int .i64 s.i, .int .i64 s.d] 43)).alloc (.cells #[.int .i64 0, .int .i64 0, .int .i64 0, .int .i64 0] 57)) (w.heap.size + 1) 4 := by
      have := Zat.made4 (w.alloc (.cells #[.int .i64 s.g, .int .i64 s.i, .int .i64 s.d] 43)) 57
      rwa [size_made] at this
    have bW : Below w.heap.size w ((w.alloc (.cells #[.int .i64 s.g, .int .i64 s.i, .int .i64 s.d] 43)).alloc (.cells #[.int .i64 0, .int .i64 0, .int .i64 0, .int .i64 0] 57)) := bnext (below_made _ _) (below_made _ _) (Nat.le_refl _)
    go_enter Tryz.func12, Tryz.ntmps12
    go_wp2_with fail
    generalize (w.alloc (.cells #[.int .i64 s.g, .int .i64 s.i, .int .i64 s.d] 43)).alloc (.cells #[.int .i64 0, .int .i64 0, .int .i64 0, .int .i64 0] 57) = W0 at *
    refine (inodes_any s _).mono ?_
    rintro e W ⟨rfl, b4⟩
    obtain ⟨y0, z0⟩ := hZ.later b4 0 (by decide)
    obtain ⟨y1, z1⟩ := hZ.later b4 1 (by decide)
    obtain ⟨y2, z2⟩ := hZ.later b4 2 (by decide)
    obtain ⟨y3, z3⟩ := hZ.later b4 3 (by decide)
    have bW4 := bnext bW b4 (Nat.le_refl _)
    clear hZ b4 bW
    go_wp2
    refine bodyPost_ret (v := .tuple #[.agg #[.int .i64 0, .int .i64 0, .int .i64 0, .int .i64 0], .int .i64 2]) (by simp [results, Tryz.results12, go_sem, World.cell?_setCell_same, World.cell?_setCell_other, y0, y1, y2, y3]) rfl ⟨rfl, ?_⟩
    exact (((bW4.setCell (by simp) _).setCell (by simp) _).setCell (by simp) _).setCell (by simp) _
theorem inode_any (s : Gm) (n : Int) (w : World) :
    Calls Tryz.prog 12 #[.agg #[.int .i64 s.g, .int .i64 s.i, .int .i64 s.d], .int .i64 n] w fun e w' => e = .returned (.tuple #[.agg #[.int .i64 (s.sec n), .int .i64 (s.slt n), .int .i64 (s.grp n), .int .i64 (s.idx n)], .int .i64 (s.ierr n)]) ∧ Below w.heap.size w w' := by
  by_cases h : s.hasI n
  · have e : s.ierr n = 0 := if_pos h
    rw [e]; exact inode_yes s n w h
  · have e : s.ierr n = 2 := if_neg h
    have e1 : s.sec n = 0 := if_neg h
    have e2 : s.grp n = 0 := if_neg h
    have e3 : s.idx n = 0 := if_neg h
    have e4 : s.slt n = 0 := by unfold Gm.slt; rw [e3]; rfl
    rw [e, e1, e2, e3, e4]; exact inode_no s n w h
end Go.Proofs.YtgdnhkdfcjpdiaaGreatDoor
