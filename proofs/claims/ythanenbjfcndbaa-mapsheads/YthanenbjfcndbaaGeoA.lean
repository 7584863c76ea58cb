/-
  What the small functions of layer 6 return, for every input: no statement is proved here.
-/
import Derived.Test.YthanenbjfcndbaaRows
import Derived.Test.YthanenbjfcndbaaPlain2
import Derived.Laws.ResultCell
namespace Go.Proofs.Ythanenbjfcndbaa
open Go.ChangeShapes Go.WideShapes Go.ChangeAt Go.RowKit
set_option linter.unusedVariables false

/-- A shape. -/
structure Gm where
  g : Int
  i : Int
  d : Int
abbrev Gm.ok (s : Gm) : Prop := 1 ≤ s.g ∧ s.g ≤ 8 ∧ 1 ≤ s.i ∧ s.i ≤ 8 ∧ 4 ≤ s.d ∧ s.d ≤ 128
def Gm.err (s : Gm) : Int := if s.ok then 0 else 2
/-- How many sectors a group has. -/
def Gm.span (s : Gm) : Int := 2 + s.i + s.d
def Gm.total (s : Gm) : Int := if s.ok then 2 + s.g * s.span else 0
def Gm.inodes (s : Gm) : Int := if s.ok then s.g * (s.i * 3) else 0
/-- Why a shape may not be: the first that is wrong. -/
theorem Gm.bad {s : Gm} (h : ¬ s.ok) : s.g < 1 ∨ (1 ≤ s.g ∧ 8 < s.g) ∨ (1 ≤ s.g ∧ s.g ≤ 8 ∧ s.i < 1) ∨ (1 ≤ s.g ∧ s.g ≤ 8 ∧ 1 ≤ s.i ∧ 8 < s.i) ∨ (1 ≤ s.g ∧ s.g ≤ 8 ∧ 1 ≤ s.i ∧ s.i ≤ 8 ∧ s.d < 4) ∨ (1 ≤ s.g ∧ s.g ≤ 8 ∧ 1 ≤ s.i ∧ s.i ≤ 8 ∧ 4 ≤ s.d ∧ 128 < s.d) := by
  unfold Gm.ok at h; omega
theorem Gm.spanB {s : Gm} (h : s.ok) : 7 ≤ s.span ∧ s.span ≤ 138 := by unfold Gm.ok at h; unfold Gm.span; omega
theorem Gm.prodB {s : Gm} (h : s.ok) {k : Int} (h0 : 0 ≤ k) (h1 : k ≤ 8) : 0 ≤ k * s.span ∧ k * s.span ≤ 1104 := by
  have := Gm.spanB h
  exact ⟨Int.mul_nonneg h0 (by omega), Int.le_trans (Int.mul_le_mul h1 this.2 (by omega) (by omega)) (by decide)⟩
theorem Gm.inoB {s : Gm} (h : s.ok) : 0 ≤ s.g * (s.i * 3) ∧ s.g * (s.i * 3) ≤ 192 := by
  unfold Gm.ok at h
  exact ⟨Int.mul_nonneg (by omega) (by omega), Int.le_trans (Int.mul_le_mul h.2.1 (show s.i * 3 ≤ 24 by omega) (by omega) (by omega)) (by decide)⟩

/-- A shape lies in the block b. -/
structure Gat (w : World) (b : Nat) (s : Gm) : Prop where
  c0 : w.cell? ⟨b, 0, none⟩ = some (.int .i64 s.g)
  c1 : w.cell? ⟨b, 1, none⟩ = some (.int .i64 s.i)
  c2 : w.cell? ⟨b, 2, none⟩ = some (.int .i64 s.d)
theorem Gat.lt {w : World} {b : Nat} {s : Gm} (h : Gat w b s) : b < w.heap.size := World.block_lt_of_cell? w ⟨b, 0, none⟩ h.c0
theorem Gat.later {w w' : World} {b : Nat} {s : Gm} (h : Gat w b s) (k : Below w.heap.size w w') : Gat w' b s :=
  ⟨by rw [k.cell (p := ⟨b, 0, none⟩) h.lt]; exact h.c0, by rw [k.cell (p := ⟨b, 1, none⟩) h.lt]; exact h.c1, by rw [k.cell (p := ⟨b, 2, none⟩) h.lt]; exact h.c2⟩
theorem Gat.made (w : World) (s : Gm) : Gat (w.alloc (.cells #[.int .i64 s.g, .int .i64 s.i, .int .i64 s.d] 36)) w.heap.size s := by
  constructor <;> simp [go_sem]

set_option maxHeartbeats 2000000 in
theorem allowed_ok (s : Gm) (w : World) (h : s.ok) :
    Calls Try.prog 50 #[.agg #[.int .i64 s.g, .int .i64 s.i, .int .i64 s.d]] w fun e w' => e = .returned (.agg #[.int .i64 s.g, .int .i64 s.i, .int .i64 s.d]) ∧ Below w.heap.size w w' := by
  obtain ⟨h0, h1, h2, h3, h4, h5⟩ := h
  obtain ⟨g, i, d⟩ := s
  simp only at h0 h1 h2 h3 h4 h5
  go_enter Try.func50, Try.ntmps50
  go_wp2
  go_returns
  exact ⟨rfl, by go_grown⟩
set_option maxHeartbeats 2000000 in
theorem allowed_no (s : Gm) (w : World) (h : ¬ s.ok) :
    Calls Try.prog 50 #[.agg #[.int .i64 s.g, .int .i64 s.i, .int .i64 s.d]] w fun e w' => e = .returned (.agg #[.int .i64 0, .int .i64 0, .int .i64 0]) ∧ Below w.heap.size w w' := by
  obtain ⟨g, i, d⟩ := s
  rcases Gm.bad h with h | ⟨h0, h⟩ | ⟨h0, h1, h⟩ | ⟨h0, h1, h2, h⟩ | ⟨h0, h1, h2, h3, h⟩ | ⟨h0, h1, h2, h3, h4, h⟩
  all_goals
    go_enter Try.func50, Try.ntmps50
    go_wp2
    go_returns
    exact ⟨rfl, by go_grown⟩
set_option maxHeartbeats 2000000 in
theorem rcheck_any (s : Gm) (w : World) :
    Calls Try.prog 42 #[.agg #[.int .i64 s.g, .int .i64 s.i, .int .i64 s.d]] w fun e w' => e = .returned (.int .i64 s.err) ∧ Below w.heap.size w w' := by
  obtain ⟨g, i, d⟩ := s
  by_cases h : Gm.ok ⟨g, i, d⟩
  · have e : Gm.err ⟨g, i, d⟩ = 0 := if_pos h
    rw [e]; clear e
    obtain ⟨h0, h1, h2, h3, h4, h5⟩ := h
    simp only at h0 h1 h2 h3 h4 h5
    go_enter Try.func42, Try.ntmps42
    go_wp2
    go_returns
    exact ⟨rfl, by go_grown⟩
  · have e : Gm.err ⟨g, i, d⟩ = 2 := if_neg h
    rw [e]; clear e
    rcases Gm.bad h with h | ⟨h0, h⟩ | ⟨h0, h1, h⟩ | ⟨h0, h1, h2, h⟩ | ⟨h0, h1, h2, h3, h⟩ | ⟨h0, h1, h2, h3, h4, h⟩
    all_goals
      go_enter Try.func42, Try.ntmps42
      go_wp2
      go_returns
      exact ⟨rfl, by go_grown⟩

end Go.Proofs.Ythanenbjfcndbaa
