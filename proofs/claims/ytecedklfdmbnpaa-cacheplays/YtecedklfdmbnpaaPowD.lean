/-
  The document's supply as a function of the code's: no statement is proved here.
-/
import Derived.Test.YtecedklfdmbnpaaPowC2
namespace Go.Proofs.Ytecedklfdmbnpaa
open Go.ChangeShapes Go.WideShapes Go.ChangeAt Go.RowKit
set_option linter.unusedVariables false

/-- The document's supply that stands for the code's. -/
def ref (p : PS) : RS := ⟨if p.lim then p.left else -1, p.used, p.gone⟩
/-- In bounds, behind k calls at most. -/
def okAt (p : PS) (k : Nat) : Prop := 0 ≤ p.left ∧ p.left ≤ 9223372036854775807 ∧ 0 ≤ p.used ∧ p.used ≤ k
theorem okAt.ok {p : PS} {k : Nat} (h : okAt p k) (hk : k ≤ 100) : p.ok := by unfold okAt at h; unfold PS.ok; omega
theorem okAt.rok {p : PS} {k : Nat} (h : okAt p k) (hk : k ≤ 100) : (ref p).ok := by
  unfold okAt at h; unfold RS.ok ref; simp only; split <;> omega
theorem ref_limit (p : PS) (n : Int) : (ref p).limit n = ref (p.limit n) := by
  unfold RS.limit PS.limit; split <;> simp [ref]
theorem ref_restore (p : PS) : (ref p).restore = ref p.restore := by simp [ref, RS.restore, PS.restore]
theorem ref_down {p : PS} {k : Nat} (h : okAt p k) : (ref p).down = p.down := by
  unfold RS.down PS.down ref
  cases p.lim <;> simp
theorem ref_err {p : PS} {k : Nat} (h : okAt p k) : (ref p).useErr = p.useErr := by unfold RS.useErr PS.useErr; rw [ref_down h]
theorem ref_use {p : PS} {k : Nat} (h : okAt p k) : (ref p).use = ref p.use := by
  unfold RS.use PS.use PS.useErr
  rw [ref_down h]
  unfold okAt at h
  cases hd : p.down
  · have hz : p.lim = true → ¬ p.left = 0 := fun hl e => by unfold PS.down at hd; rw [hl, e] at hd; simp at hd
    cases hl : p.lim
    · simp [ref, PS.reckon, hl]
    · have := hz hl
      have : 0 < p.left := by omega
      simp [ref, PS.reckon, hl, this]
  · simp [ref, PS.reckon]
theorem ok_limit {p : PS} {k : Nat} (h : okAt p k) (n : Int) (hn : n ≤ 9223372036854775807) : okAt (p.limit n) (k + 1) := by
  unfold okAt at *; unfold PS.limit; split <;> (try simp only) <;> omega
theorem ok_restore {p : PS} {k : Nat} (h : okAt p k) : okAt p.restore (k + 1) := by
  unfold okAt at *; unfold PS.restore; simp only; omega
theorem ok_use {p : PS} {k : Nat} (h : okAt p k) : okAt p.use (k + 1) := by
  unfold PS.use PS.useErr
  cases hd : p.down
  · have hz : p.lim = true → ¬ p.left = 0 := fun hl e => by unfold PS.down at hd; rw [hl, e] at hd; simp at hd
    unfold okAt at *
    cases hl : p.lim
    · simp [PS.reckon, hl]; omega
    · have := hz hl
      simp [PS.reckon, hl]; omega
  · unfold okAt at *; simp [PS.reckon]; omega
theorem fresh_ref : RS.fresh = ref PS.fresh := rfl
theorem fresh_ok : okAt PS.fresh 0 := by unfold okAt; decide
end Go.Proofs.Ytecedklfdmbnpaa
