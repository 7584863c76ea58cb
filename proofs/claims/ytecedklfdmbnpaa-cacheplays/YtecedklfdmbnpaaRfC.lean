/-
  What Flush of the document's disk leaves: no statement is proved here.
-/
import Derived.Test.YtecedklfdmbnpaaRfB
namespace Go.Proofs.Ytecedklfdmbnpaa
open Go.ChangeShapes Go.WideShapes Go.ChangeAt Go.RowKit
set_option linter.unusedVariables false

def lft (k : Nat) : Int → Bool := fun j => !(decide (0 ≤ j ∧ j < k))
theorem part_zero (S : DS) (h : Int → Blk) : S.part h (lft 0) = S := by
  cases S with
  | mk n st wt wr =>
    simp only [DS.part, DS.mk.injEq, true_and, and_true]
    refine ⟨funext fun j => ?_, funext fun j => ?_⟩ <;>
    · have : lft 0 j = true := by unfold lft; simp; omega
      rw [if_pos this]
theorem lft_at (k : Nat) : lft k k = true := by unfold lft; simp
theorem part_next (S : DS) (h : Int → Blk) (k : Nat) : (((S.part h (lft k)).setSt k (h k)).clr k) = S.part h (lft (k + 1)) := by
  have e1 : ∀ j : Int, j ≠ k → lft (k + 1) j = lft k j := fun j hj => by
    unfold lft
    congr 1
    rw [decide_eq_decide]; push_cast; constructor <;> rintro ⟨a, b⟩ <;> exact ⟨a, by omega⟩
  have e2 : lft (k + 1) k = false := by unfold lft; simp; omega
  unfold DS.clr DS.setSt DS.part
  simp only [DS.mk.injEq, true_and, and_true]
  refine ⟨funext fun j => ?_, funext fun j => ?_⟩
  · by_cases e : j = k
    · subst e; rw [if_pos rfl, if_neg (by rw [e2]; simp)]
    · rw [if_neg e, e1 j e]
  · by_cases e : j = k
    · subst e; rw [if_pos rfl, if_neg (by rw [e2]; simp)]
    · rw [if_neg e, e1 j e]
theorem part_all {S : DS} (ok : S.ok) (h : Int → Blk) (ho : ∀ j, ¬ S.inn j → h j = Blk.zero) : S.part h (lft S.n) = { S with st := h, wt := fun _ => [] } := by
  unfold DS.part
  simp only [DS.mk.injEq, true_and, and_true]
  refine ⟨funext fun j => ?_, funext fun j => ?_⟩
  · by_cases e : S.inn j
    · rw [if_neg (by unfold lft; unfold DS.inn at e; simp; omega)]
    · rw [if_pos (by unfold lft; unfold DS.inn at e; simp; omega), ok.st j e, ho j e]
  · by_cases e : S.inn j
    · rw [if_neg (by unfold lft; unfold DS.inn at e; simp; omega)]
    · rw [if_pos (by unfold lft; unfold DS.inn at e; simp; omega), ok.wt j e]
theorem part_shown (S : DS) (h : Int → Blk) (k : Nat) : (S.part h (lft k)).shown k = S.shown k ∧ (S.part h (lft k)).wt k = S.wt k := by
  have e := lft_at k
  unfold DS.shown shownBy DS.part
  simp only [if_pos e]
  exact ⟨trivial, trivial⟩
theorem wf2048 {k : Nat} (hk : k < 2048) : (Lit.int .i64 (k : Int)).wf = true := by simp [Lit.wf, IntKind.min, IntKind.max, IntKind.bits, IntKind.signed]; omega

def DS.rflush (S : DS) (p : RS) : DS := if p.useErr = 0 then { S with st := S.shown, wt := fun _ => [] } else S
end Go.Proofs.Ytecedklfdmbnpaa
