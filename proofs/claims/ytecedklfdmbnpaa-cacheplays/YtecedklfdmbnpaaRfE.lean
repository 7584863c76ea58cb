/-
  What Crash of the document's disk leaves: no statement is proved here.
-/
import Derived.Test.YtecedklfdmbnpaaRfD
import Derived.Deep.DeepCutAuto
import Derived.Deep.CutBlock
namespace Go.Proofs.Ytecedklfdmbnpaa
open Go.ChangeShapes Go.WideShapes Go.ChangeAt Go.RowKit
set_option linter.unusedVariables false

theorem setSt_self (S : DS) (i : Int) (b : Blk) (h : S.st i = b) : S.setSt i b = S := by
  cases S with
  | mk n st wt wr =>
    simp only [DS.setSt, DS.mk.injEq, true_and, and_true]
    refine funext fun k => ?_
    split
    · rename_i e; subst e; exact h.symm
    · rfl
theorem part_st (S : DS) (h : Int → Blk) (k : Nat) : (S.part h (lft k)).st k = S.st k := by unfold DS.part; simp only [if_pos (lft_at k)]
theorem crashed_out {S : DS} (ok : S.ok) (keep : List Int) (j : Int) (hj : ¬ S.inn j) : S.crashed keep j = Blk.zero := by
  unfold DS.crashed shownBy; rw [ok.wt j hj, ok.st j hj]; simp
theorem crashed_none {S : DS} {keep : List Int} {k : Nat} (h : keptN keep k (S.wt k).length = 0) : S.crashed keep k = S.st k := by
  unfold DS.crashed shownBy; rw [h]; rfl
theorem crashed_some {S : DS} {keep : List Int} {k N : Nat} (h : keptN keep k (S.wt k).length = N) (hN : 0 < N) : S.crashed keep k = (S.wt k).getD (N - 1) Blk.zero := by
  have hle := keptN_le keep k (S.wt k).length
  unfold DS.crashed shownBy; rw [h]
  rw [getLastD_getD _ _ (by rw [List.length_take]; omega), List.length_take]
  rw [List.getD_eq_getElem?_getD, List.getD_eq_getElem?_getD, List.getElem?_take, if_pos (by omega), Nat.min_eq_left (by omega)]

end Go.Proofs.Ytecedklfdmbnpaa
