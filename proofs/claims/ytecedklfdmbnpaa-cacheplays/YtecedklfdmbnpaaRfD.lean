/-
  What Load and Crash of the document's disk leave: no statement is proved here.
-/
import Derived.Test.YtecedklfdmbnpaaRfC
namespace Go.Proofs.Ytecedklfdmbnpaa
open Go.ChangeShapes Go.WideShapes Go.ChangeAt Go.RowKit
set_option linter.unusedVariables false

def stOf (l : List Blk) (j : Int) : Blk := if 0 ≤ j then l.getD j.toNat Blk.zero else Blk.zero
theorem stOf_nat (l : List Blk) (k : Nat) : stOf l k = l.getD k Blk.zero := by unfold stOf; rw [if_pos (by omega), Int.toNat_natCast]
def DS.load (S : DS) (l : List Blk) : DS := if l.length = S.n then { S with st := stOf l, wt := fun _ => [] } else S
def loadErr (S : DS) (l : List Blk) : Int := if l.length = S.n then 0 else 2
theorem stOf_out {S : DS} {l : List Blk} (h : l.length = S.n) (j : Int) (hj : ¬ S.inn j) : stOf l j = Blk.zero := by
  unfold stOf DS.inn at *
  split
  · rw [List.getD_eq_getElem?_getD, List.getElem?_eq_none (by omega)]; rfl
  · rfl

end Go.Proofs.Ytecedklfdmbnpaa
