/-
  Texts of my own, joined: no statement is proved here.
-/
import Derived.WalkKit
import Derived.ProofKit
import Derived.Test.YtdnjddpfcgginaaGreatKaa
set_option linter.unusedSimpArgs false
set_option linter.unusedVariables false
namespace Go.Proofs.YtdnjddpfcgginaaGreat
open Go.ChangeShapes Go.WideShapes Go.ChangeAt Go.RowKit
def st (r:Nat):Nat:=(r / 2) ^^^ (2197175160 * (r % 2))
def sts:Nat→Nat→Nat
 | 0,r=>r
 | n+1,r=>sts n (st r)
def en (r x:Nat):Nat:=sts 8 (r ^^^ x)
end Go.Proofs.YtdnjddpfcgginaaGreat
