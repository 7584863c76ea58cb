/-
  Texts of my own, joined: no statement is proved here.
-/
import Derived.Lib.Walk
import Derived.Deep.RegionLaw
import Derived.OpenShut
import Derived.Shelf.SlIterI.Sorted
import Derived.Shelf.SlIterI.Keys
import Derived.Test.YtennaimdffohfaaGreatDoorJbc
set_option linter.unusedSimpArgs false
set_option linter.unusedVariables false
namespace Go.Proofs.YtennaimdffohfaaGreatDoor
open Go.ChangeShapes Go.WideShapes Go.ChangeAt Go.RowKit
def nr (last : Nat) (x : Int) : Int := (last : Int) - (among x last : Nat)
end Go.Proofs.YtennaimdffohfaaGreatDoor
