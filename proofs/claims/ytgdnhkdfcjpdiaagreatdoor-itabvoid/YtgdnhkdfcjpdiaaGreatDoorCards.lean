/-
  DERIVED. GIVEN WITH THE SEED: THE CARDS: each row of YtgdnhkdfcjpdiaaGreatDoorRows.lean that lists a variable, with what it lists TIED to the program's text (the seventh form; the later family's looks); each row that meets fmt, with fmt's text TOLD by the authors' own Lean function (tested against real Go, not proved from fmt's source: count such statements apart). THE CARD IS WHAT COUNTS. Prove the row's statement (the work); the ties are given (YtgdnhkdfcjpdiaaGreatDoorTie.lean); close each card by the builder's one call (the guide's Derived/Test/ToyasCard.lean, 'card_holds'). Laid BY PROGRAM, IN A SANDBOX (cutbox-door.mjs). By AI agents, Wed Nov 11 2026. No macro, syntax, notation, axiom, sorry.
-/
import Derived.Test.YtgdnhkdfcjpdiaaGreatDoorRows
import GoSem.ClaimSeven
namespace Go.Proofs.YtgdnhkdfcjpdiaaGreatDoor
namespace Rows

/-- THE TIED CARD OF 'scupperlaw19.ItabVoid'. -/
def itabVoidCard : Claim7 := { stood := { row := itabVoidRow, standIns := [], harness := (true, "d9ab723083a4830e4949d0dd40c300c97bbe32a8ef1b6b179e44400d772d60df"), looks := false }, kinds := [], alts := [], laidByText := true, laidKinds := [.data, .data], laidTests := true, laidLooks := .later }
def ItabVoidCardSaid : Prop := Claim7.holds Tryz.pinned (.plain (OpenSpec.ofChange itabVoidSpec)) itabVoidCard

/-- THE SECOND FORM's CARD OF 'scupperlaw19.ItabVoid'. -/
def itabVoidUptoCard : Claim7 := { stood := { row := itabVoidUptoRow, standIns := [], harness := (true, "d9ab723083a4830e4949d0dd40c300c97bbe32a8ef1b6b179e44400d772d60df"), looks := false }, kinds := [], alts := [], laidByText := true, laidKinds := [.data, .data], laidTests := true, laidLooks := .later }
def ItabVoidUptoCardSaid : Prop := Claim7.holds Tryz.pinned (.plain (OpenSpec.upto itabVoidSpec)) itabVoidUptoCard
end Rows
end Go.Proofs.YtgdnhkdfcjpdiaaGreatDoor
