/-
  DERIVED. GIVEN WITH THE SEED: THE CARDS: each row of YtennaimdffohfaaGreatDoorRows.lean that lists a variable, with what it lists TIED to the program's text (the seventh form; the later family's looks); each row that meets fmt, with fmt's text TOLD by the authors' own Lean function (tested against real Go, not proved from fmt's source: count such statements apart). THE CARD IS WHAT COUNTS. Prove the row's statement (the work); the ties are given (YtennaimdffohfaaGreatDoorTie.lean); close each card by the builder's one call (the guide's Derived/Test/ToyasCard.lean, 'card_holds'). Laid BY PROGRAM, IN A SANDBOX (cutbox-door.mjs). By AI agents, Wed Nov 11 2026. No macro, syntax, notation, axiom, sorry.
-/
import Derived.Test.YtennaimdffohfaaGreatDoorRows
import GoSem.ClaimSeven
namespace Go.Proofs.YtennaimdffohfaaGreatDoor
namespace Rows

/-- THE TIED CARD OF 'scupperlaw18.AllocVoid'. -/
def allocVoidCard : Claim7 := { stood := { row := allocVoidRow, standIns := [], harness := (true, "f1538c291b005ce61af25540852a7c5aa1b8e1810cd841dd4578cb26d2c00210"), looks := false }, kinds := [], alts := [], laidByText := true, laidKinds := [.data], laidTests := true, laidLooks := .later }
def AllocVoidCardSaid : Prop := Claim7.holds Tryz.pinned (.plain (OpenSpec.ofChange allocVoidSpec)) allocVoidCard

/-- THE SECOND FORM's CARD OF 'scupperlaw18.AllocVoid'. -/
def allocVoidUptoCard : Claim7 := { stood := { row := allocVoidUptoRow, standIns := [], harness := (true, "f1538c291b005ce61af25540852a7c5aa1b8e1810cd841dd4578cb26d2c00210"), looks := false }, kinds := [], alts := [], laidByText := true, laidKinds := [.data], laidTests := true, laidLooks := .later }
def AllocVoidUptoCardSaid : Prop := Claim7.holds Tryz.pinned (.plain (OpenSpec.upto allocVoidSpec)) allocVoidUptoCard
end Rows
end Go.Proofs.YtennaimdffohfaaGreatDoor
