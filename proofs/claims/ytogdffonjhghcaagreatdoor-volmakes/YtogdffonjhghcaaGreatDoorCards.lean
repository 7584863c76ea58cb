/-
  DERIVED. GIVEN WITH THE SEED: THE CARDS: each row of YtogdffonjhghcaaGreatDoorRows.lean that lists a variable, with what it lists TIED to the program's text (the seventh form; the later family's looks); each row that meets fmt, with fmt's text TOLD by the authors' own Lean function (tested against real Go, not proved from fmt's source: count such statements apart). THE CARD IS WHAT COUNTS. Prove the row's statement (the work); the ties are given (YtogdffonjhghcaaGreatDoorTie.lean); close each card by the builder's one call (the guide's Derived/Test/ToyasCard.lean, 'card_holds'). Laid BY PROGRAM, IN A SANDBOX (cutbox-door.mjs). By AI agents, Wed Nov 11 2026. No macro, syntax, notation, axiom, sorry.
-/
import Derived.Test.YtogdffonjhghcaaGreatDoorRows
import GoSem.ClaimSeven
namespace Go.Proofs.YtogdffonjhghcaaGreatDoor
namespace Rows

/-- THE TIED CARD OF 'scupperlaw17.VolMakes'. -/
def volMakesCard : Claim7 := { stood := { row := volMakesRow, standIns := [], harness := (true, "6d0d4f41a5cbb07070df2ce3a655567ccd8d72e2879ab891ecdd9876f9c504fa"), looks := true }, kinds := [], alts := [], laidByText := true, laidKinds := [.data], laidTests := true, laidLooks := .later }
def VolMakesCardSaid : Prop := Claim7.holds Tryz.pinned (.plain (OpenSpec.ofChange volMakesSpec)) volMakesCard

/-- THE TIED CARD OF 'scupperlaw17.VolNow'. -/
def volNowCard : Claim7 := { stood := { row := volNowRow, standIns := [], harness := (true, "6d0d4f41a5cbb07070df2ce3a655567ccd8d72e2879ab891ecdd9876f9c504fa"), looks := true }, kinds := [], alts := [], laidByText := true, laidKinds := [.data], laidTests := true, laidLooks := .later }
def VolNowCardSaid : Prop := Claim7.holds Tryz.pinned (.plain (OpenSpec.ofChange volNowSpec)) volNowCard

/-- THE TIED CARD OF 'scupperlaw17.VolAll'. -/
def volAllCard : Claim7 := { stood := { row := volAllRow, standIns := [], harness := (true, "6d0d4f41a5cbb07070df2ce3a655567ccd8d72e2879ab891ecdd9876f9c504fa"), looks := true }, kinds := [], alts := [], laidByText := true, laidKinds := [.data], laidTests := true, laidLooks := .later }
def VolAllCardSaid : Prop := Claim7.holds Tryz.pinned (.plain (OpenSpec.ofChange volAllSpec)) volAllCard

/-- THE TIED CARD OF 'scupperlaw17.VolVoid'. -/
def volVoidCard : Claim7 := { stood := { row := volVoidRow, standIns := [], harness := (true, "6d0d4f41a5cbb07070df2ce3a655567ccd8d72e2879ab891ecdd9876f9c504fa"), looks := true }, kinds := [], alts := [], laidByText := true, laidKinds := [.data], laidTests := true, laidLooks := .later }
def VolVoidCardSaid : Prop := Claim7.holds Tryz.pinned (.plain (OpenSpec.ofChange volVoidSpec)) volVoidCard

/-- THE SECOND FORM's CARD OF 'scupperlaw17.VolMakes'. -/
def volMakesUptoCard : Claim7 := { stood := { row := volMakesUptoRow, standIns := [], harness := (true, "6d0d4f41a5cbb07070df2ce3a655567ccd8d72e2879ab891ecdd9876f9c504fa"), looks := true }, kinds := [], alts := [], laidByText := true, laidKinds := [.data], laidTests := true, laidLooks := .later }
def VolMakesUptoCardSaid : Prop := Claim7.holds Tryz.pinned (.plain (OpenSpec.upto volMakesSpec)) volMakesUptoCard

/-- THE SECOND FORM's CARD OF 'scupperlaw17.VolNow'. -/
def volNowUptoCard : Claim7 := { stood := { row := volNowUptoRow, standIns := [], harness := (true, "6d0d4f41a5cbb07070df2ce3a655567ccd8d72e2879ab891ecdd9876f9c504fa"), looks := true }, kinds := [], alts := [], laidByText := true, laidKinds := [.data], laidTests := true, laidLooks := .later }
def VolNowUptoCardSaid : Prop := Claim7.holds Tryz.pinned (.plain (OpenSpec.upto volNowSpec)) volNowUptoCard

/-- THE SECOND FORM's CARD OF 'scupperlaw17.VolAll'. -/
def volAllUptoCard : Claim7 := { stood := { row := volAllUptoRow, standIns := [], harness := (true, "6d0d4f41a5cbb07070df2ce3a655567ccd8d72e2879ab891ecdd9876f9c504fa"), looks := true }, kinds := [], alts := [], laidByText := true, laidKinds := [.data], laidTests := true, laidLooks := .later }
def VolAllUptoCardSaid : Prop := Claim7.holds Tryz.pinned (.plain (OpenSpec.upto volAllSpec)) volAllUptoCard

/-- THE SECOND FORM's CARD OF 'scupperlaw17.VolVoid'. -/
def volVoidUptoCard : Claim7 := { stood := { row := volVoidUptoRow, standIns := [], harness := (true, "6d0d4f41a5cbb07070df2ce3a655567ccd8d72e2879ab891ecdd9876f9c504fa"), looks := true }, kinds := [], alts := [], laidByText := true, laidKinds := [.data], laidTests := true, laidLooks := .later }
def VolVoidUptoCardSaid : Prop := Claim7.holds Tryz.pinned (.plain (OpenSpec.upto volVoidSpec)) volVoidUptoCard
end Rows
end Go.Proofs.YtogdffonjhghcaaGreatDoor
