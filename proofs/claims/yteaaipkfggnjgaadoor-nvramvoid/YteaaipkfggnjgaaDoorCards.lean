/-
  DERIVED. GIVEN WITH THE SEED: THE CARDS: each row of YteaaipkfggnjgaaDoorRows.lean that lists a variable, with what it lists TIED to the program's text (the seventh form; the later family's looks); each row that meets fmt, with fmt's text TOLD by the authors' own Lean function (tested against real Go, not proved from fmt's source: count such statements apart). THE CARD IS WHAT COUNTS. Prove the row's statement (the work); the ties are given (YteaaipkfggnjgaaDoorTie.lean); close each card by the builder's one call (the guide's Derived/Test/ToyasCard.lean, 'card_holds'). Laid BY PROGRAM, IN A SANDBOX (cutbox-door.mjs). By AI agents, Wed Nov 11 2026. No macro, syntax, notation, axiom, sorry.
-/
import Derived.Test.YteaaipkfggnjgaaDoorRows
import GoSem.ClaimSeven
namespace Go.Proofs.YteaaipkfggnjgaaDoor
namespace Rows

/-- THE TIED CARD OF 'scupperlaw05.NvramKeeps'. -/
def nvramKeepsCard : Claim7 := { stood := { row := nvramKeepsRow, standIns := [], harness := (true, "c81ecf8958526a9c0cf0311821431e0c05a95f2c88efa37f3b3591ce652abe18"), looks := false }, kinds := [], alts := [], laidByText := true, laidKinds := [.data], laidTests := true, laidLooks := .later }
def NvramKeepsCardSaid : Prop := Claim7.holds Tryd.pinned (.plain (OpenSpec.ofChange nvramKeepsSpec)) nvramKeepsCard

/-- THE TIED CARD OF 'scupperlaw05.NvramVoid'. -/
def nvramVoidCard : Claim7 := { stood := { row := nvramVoidRow, standIns := [], harness := (true, "c81ecf8958526a9c0cf0311821431e0c05a95f2c88efa37f3b3591ce652abe18"), looks := false }, kinds := [], alts := [], laidByText := true, laidKinds := [.data], laidTests := true, laidLooks := .later }
def NvramVoidCardSaid : Prop := Claim7.holds Tryd.pinned (.plain (OpenSpec.ofChange nvramVoidSpec)) nvramVoidCard

/-- THE SECOND FORM's CARD OF 'scupperlaw05.NvramKeeps'. -/
def nvramKeepsUptoCard : Claim7 := { stood := { row := nvramKeepsUptoRow, standIns := [], harness := (true, "c81ecf8958526a9c0cf0311821431e0c05a95f2c88efa37f3b3591ce652abe18"), looks := false }, kinds := [], alts := [], laidByText := true, laidKinds := [.data], laidTests := true, laidLooks := .later }
def NvramKeepsUptoCardSaid : Prop := Claim7.holds Tryd.pinned (.plain (OpenSpec.upto nvramKeepsSpec)) nvramKeepsUptoCard

/-- THE SECOND FORM's CARD OF 'scupperlaw05.NvramVoid'. -/
def nvramVoidUptoCard : Claim7 := { stood := { row := nvramVoidUptoRow, standIns := [], harness := (true, "c81ecf8958526a9c0cf0311821431e0c05a95f2c88efa37f3b3591ce652abe18"), looks := false }, kinds := [], alts := [], laidByText := true, laidKinds := [.data], laidTests := true, laidLooks := .later }
def NvramVoidUptoCardSaid : Prop := Claim7.holds Tryd.pinned (.plain (OpenSpec.upto nvramVoidSpec)) nvramVoidUptoCard
end Rows
end Go.Proofs.YteaaipkfggnjgaaDoor
