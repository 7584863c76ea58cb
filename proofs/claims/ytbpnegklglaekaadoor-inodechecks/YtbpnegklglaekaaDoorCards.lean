/-
  DERIVED. GIVEN WITH THE SEED: THE CARDS: each row of YtbpnegklglaekaaDoorRows.lean that lists a variable, with what it lists TIED to the program's text (the seventh form; the later family's looks); each row that meets fmt, with fmt's text TOLD by the authors' own Lean function (tested against real Go, not proved from fmt's source: count such statements apart). THE CARD IS WHAT COUNTS. Prove the row's statement (the work); the ties are given (YtbpnegklglaekaaDoorTie.lean); close each card by the builder's one call (the guide's Derived/Test/ToyasCard.lean, 'card_holds'). Laid BY PROGRAM, IN A SANDBOX (cutbox-door.mjs). By AI agents, Wed Nov 11 2026. No macro, syntax, notation, axiom, sorry.
-/
import Derived.Test.YtbpnegklglaekaaDoorRows
import GoSem.ClaimSeven
namespace Go.Proofs.YtbpnegklglaekaaDoor
namespace Rows

/-- THE TIED CARD OF 'scupperlaw10.InodePuts'. -/
def inodePutsCard : Claim7 := { stood := { row := inodePutsRow, standIns := [], harness := (true, "ffe4a7177403edf1b1c0e7873b1590ff17710bdefb3e342ab7b431808f7f8985"), looks := false }, kinds := [], alts := [], laidByText := true, laidKinds := [.data], laidTests := true, laidLooks := .later }
def InodePutsCardSaid : Prop := Claim7.holds Tryd.pinned (.plain (OpenSpec.ofChange inodePutsSpec)) inodePutsCard

/-- THE TIED CARD OF 'scupperlaw10.InodeLoads'. -/
def inodeLoadsCard : Claim7 := { stood := { row := inodeLoadsRow, standIns := [], harness := (true, "ffe4a7177403edf1b1c0e7873b1590ff17710bdefb3e342ab7b431808f7f8985"), looks := false }, kinds := [], alts := [], laidByText := true, laidKinds := [.data], laidTests := true, laidLooks := .later }
def InodeLoadsCardSaid : Prop := Claim7.holds Tryd.pinned (.plain (OpenSpec.ofChange inodeLoadsSpec)) inodeLoadsCard

/-- THE TIED CARD OF 'scupperlaw10.InodeBack'. -/
def inodeBackCard : Claim7 := { stood := { row := inodeBackRow, standIns := [], harness := (true, "ffe4a7177403edf1b1c0e7873b1590ff17710bdefb3e342ab7b431808f7f8985"), looks := false }, kinds := [], alts := [], laidByText := true, laidKinds := [.data], laidTests := true, laidLooks := .later }
def InodeBackCardSaid : Prop := Claim7.holds Tryd.pinned (.plain (OpenSpec.ofChange inodeBackSpec)) inodeBackCard

/-- THE TIED CARD OF 'scupperlaw10.InodeChecks'. -/
def inodeChecksCard : Claim7 := { stood := { row := inodeChecksRow, standIns := [], harness := (true, "ffe4a7177403edf1b1c0e7873b1590ff17710bdefb3e342ab7b431808f7f8985"), looks := false }, kinds := [], alts := [], laidByText := true, laidKinds := [.data], laidTests := true, laidLooks := .later }
def InodeChecksCardSaid : Prop := Claim7.holds Tryd.pinned (.plain (OpenSpec.ofChange inodeChecksSpec)) inodeChecksCard

/-- THE TIED CARD OF 'scupperlaw10.InodeFields'. -/
def inodeFieldsCard : Claim7 := { stood := { row := inodeFieldsRow, standIns := [], harness := (true, "ffe4a7177403edf1b1c0e7873b1590ff17710bdefb3e342ab7b431808f7f8985"), looks := false }, kinds := [], alts := [], laidByText := true, laidKinds := [.data], laidTests := true, laidLooks := .later }
def InodeFieldsCardSaid : Prop := Claim7.holds Tryd.pinned (.plain (OpenSpec.ofChange inodeFieldsSpec)) inodeFieldsCard

/-- THE SECOND FORM's CARD OF 'scupperlaw10.InodePuts'. -/
def inodePutsUptoCard : Claim7 := { stood := { row := inodePutsUptoRow, standIns := [], harness := (true, "ffe4a7177403edf1b1c0e7873b1590ff17710bdefb3e342ab7b431808f7f8985"), looks := false }, kinds := [], alts := [], laidByText := true, laidKinds := [.data], laidTests := true, laidLooks := .later }
def InodePutsUptoCardSaid : Prop := Claim7.holds Tryd.pinned (.plain (OpenSpec.upto inodePutsSpec)) inodePutsUptoCard

/-- THE SECOND FORM's CARD OF 'scupperlaw10.InodeLoads'. -/
def inodeLoadsUptoCard : Claim7 := { stood := { row := inodeLoadsUptoRow, standIns := [], harness := (true, "ffe4a7177403edf1b1c0e7873b1590ff17710bdefb3e342ab7b431808f7f8985"), looks := false }, kinds := [], alts := [], laidByText := true, laidKinds := [.data], laidTests := true, laidLooks := .later }
def InodeLoadsUptoCardSaid : Prop := Claim7.holds Tryd.pinned (.plain (OpenSpec.upto inodeLoadsSpec)) inodeLoadsUptoCard

/-- THE SECOND FORM's CARD OF 'scupperlaw10.InodeBack'. -/
def inodeBackUptoCard : Claim7 := { stood := { row := inodeBackUptoRow, standIns := [], harness := (true, "ffe4a7177403edf1b1c0e7873b1590ff17710bdefb3e342ab7b431808f7f8985"), looks := false }, kinds := [], alts := [], laidByText := true, laidKinds := [.data], laidTests := true, laidLooks := .later }
def InodeBackUptoCardSaid : Prop := Claim7.holds Tryd.pinned (.plain (OpenSpec.upto inodeBackSpec)) inodeBackUptoCard

/-- THE SECOND FORM's CARD OF 'scupperlaw10.InodeChecks'. -/
def inodeChecksUptoCard : Claim7 := { stood := { row := inodeChecksUptoRow, standIns := [], harness := (true, "ffe4a7177403edf1b1c0e7873b1590ff17710bdefb3e342ab7b431808f7f8985"), looks := false }, kinds := [], alts := [], laidByText := true, laidKinds := [.data], laidTests := true, laidLooks := .later }
def InodeChecksUptoCardSaid : Prop := Claim7.holds Tryd.pinned (.plain (OpenSpec.upto inodeChecksSpec)) inodeChecksUptoCard

/-- THE SECOND FORM's CARD OF 'scupperlaw10.InodeFields'. -/
def inodeFieldsUptoCard : Claim7 := { stood := { row := inodeFieldsUptoRow, standIns := [], harness := (true, "ffe4a7177403edf1b1c0e7873b1590ff17710bdefb3e342ab7b431808f7f8985"), looks := false }, kinds := [], alts := [], laidByText := true, laidKinds := [.data], laidTests := true, laidLooks := .later }
def InodeFieldsUptoCardSaid : Prop := Claim7.holds Tryd.pinned (.plain (OpenSpec.upto inodeFieldsSpec)) inodeFieldsUptoCard
end Rows
end Go.Proofs.YtbpnegklglaekaaDoor
