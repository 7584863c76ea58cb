/-
  NARROWER THAN 'FOR EVERY INPUT', by the rows' own cells (each row's printed sentence says how): VolMakes: laid · VolNow: laid · VolAll: laid · VolVoid: laid.
  DERIVED. THE GIVEN ROWS OF THIS SEAT. 4 by the template 'for every input the law returns true; each argument reads behind the call as it read before'; 0 by the template 'total and deterministic' (their statements: YtogdffonjhghcaaGreatDoorTotals.lean).
  GIVEN WITH THE SEED: the statements are not yours to turn. If you find one false, say at which input.
  Laid BY PROGRAM, IN A SANDBOX (cutbox-rows.mjs): the forced cells as the released guide's own fill.sh prints them over the translation b86047e0596f22a7… (all of the seat's roots in one cut). By AI agents, Wed Nov 11 2026. No macro, syntax, notation, axiom, sorry.
-/
import Derived.Test.YtogdffonjhghcaaGreatDoorChecked
import GoSem.Claim
import GoSem.ClaimJoined
import GoSem.ClaimMapViews
import Derived.JoinedTies
import Derived.KernelRfl
namespace Go.Proofs.YtogdffonjhghcaaGreatDoor
/- THE CELL 'sum', in the pinned program and in every row, IS THE sha256 OF THE DUMP (.gsa) THAT YtogdffonjhghcaaGreatDoorProg.lean LOADS. Nothing in Lean hashes anything: it is a label: what it is worth is what the hold of that sum in a sandbox is worth. -/
noncomputable def Tryz.pinned : Pinned := { name := "ytogdffonjhghcaagreatdoor", sum := "b86047e0596f22a7f03c2af1b411d533ee175cc35a66105acde6b6e6f3db082e", checked := Tryz.checked }
namespace Rows
def none {H : Type} : Left H := { results := [], args := [] }

/- WHAT THE LISTED PACKAGE-LEVEL VARIABLES READ AS WHEN THE CALL BEGINS. Each datum BY PROGRAM (the guide's laid-datum.mjs) off the statement by which the dump's own 'gosem.cut.vars' lays the variable. In a bare row this is a premise. The card (YtogdffonjhghcaaGreatDoorCards.lean) ties it to the program's text. -/
def laid_scupper_nvram_turnOrder {H : Type} : DataW H := .agg [.lit (.int .i64 1), .lit (.int .i64 0), .lit (.int .i64 2)]

/-- 'scupperlaw17.VolMakes': WHATEVER THE INPUT: true; the input reads as it did. -/
def volMakesSpec : ChangeSpec := { name := "volMakes", fn := fun _ => fun
  | [d1, d2, d3, d4] => { results := [.lit (.bool true)], args := [d1, d2, d3, d4] }
  | _ => none }
def volMakesRow : OpenClaim := { program := "ytogdffonjhghcaagreatdoor", sum := "b86047e0596f22a7f03c2af1b411d533ee175cc35a66105acde6b6e6f3db082e", func := "scupper/scupperlaw17.VolMakes", spec := "volMakes", inPlace := ["slices.overlaps[int]", "maps.clone"], unfollowed := true, recurses := true, named := ["scupper/nvram.turnOrder"], apart := false, laid := [("scupper/nvram.turnOrder", laid_scupper_nvram_turnOrder)] }
def VolMakesSaid : Prop := volMakesRow.holds Tryz.pinned (OpenSpec.ofChange volMakesSpec)

/-- ITS FALSE NEIGHBOUR: 'it returns false'. Refute it at one input. -/
def volMakesWrong : ChangeSpec := { name := "volMakes", fn := fun _ => fun
  | [d1, d2, d3, d4] => { results := [.lit (.bool false)], args := [d1, d2, d3, d4] }
  | _ => none }
def VolMakesWrongFalsely : Prop := volMakesRow.holds Tryz.pinned (OpenSpec.ofChange volMakesWrong)

/-- 'scupperlaw17.VolNow': WHATEVER THE INPUT: true; the input reads as it did. -/
def volNowSpec : ChangeSpec := { name := "volNow", fn := fun _ => fun
  | [d1, d2] => { results := [.lit (.bool true)], args := [d1, d2] }
  | _ => none }
def volNowRow : OpenClaim := { program := "ytogdffonjhghcaagreatdoor", sum := "b86047e0596f22a7f03c2af1b411d533ee175cc35a66105acde6b6e6f3db082e", func := "scupper/scupperlaw17.VolNow", spec := "volNow", inPlace := ["slices.overlaps[int]"], unfollowed := true, recurses := true, named := ["scupper/nvram.turnOrder"], apart := false, laid := [("scupper/nvram.turnOrder", laid_scupper_nvram_turnOrder)] }
def VolNowSaid : Prop := volNowRow.holds Tryz.pinned (OpenSpec.ofChange volNowSpec)

/-- ITS FALSE NEIGHBOUR: 'it returns false'. Refute it at one input. -/
def volNowWrong : ChangeSpec := { name := "volNow", fn := fun _ => fun
  | [d1, d2] => { results := [.lit (.bool false)], args := [d1, d2] }
  | _ => none }
def VolNowWrongFalsely : Prop := volNowRow.holds Tryz.pinned (OpenSpec.ofChange volNowWrong)

/-- 'scupperlaw17.VolAll': WHATEVER THE INPUT: true; the input reads as it did. -/
def volAllSpec : ChangeSpec := { name := "volAll", fn := fun _ => fun
  | [d1, d2] => { results := [.lit (.bool true)], args := [d1, d2] }
  | _ => none }
def volAllRow : OpenClaim := { program := "ytogdffonjhghcaagreatdoor", sum := "b86047e0596f22a7f03c2af1b411d533ee175cc35a66105acde6b6e6f3db082e", func := "scupper/scupperlaw17.VolAll", spec := "volAll", inPlace := ["slices.overlaps[int]"], unfollowed := true, recurses := true, named := ["scupper/nvram.turnOrder"], apart := false, laid := [("scupper/nvram.turnOrder", laid_scupper_nvram_turnOrder)] }
def VolAllSaid : Prop := volAllRow.holds Tryz.pinned (OpenSpec.ofChange volAllSpec)

/-- ITS FALSE NEIGHBOUR: 'it returns false'. Refute it at one input. -/
def volAllWrong : ChangeSpec := { name := "volAll", fn := fun _ => fun
  | [d1, d2] => { results := [.lit (.bool false)], args := [d1, d2] }
  | _ => none }
def VolAllWrongFalsely : Prop := volAllRow.holds Tryz.pinned (OpenSpec.ofChange volAllWrong)

/-- 'scupperlaw17.VolVoid': WHATEVER THE INPUT: true; the input reads as it did. -/
def volVoidSpec : ChangeSpec := { name := "volVoid", fn := fun _ => fun
  | [d] => { results := [.lit (.bool true)], args := [d] }
  | _ => none }
def volVoidRow : OpenClaim := { program := "ytogdffonjhghcaagreatdoor", sum := "b86047e0596f22a7f03c2af1b411d533ee175cc35a66105acde6b6e6f3db082e", func := "scupper/scupperlaw17.VolVoid", spec := "volVoid", inPlace := ["slices.overlaps[int]", "maps.clone"], unfollowed := true, recurses := true, named := ["scupper/nvram.turnOrder"], apart := false, laid := [("scupper/nvram.turnOrder", laid_scupper_nvram_turnOrder)] }
def VolVoidSaid : Prop := volVoidRow.holds Tryz.pinned (OpenSpec.ofChange volVoidSpec)

/-- ITS FALSE NEIGHBOUR: 'it returns false'. Refute it at one input. -/
def volVoidWrong : ChangeSpec := { name := "volVoid", fn := fun _ => fun
  | [d] => { results := [.lit (.bool false)], args := [d] }
  | _ => none }
def VolVoidWrongFalsely : Prop := volVoidRow.holds Tryz.pinned (OpenSpec.ofChange volVoidWrong)

/- THE SECOND FORM. 'bulk': how many values and letters a reading holds, each counted each time it is reached (what is shared counts as often as it is met; a slice's spare places count too). A statement '..UptoSaid' is the law's where the arguments, and the package variables that the reading takes, are together of bulk at most 1048576: NARROWER than '..Said'. Prove '..Said' where nothing that the law and all that it calls make is longer than what came in: it says more and counts as full. Else prove '..UptoSaid'. A law counts once. -/
mutual
def uptoBulk {H : Type} : DataW H → Nat
  | .lit (.string bytes) => bytes.length + 1
  | .lit _ => 1
  | .nil => 1
  | .ptr d => uptoBulk d + 1
  | .slice elems spare => uptoBulkAll elems + uptoBulkAll spare + 1
  | .agg parts => uptoBulkAll parts + 1
  | .iface _ d => uptoBulk d + 1
  | .map entries => uptoBulkEntries entries + 1
  | .held _ => 1
def uptoBulkAll {H : Type} : List (DataW H) → Nat
  | [] => 0
  | d :: r => uptoBulk d + uptoBulkAll r
def uptoBulkEntries {H : Type} : List (Lit × DataW H) → Nat
  | [] => 0
  | x :: r => uptoBulkEntry x + uptoBulkEntries r
def uptoBulkEntry {H : Type} : Lit × DataW H → Nat
  | (.string bytes, d) => bytes.length + uptoBulk d + 1
  | (_, d) => uptoBulk d + 1
 end
def uptoSmall : (H : Type) → List (DataW H) → Bool := fun _ ds => decide (uptoBulkAll ds ≤ 1048576)
def OpenSpec.upto (s : _root_.Go.ChangeSpec) : _root_.Go.OpenSpec := { _root_.Go.OpenSpec.ofChange s with cond := some uptoSmall }

/-- 'scupperlaw17.VolMakes', WHERE WHAT IT READS IS OF BULK AT MOST 1048576: true; the input reads as it did. -/
def volMakesUptoRow : OpenClaim := { program := "ytogdffonjhghcaagreatdoor", sum := "b86047e0596f22a7f03c2af1b411d533ee175cc35a66105acde6b6e6f3db082e", func := "scupper/scupperlaw17.VolMakes", spec := "volMakes", inPlace := ["slices.overlaps[int]", "maps.clone"], unfollowed := true, recurses := true, named := ["scupper/nvram.turnOrder"], apart := false, laid := [("scupper/nvram.turnOrder", laid_scupper_nvram_turnOrder)], narrowed := true }
def VolMakesUptoSaid : Prop := volMakesUptoRow.holds Tryz.pinned (OpenSpec.upto volMakesSpec)

/-- 'scupperlaw17.VolNow', WHERE WHAT IT READS IS OF BULK AT MOST 1048576: true; the input reads as it did. -/
def volNowUptoRow : OpenClaim := { program := "ytogdffonjhghcaagreatdoor", sum := "b86047e0596f22a7f03c2af1b411d533ee175cc35a66105acde6b6e6f3db082e", func := "scupper/scupperlaw17.VolNow", spec := "volNow", inPlace := ["slices.overlaps[int]"], unfollowed := true, recurses := true, named := ["scupper/nvram.turnOrder"], apart := false, laid := [("scupper/nvram.turnOrder", laid_scupper_nvram_turnOrder)], narrowed := true }
def VolNowUptoSaid : Prop := volNowUptoRow.holds Tryz.pinned (OpenSpec.upto volNowSpec)

/-- 'scupperlaw17.VolAll', WHERE WHAT IT READS IS OF BULK AT MOST 1048576: true; the input reads as it did. -/
def volAllUptoRow : OpenClaim := { program := "ytogdffonjhghcaagreatdoor", sum := "b86047e0596f22a7f03c2af1b411d533ee175cc35a66105acde6b6e6f3db082e", func := "scupper/scupperlaw17.VolAll", spec := "volAll", inPlace := ["slices.overlaps[int]"], unfollowed := true, recurses := true, named := ["scupper/nvram.turnOrder"], apart := false, laid := [("scupper/nvram.turnOrder", laid_scupper_nvram_turnOrder)], narrowed := true }
def VolAllUptoSaid : Prop := volAllUptoRow.holds Tryz.pinned (OpenSpec.upto volAllSpec)

/-- 'scupperlaw17.VolVoid', WHERE WHAT IT READS IS OF BULK AT MOST 1048576: true; the input reads as it did. -/
def volVoidUptoRow : OpenClaim := { program := "ytogdffonjhghcaagreatdoor", sum := "b86047e0596f22a7f03c2af1b411d533ee175cc35a66105acde6b6e6f3db082e", func := "scupper/scupperlaw17.VolVoid", spec := "volVoid", inPlace := ["slices.overlaps[int]", "maps.clone"], unfollowed := true, recurses := true, named := ["scupper/nvram.turnOrder"], apart := false, laid := [("scupper/nvram.turnOrder", laid_scupper_nvram_turnOrder)], narrowed := true }
def VolVoidUptoSaid : Prop := volVoidUptoRow.holds Tryz.pinned (OpenSpec.upto volVoidSpec)

end Rows
end Go.Proofs.YtogdffonjhghcaaGreatDoor
