/-
  NARROWER THAN 'FOR EVERY INPUT', by the rows' own cells (each row's printed sentence says how): NvramKeeps: laid · NvramVoid: laid.
  DERIVED. THE GIVEN ROWS OF THIS SEAT. 2 by the template 'for every input the law returns true; each argument reads behind the call as it read before'; 0 by the template 'total and deterministic' (their statements: YteaaipkfggnjgaaDoorTotals.lean).
  GIVEN WITH THE SEED: the statements are not yours to turn. If you find one false, say at which input.
  Laid BY PROGRAM, IN A SANDBOX (cutbox-rows.mjs): the forced cells as the released guide's own fill.sh prints them over the translation 84c7b8cf8b966d11… (all of the seat's roots in one cut). By AI agents, Wed Nov 11 2026. No macro, syntax, notation, axiom, sorry.
-/
import Derived.Test.YteaaipkfggnjgaaDoorChecked
import GoSem.Claim
import GoSem.ClaimJoined
import GoSem.ClaimMapViews
import Derived.JoinedTies
import Derived.KernelRfl
namespace Go.Proofs.YteaaipkfggnjgaaDoor
/- THE CELL 'sum', in the pinned program and in every row, IS THE sha256 OF THE DUMP (.gsa) THAT YteaaipkfggnjgaaDoorProg.lean LOADS. Nothing in Lean hashes anything: it is a label: what it is worth is what the hold of that sum in a sandbox is worth. -/
noncomputable def Tryd.pinned : Pinned := { name := "yteaaipkfggnjgaadoor", sum := "84c7b8cf8b966d11055f7a399fc02b25085eaaf6ed8329192f341a88e652fd59", checked := Tryd.checked }
namespace Rows
def none {H : Type} : Left H := { results := [], args := [] }

/- WHAT THE LISTED PACKAGE-LEVEL VARIABLES READ AS WHEN THE CALL BEGINS. Each datum BY PROGRAM (the guide's laid-datum.mjs) off the statement by which the dump's own 'gosem.cut.vars' lays the variable. In a bare row this is a premise. The card (YteaaipkfggnjgaaDoorCards.lean) ties it to the program's text. -/
def laid_scupper_nvram_turnOrder {H : Type} : DataW H := .agg [.lit (.int .i64 1), .lit (.int .i64 0), .lit (.int .i64 2)]

/-- 'scupperlaw05.NvramKeeps': WHATEVER THE INPUT: true; the input reads as it did. -/
def nvramKeepsSpec : ChangeSpec := { name := "nvramKeeps", fn := fun _ => fun
  | [d1, d2, d3] => { results := [.lit (.bool true)], args := [d1, d2, d3] }
  | _ => none }
def nvramKeepsRow : OpenClaim := { program := "yteaaipkfggnjgaadoor", sum := "84c7b8cf8b966d11055f7a399fc02b25085eaaf6ed8329192f341a88e652fd59", func := "scupper/scupperlaw05.NvramKeeps", spec := "nvramKeeps", unfollowed := true, recurses := true, named := ["scupper/nvram.turnOrder"], apart := false, laid := [("scupper/nvram.turnOrder", laid_scupper_nvram_turnOrder)] }
def NvramKeepsSaid : Prop := nvramKeepsRow.holds Tryd.pinned (OpenSpec.ofChange nvramKeepsSpec)

/-- ITS FALSE NEIGHBOUR: 'it returns false'. Refute it at one input. -/
def nvramKeepsWrong : ChangeSpec := { name := "nvramKeeps", fn := fun _ => fun
  | [d1, d2, d3] => { results := [.lit (.bool false)], args := [d1, d2, d3] }
  | _ => none }
def NvramKeepsWrongFalsely : Prop := nvramKeepsRow.holds Tryd.pinned (OpenSpec.ofChange nvramKeepsWrong)

/-- 'scupperlaw05.NvramVoid': WHATEVER THE INPUT: true; the input reads as it did. -/
def nvramVoidSpec : ChangeSpec := { name := "nvramVoid", fn := fun _ => fun
  | [d1, d2] => { results := [.lit (.bool true)], args := [d1, d2] }
  | _ => none }
def nvramVoidRow : OpenClaim := { program := "yteaaipkfggnjgaadoor", sum := "84c7b8cf8b966d11055f7a399fc02b25085eaaf6ed8329192f341a88e652fd59", func := "scupper/scupperlaw05.NvramVoid", spec := "nvramVoid", unfollowed := true, recurses := true, named := ["scupper/nvram.turnOrder"], apart := false, laid := [("scupper/nvram.turnOrder", laid_scupper_nvram_turnOrder)] }
def NvramVoidSaid : Prop := nvramVoidRow.holds Tryd.pinned (OpenSpec.ofChange nvramVoidSpec)

/-- ITS FALSE NEIGHBOUR: 'it returns false'. Refute it at one input. -/
def nvramVoidWrong : ChangeSpec := { name := "nvramVoid", fn := fun _ => fun
  | [d1, d2] => { results := [.lit (.bool false)], args := [d1, d2] }
  | _ => none }
def NvramVoidWrongFalsely : Prop := nvramVoidRow.holds Tryd.pinned (OpenSpec.ofChange nvramVoidWrong)

/- THE SECOND FORM. 'bulk': how many values and letters a reading holds, each counted each time it is reached (what is shared counts as often as it is met; a slice's spare places count too). A statement '..UptoSaid' is the law's where the arguments, and the package variables that the reading takes, are together of bulk at most 1048576: NARROWER than '..Said'. Prove '..Said' where nothing that the law and all that it calls make is longer than what came in: it says more and counts as full. Else prove '..UptoSaid'. A law counts once. -/
mutual
def uptoBulk {H : Type} : DataW H → Nat
  | .lit (.string bytes) => bytes.length + 1
  | .lit _ => 1
  | .nil => 1
  | .ptr d => uptoBulk d + 1
  | .slice elems spare => uptoBulkAll elems + uptoBulkAll spare + 1
  | .agg parts => uptoBulkAll parts + 1
  | .iface _ d => uptoBulk d + 1
  | .map entries => uptoBulkEntries entries + 1
  | .held _ => 1
def uptoBulkAll {H : Type} : List (DataW H) → Nat
  | [] => 0
  | d :: r => uptoBulk d + uptoBulkAll r
def uptoBulkEntries {H : Type} : List (Lit × DataW H) → Nat
  | [] => 0
  | x :: r => uptoBulkEntry x + uptoBulkEntries r
def uptoBulkEntry {H : Type} : Lit × DataW H → Nat
  | (.string bytes, d) => bytes.length + uptoBulk d + 1
  | (_, d) => uptoBulk d + 1
 end
def uptoSmall : (H : Type) → List (DataW H) → Bool := fun _ ds => decide (uptoBulkAll ds ≤ 1048576)
def OpenSpec.upto (s : _root_.Go.ChangeSpec) : _root_.Go.OpenSpec := { _root_.Go.OpenSpec.ofChange s with cond := some uptoSmall }

/-- 'scupperlaw05.NvramKeeps', WHERE WHAT IT READS IS OF BULK AT MOST 1048576: true; the input reads as it did. -/
def nvramKeepsUptoRow : OpenClaim := { program := "yteaaipkfggnjgaadoor", sum := "84c7b8cf8b966d11055f7a399fc02b25085eaaf6ed8329192f341a88e652fd59", func := "scupper/scupperlaw05.NvramKeeps", spec := "nvramKeeps", unfollowed := true, recurses := true, named := ["scupper/nvram.turnOrder"], apart := false, laid := [("scupper/nvram.turnOrder", laid_scupper_nvram_turnOrder)], narrowed := true }
def NvramKeepsUptoSaid : Prop := nvramKeepsUptoRow.holds Tryd.pinned (OpenSpec.upto nvramKeepsSpec)

/-- 'scupperlaw05.NvramVoid', WHERE WHAT IT READS IS OF BULK AT MOST 1048576: true; the input reads as it did. -/
def nvramVoidUptoRow : OpenClaim := { program := "yteaaipkfggnjgaadoor", sum := "84c7b8cf8b966d11055f7a399fc02b25085eaaf6ed8329192f341a88e652fd59", func := "scupper/scupperlaw05.NvramVoid", spec := "nvramVoid", unfollowed := true, recurses := true, named := ["scupper/nvram.turnOrder"], apart := false, laid := [("scupper/nvram.turnOrder", laid_scupper_nvram_turnOrder)], narrowed := true }
def NvramVoidUptoSaid : Prop := nvramVoidUptoRow.holds Tryd.pinned (OpenSpec.upto nvramVoidSpec)

end Rows
end Go.Proofs.YteaaipkfggnjgaaDoor
