/-
  NARROWER THAN 'FOR EVERY INPUT', by the rows' own cells (each row's printed sentence says how): ItabVoid: laid.
  DERIVED. THE GIVEN ROWS OF THIS SEAT. 1 by the template 'for every input the law returns true; each argument reads behind the call as it read before'; 0 by the template 'total and deterministic' (their statements: YtgdnhkdfcjpdiaaGreatDoorTotals.lean).
  GIVEN WITH THE SEED: the statements are not yours to turn. If you find one false, say at which input.
  Laid BY PROGRAM, IN A SANDBOX (cutbox-rows.mjs): the forced cells as the released guide's own fill.sh prints them over the translation 18a33eb06b74d559… (all of the seat's roots in one cut). By AI agents, Wed Nov 11 2026. No macro, syntax, notation, axiom, sorry.
-/
import Derived.Test.YtgdnhkdfcjpdiaaGreatDoorChecked
import GoSem.Claim
import GoSem.ClaimJoined
import GoSem.ClaimMapViews
import Derived.JoinedTies
import Derived.KernelRfl
namespace Go.Proofs.YtgdnhkdfcjpdiaaGreatDoor
/- THE CELL 'sum', in the pinned program and in every row, IS THE sha256 OF THE DUMP (.gsa) THAT YtgdnhkdfcjpdiaaGreatDoorProg.lean LOADS. Nothing in Lean hashes anything: it is a label: what it is worth is what the hold of that sum in a sandbox is worth. -/
noncomputable def Tryz.pinned : Pinned := { name := "ytgdnhkdfcjpdiaagreatdoor", sum := "18a33eb06b74d559324b105159028bb8631fd47415ba285b11213435a032ad7c", checked := Tryz.checked }
namespace Rows
def none {H : Type} : Left H := { results := [], args := [] }

/- WHAT THE LISTED PACKAGE-LEVEL VARIABLES READ AS WHEN THE CALL BEGINS. Each datum BY PROGRAM (the guide's laid-datum.mjs) off the statement by which the dump's own 'gosem.cut.vars' lays the variable. In a bare row this is a premise. The card (YtgdnhkdfcjpdiaaGreatDoorCards.lean) ties it to the program's text. -/
def laid_scupper_inode_spans {H : Type} : DataW H := .agg [.agg [.lit (.int .i64 0), .lit (.int .i64 18)], .agg [.lit (.int .i64 1), .lit (.int .i64 1)], .agg [.lit (.int .i64 2), .lit (.int .i64 4)], .agg [.lit (.int .i64 6), .lit (.int .i64 2)], .agg [.lit (.int .i64 8), .lit (.int .i64 2)], .agg [.lit (.int .i64 10), .lit (.int .i64 2)], .agg [.lit (.int .i64 12), .lit (.int .i64 2)], .agg [.lit (.int .i64 14), .lit (.int .i64 2)], .agg [.lit (.int .i64 16), .lit (.int .i64 2)], .agg [.lit (.int .i64 2), .lit (.int .i64 16)]]
def laid_scupper_nvram_turnOrder {H : Type} : DataW H := .agg [.lit (.int .i64 1), .lit (.int .i64 0), .lit (.int .i64 2)]

/-- 'scupperlaw19.ItabVoid': WHATEVER THE INPUT: true; the input reads as it did. -/
def itabVoidSpec : ChangeSpec := { name := "itabVoid", fn := fun _ => fun
  | [d1, d2] => { results := [.lit (.bool true)], args := [d1, d2] }
  | _ => none }
def itabVoidRow : OpenClaim := { program := "ytgdnhkdfcjpdiaagreatdoor", sum := "18a33eb06b74d559324b105159028bb8631fd47415ba285b11213435a032ad7c", func := "scupper/scupperlaw19.ItabVoid", spec := "itabVoid", inPlace := ["slices.overlaps[int]"], unfollowed := true, recurses := true, named := ["scupper/nvram.turnOrder", "scupper/inode.spans"], apart := false, laid := [("scupper/inode.spans", laid_scupper_inode_spans), ("scupper/nvram.turnOrder", laid_scupper_nvram_turnOrder)] }
def ItabVoidSaid : Prop := itabVoidRow.holds Tryz.pinned (OpenSpec.ofChange itabVoidSpec)

/-- ITS FALSE NEIGHBOUR: 'it returns false'. Refute it at one input. -/
def itabVoidWrong : ChangeSpec := { name := "itabVoid", fn := fun _ => fun
  | [d1, d2] => { results := [.lit (.bool false)], args := [d1, d2] }
  | _ => none }
def ItabVoidWrongFalsely : Prop := itabVoidRow.holds Tryz.pinned (OpenSpec.ofChange itabVoidWrong)

/- THE SECOND FORM. 'bulk': how many values and letters a reading holds, each counted each time it is reached (what is shared counts as often as it is met; a slice's spare places count too). A statement '..UptoSaid' is the law's where the arguments, and the package variables that the reading takes, are together of bulk at most 1048576: NARROWER than '..Said'. Prove '..Said' where nothing that the law and all that it calls make is longer than what came in: it says more and counts as full. Else prove '..UptoSaid'. A law counts once. -/
mutual
def uptoBulk {H : Type} : DataW H → Nat
  | .lit (.string bytes) => bytes.length + 1
  | .lit _ => 1
  | .nil => 1
  | .ptr d => uptoBulk d + 1
  | .slice elems spare => uptoBulkAll elems + uptoBulkAll spare + 1
  | .agg parts => uptoBulkAll parts + 1
  | .iface _ d => uptoBulk d + 1
  | .map entries => uptoBulkEntries entries + 1
  | .held _ => 1
def uptoBulkAll {H : Type} : List (DataW H) → Nat
  | [] => 0
  | d :: r => uptoBulk d + uptoBulkAll r
def uptoBulkEntries {H : Type} : List (Lit × DataW H) → Nat
  | [] => 0
  | x :: r => uptoBulkEntry x + uptoBulkEntries r
def uptoBulkEntry {H : Type} : Lit × DataW H → Nat
  | (.string bytes, d) => bytes.length + uptoBulk d + 1
  | (_, d) => uptoBulk d + 1
 end
def uptoSmall : (H : Type) → List (DataW H) → Bool := fun _ ds => decide (uptoBulkAll ds ≤ 1048576)
def OpenSpec.upto (s : _root_.Go.ChangeSpec) : _root_.Go.OpenSpec := { _root_.Go.OpenSpec.ofChange s with cond := some uptoSmall }

/-- 'scupperlaw19.ItabVoid', WHERE WHAT IT READS IS OF BULK AT MOST 1048576: true; the input reads as it did. -/
def itabVoidUptoRow : OpenClaim := { program := "ytgdnhkdfcjpdiaagreatdoor", sum := "18a33eb06b74d559324b105159028bb8631fd47415ba285b11213435a032ad7c", func := "scupper/scupperlaw19.ItabVoid", spec := "itabVoid", inPlace := ["slices.overlaps[int]"], unfollowed := true, recurses := true, named := ["scupper/nvram.turnOrder", "scupper/inode.spans"], apart := false, laid := [("scupper/inode.spans", laid_scupper_inode_spans), ("scupper/nvram.turnOrder", laid_scupper_nvram_turnOrder)], narrowed := true }
def ItabVoidUptoSaid : Prop := itabVoidUptoRow.holds Tryz.pinned (OpenSpec.upto itabVoidSpec)

end Rows
end Go.Proofs.YtgdnhkdfcjpdiaaGreatDoor
