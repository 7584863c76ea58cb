/-
  What the functions of layer 1 and of its reference that tell and copy bytes return, each for every input: no statement is proved here.
-/
import Derived.Test.YtbmfoefapbakmaaNumC
import Derived.Laws.AppendOwnNone
namespace Go.Proofs.Ytbmfoefapbakmaa
open Go.ChangeShapes Go.WideShapes Go.ChangeAt Go.RowKit
set_option linter.unusedVariables false

theorem infoU8 : (Try.prog.info? 5).map (fun i => (i.zero, i.size, i.bytes)) = some (some (.int .u8 0), 1, 1) := by kernel_rfl

theorem sameBytes_any (a a' : Option Addr) (n c n' c' : Nat) (l l' : List Int) (w : World) (hb : Bs w a n c l) (hb' : Bs w a' n' c' l') :
    Calls Try.prog 10 #[.slice a n c, .slice a' n' c'] w fun e w' => e = .returned (.bool (decide (l = l'))) ∧ w = w' := by
  have q := hb.convert (P := Try.prog) 28 5 9 Try.underlying28 Try.underlying5 Try.underlying9
  have q' := hb'.convert (P := Try.prog) 28 5 9 Try.underlying28 Try.underlying5 Try.underlying9
  go_enter Try.func10, Try.ntmps10
  go_wp2
  go_returns
  exact ⟨ret_bool (str_eq hb.byte hb'.byte), rfl⟩

end Go.Proofs.Ytbmfoefapbakmaa
