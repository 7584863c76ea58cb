/-
  What All, Written, By and About of layer 14 do: no statement is proved here.
-/
import Derived.Test.YtdfifneikmlmoaaGreatGrJ
namespace Go.Proofs.YtdfifneikmlmoaaGreat
open Go.ChangeShapes Go.WideShapes Go.ChangeAt Go.RowKit
set_option linter.unusedVariables false
set_option linter.unusedSimpArgs false

set_option maxRecDepth 100000 in
set_option maxHeartbeats 1000000 in
theorem tells_all (w : World) (F E : Nat → Prop) : Tells w F E 39 #[] (fun _ => true) := by
  intro u p d n hu hm
  have tok : True := trivial
  show Calls Tryz.prog _ #[.agg (p.cs d n).toArray] u _
  go_enter Tryz.func39, Tryz.ntmps39
  go_wp2_with (first | (clear tok; refine at_boxP (by rfl) _ (by rfl) p d n (by rfl) ?_; intro g1 w1 a1 a2 r1 b1))
  go_returns
  exact ⟨rfl, b1⟩
set_option maxRecDepth 100000 in
set_option maxHeartbeats 1000000 in
theorem tells_sall (w : World) (F E : Nat → Prop) : Tells w F E 71 #[] (fun _ => true) := by
  intro u p d n hu hm
  have tok : True := trivial
  show Calls Tryz.prog _ #[.agg (p.cs d n).toArray] u _
  go_enter Tryz.func71, Tryz.ntmps71
  go_wp2_with (first | (clear tok; refine at_boxP (by rfl) _ (by rfl) p d n (by rfl) ?_; intro g1 w1 a1 a2 r1 b1))
  go_returns
  exact ⟨rfl, b1⟩
set_option maxRecDepth 100000 in
set_option maxHeartbeats 1000000 in
theorem tells_written (w : World) (F E : Nat → Prop) : Tells w F E 40 #[] (fun p => p.wr) := by
  intro u p d n hu hm
  have tok : True := trivial
  show Calls Tryz.prog _ #[.agg (p.cs d n).toArray] u _
  go_enter Tryz.func40, Tryz.ntmps40
  go_wp2_with (first | (clear tok; refine at_boxP (by rfl) _ (by rfl) p d n (by rfl) ?_; intro g1 w1 a1 a2 r1 b1; have c8 := (Pt.cells r1).2.2.2.2.2.2.2.2))
  go_returns
  exact ⟨rfl, b1⟩
theorem enter_all : ∀ args w, (callFunc 39 args).run Tryz.prog w = .ok (.enter 39 args) w := enters_of Tryz.func39 (by kernel_rfl) rfl
theorem enter_written : ∀ args w, (callFunc 40 args).run Tryz.prog w = .ok (.enter 40 args) w := enters_of Tryz.func40 (by kernel_rfl) rfl
set_option maxRecDepth 100000 in
set_option maxHeartbeats 1000000 in
theorem all_any {w : World} {g mp mw : Nat} {f fw : Int → Option Value} {Z : GZ} {E F : Nat → Prop} (H : Gr w g mp mw f fw Z E F) :
    Calls Tryz.prog 13 #[.pointer (some ⟨g, 0, none⟩)] w fun e w' => ∃ v, e = .returned v ∧ OwV w' v (ids (thP Z.l fun _ => true)) ∧ New w.heap.size v ∧ Below w.heap.size w w' := by
  have hT := those_any H 39 #[] _ (tells_all w F E) enter_all
  go_enter Tryz.func13, Tryz.ntmps13
  go_wp2_with (first | (go_at_call 38; refine hT.mono ?_; rintro e w1 ⟨v, rfl, h1, h2, h3⟩))
  go_returns
  exact ⟨v, rfl, h1, h2, h3⟩
set_option maxRecDepth 100000 in
set_option maxHeartbeats 1000000 in
theorem written_any {w : World} {g mp mw : Nat} {f fw : Int → Option Value} {Z : GZ} {E F : Nat → Prop} (H : Gr w g mp mw f fw Z E F) :
    Calls Tryz.prog 14 #[.pointer (some ⟨g, 0, none⟩)] w fun e w' => ∃ v, e = .returned v ∧ OwV w' v (ids (thP Z.l fun p => p.wr)) ∧ New w.heap.size v ∧ Below w.heap.size w w' := by
  have hT := those_any H 40 #[] _ (tells_written w F E) enter_written
  go_enter Tryz.func14, Tryz.ntmps14
  go_wp2_with (first | (go_at_call 38; refine hT.mono ?_; rintro e w1 ⟨v, rfl, h1, h2, h3⟩))
  go_returns
  exact ⟨v, rfl, h1, h2, h3⟩
end Go.Proofs.YtdfifneikmlmoaaGreat
