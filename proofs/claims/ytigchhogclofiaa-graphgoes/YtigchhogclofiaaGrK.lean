/-
  What All, Written, By and About of layer 14 do: no statement is proved here.
-/
import Derived.Test.YtigchhogclofiaaGrJ
namespace Go.Proofs.Ytigchhogclofiaa
open Go.ChangeShapes Go.WideShapes Go.ChangeAt Go.RowKit
set_option linter.unusedVariables false
set_option linter.unusedSimpArgs false

set_option maxRecDepth 100000 in
set_option maxHeartbeats 1000000 in
theorem tells_all (w : World) (F E : Nat → Prop) : Tells w F E 29 #[] (fun _ => true) := by
  intro u p d n hu hm
  have tok : True := trivial
  show Calls Try.prog _ #[.agg (p.cs d n).toArray] u _
  go_enter Try.func29, Try.ntmps29
  go_wp2_with (first | (clear tok; refine at_boxP (by rfl) _ (by rfl) p d n (by rfl) ?_; intro g1 w1 a1 a2 r1 b1))
  go_returns
  exact ⟨rfl, b1⟩
set_option maxRecDepth 100000 in
set_option maxHeartbeats 1000000 in
theorem tells_sall (w : World) (F E : Nat → Prop) : Tells w F E 37 #[] (fun _ => true) := by
  intro u p d n hu hm
  have tok : True := trivial
  show Calls Try.prog _ #[.agg (p.cs d n).toArray] u _
  go_enter Try.func37, Try.ntmps37
  go_wp2_with (first | (clear tok; refine at_boxP (by rfl) _ (by rfl) p d n (by rfl) ?_; intro g1 w1 a1 a2 r1 b1))
  go_returns
  exact ⟨rfl, b1⟩
set_option maxRecDepth 100000 in
set_option maxHeartbeats 1000000 in
theorem tells_written (w : World) (F E : Nat → Prop) : Tells w F E 39 #[] (fun p => p.wr) := by
  intro u p d n hu hm
  have tok : True := trivial
  show Calls Try.prog _ #[.agg (p.cs d n).toArray] u _
  go_enter Try.func39, Try.ntmps39
  go_wp2_with (first | (clear tok; refine at_boxP (by rfl) _ (by rfl) p d n (by rfl) ?_; intro g1 w1 a1 a2 r1 b1; have c8 := (Pt.cells r1).2.2.2.2.2.2.2.2))
  go_returns
  exact ⟨rfl, b1⟩
set_option maxRecDepth 100000 in
set_option maxHeartbeats 1000000 in
theorem tells_by (w : World) (F E : Nat → Prop) (gb : Nat) (x : Int) (hc : w.cell? ⟨gb, 0, none⟩ = some (.int .i64 x)) (hF : ¬ F gb) : Tells w F E 40 #[.pointer (some ⟨gb, 0, none⟩)] (fun p => decide (p.own = x)) := by
  intro u p d n hu hm
  have tok : True := trivial
  have hc1 := hu.cell hc hF
  show Calls Try.prog _ #[.agg (p.cs d n).toArray, .pointer (some ⟨gb, 0, none⟩)] u _
  go_enter Try.func40, Try.ntmps40
  go_wp2_with (first | (clear tok; refine at_boxP (by rfl) _ (by rfl) p d n (by rfl) ?_; intro g1 w1 a1 a2 r1 b1; have c8 := (Pt.cells r1).2.2.2.2.2.2.1; have hc2 := (Stp.of_below b1 (fun _ => False)).cell hc1 id))
  go_returns
  exact ⟨ret_bool (by rw [Bool.eq_iff_iff]; simp), b1⟩
theorem enter_tells_by : ∀ args w, (callFunc 40 args).run Try.prog w = .ok (.enter 40 args) w := enters_of Try.func40 (by kernel_rfl) rfl
set_option maxRecDepth 100000 in
set_option maxHeartbeats 1000000 in
theorem tells_about (w : World) (F E : Nat → Prop) (gb : Nat) (x : Int) (hc : w.cell? ⟨gb, 0, none⟩ = some (.int .i64 x)) (hF : ¬ F gb) : Tells w F E 41 #[.pointer (some ⟨gb, 0, none⟩)] (fun p => decide (p.child = x)) := by
  intro u p d n hu hm
  have tok : True := trivial
  have hc1 := hu.cell hc hF
  show Calls Try.prog _ #[.agg (p.cs d n).toArray, .pointer (some ⟨gb, 0, none⟩)] u _
  go_enter Try.func41, Try.ntmps41
  go_wp2_with (first | (clear tok; refine at_boxP (by rfl) _ (by rfl) p d n (by rfl) ?_; intro g1 w1 a1 a2 r1 b1; have c8 := (Pt.cells r1).2.2.2.2.2.2.2.1; have hc2 := (Stp.of_below b1 (fun _ => False)).cell hc1 id))
  go_returns
  exact ⟨ret_bool (by rw [Bool.eq_iff_iff]; simp), b1⟩
theorem enter_tells_about : ∀ args w, (callFunc 41 args).run Try.prog w = .ok (.enter 41 args) w := enters_of Try.func41 (by kernel_rfl) rfl
set_option maxRecDepth 100000 in
set_option maxHeartbeats 1000000 in
theorem tells_sector (w : World) (F E : Nat → Prop) (gb : Nat) (x : Int) (hc : w.cell? ⟨gb, 0, none⟩ = some (.int .i64 x)) (hF : ¬ F gb) : Tells w F E 38 #[.pointer (some ⟨gb, 0, none⟩)] (fun p => decide (p.at' = x)) := by
  intro u p d n hu hm
  have tok : True := trivial
  have hc1 := hu.cell hc hF
  show Calls Try.prog _ #[.agg (p.cs d n).toArray, .pointer (some ⟨gb, 0, none⟩)] u _
  go_enter Try.func38, Try.ntmps38
  go_wp2_with (first | (clear tok; refine at_boxP (by rfl) _ (by rfl) p d n (by rfl) ?_; intro g1 w1 a1 a2 r1 b1; have c8 := (Pt.cells r1).2.1; have hc2 := (Stp.of_below b1 (fun _ => False)).cell hc1 id))
  go_returns
  exact ⟨ret_bool (by rw [Bool.eq_iff_iff]; simp), b1⟩
theorem enter_tells_sector : ∀ args w, (callFunc 38 args).run Try.prog w = .ok (.enter 38 args) w := enters_of Try.func38 (by kernel_rfl) rfl
theorem enter_all : ∀ args w, (callFunc 29 args).run Try.prog w = .ok (.enter 29 args) w := enters_of Try.func29 (by kernel_rfl) rfl
theorem enter_written : ∀ args w, (callFunc 39 args).run Try.prog w = .ok (.enter 39 args) w := enters_of Try.func39 (by kernel_rfl) rfl
set_option maxRecDepth 100000 in
set_option maxHeartbeats 1000000 in
theorem all_any {w : World} {g mp mw : Nat} {f fw : Int → Option Value} {Z : GZ} {E F : Nat → Prop} (H : Gr w g mp mw f fw Z E F) :
    Calls Try.prog 10 #[.pointer (some ⟨g, 0, none⟩)] w fun e w' => ∃ v, e = .returned v ∧ OwV w' v (ids (thP Z.l fun _ => true)) ∧ New w.heap.size v ∧ Below w.heap.size w w' := by
  have hT := those_any H 29 #[] _ (tells_all w F E) enter_all
  go_enter Try.func10, Try.ntmps10
  go_wp2_with (first | (go_at_call 28; refine hT.mono ?_; rintro e w1 ⟨v, rfl, h1, h2, h3⟩))
  go_returns
  exact ⟨v, rfl, h1, h2, h3⟩
set_option maxRecDepth 100000 in
set_option maxHeartbeats 1000000 in
theorem written_any {w : World} {g mp mw : Nat} {f fw : Int → Option Value} {Z : GZ} {E F : Nat → Prop} (H : Gr w g mp mw f fw Z E F) :
    Calls Try.prog 17 #[.pointer (some ⟨g, 0, none⟩)] w fun e w' => ∃ v, e = .returned v ∧ OwV w' v (ids (thP Z.l fun p => p.wr)) ∧ New w.heap.size v ∧ Below w.heap.size w w' := by
  have hT := those_any H 39 #[] _ (tells_written w F E) enter_written
  go_enter Try.func17, Try.ntmps17
  go_wp2_with (first | (go_at_call 28; refine hT.mono ?_; rintro e w1 ⟨v, rfl, h1, h2, h3⟩))
  go_returns
  exact ⟨v, rfl, h1, h2, h3⟩
set_option maxRecDepth 100000 in
set_option maxHeartbeats 1000000 in
theorem by_any {w : World} {g mp mw : Nat} {f fw : Int → Option Value} {Z : GZ} {E F : Nat → Prop} (H : Gr w g mp mw f fw Z E F) (x : Int) :
    Calls Try.prog 19 #[.pointer (some ⟨g, 0, none⟩), .int .i64 x] w fun e w' => ∃ v, e = .returned v ∧ OwV w' v (ids (thP Z.l fun p => decide (p.own = x))) ∧ New w.heap.size v ∧ Below w.heap.size w w' := by
  have b0 : Below w.heap.size w (w.alloc (.cells #[.int .i64 x] 3)) := (Below.refl _ w).alloc (Nat.le_refl _) _
  have hT := those_any (H.later b0) 40 #[.pointer (some ⟨w.heap.size, 0, none⟩)] _ (tells_by _ F E w.heap.size x (by simp) (fun e => by have := H.lt _ e; omega)) enter_tells_by
  go_enter Try.func19, Try.ntmps19
  go_wp2_with (first | (go_at_call 28; refine hT.mono ?_; rintro e w1 ⟨v, rfl, h1, h2, h3⟩))
  go_returns
  exact ⟨v, rfl, h1, fun r hr => Nat.le_trans b0.size (h2 r hr), bnext b0 h3 (Nat.le_refl _)⟩
set_option maxRecDepth 100000 in
set_option maxHeartbeats 1000000 in
theorem about_any {w : World} {g mp mw : Nat} {f fw : Int → Option Value} {Z : GZ} {E F : Nat → Prop} (H : Gr w g mp mw f fw Z E F) (x : Int) :
    Calls Try.prog 20 #[.pointer (some ⟨g, 0, none⟩), .int .i64 x] w fun e w' => ∃ v, e = .returned v ∧ OwV w' v (ids (thP Z.l fun p => decide (p.child = x))) ∧ New w.heap.size v ∧ Below w.heap.size w w' := by
  have b0 : Below w.heap.size w (w.alloc (.cells #[.int .i64 x] 3)) := (Below.refl _ w).alloc (Nat.le_refl _) _
  have hT := those_any (H.later b0) 41 #[.pointer (some ⟨w.heap.size, 0, none⟩)] _ (tells_about _ F E w.heap.size x (by simp) (fun e => by have := H.lt _ e; omega)) enter_tells_about
  go_enter Try.func20, Try.ntmps20
  go_wp2_with (first | (go_at_call 28; refine hT.mono ?_; rintro e w1 ⟨v, rfl, h1, h2, h3⟩))
  go_returns
  exact ⟨v, rfl, h1, fun r hr => Nat.le_trans b0.size (h2 r hr), bnext b0 h3 (Nat.le_refl _)⟩
end Go.Proofs.Ytigchhogclofiaa
