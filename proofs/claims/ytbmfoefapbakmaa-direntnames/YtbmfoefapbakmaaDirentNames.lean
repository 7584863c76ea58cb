/-
  The statement DirentNames, proved: for every text the law returns true; no condition.
-/
import Derived.Test.YtbmfoefapbakmaaDirW
import Derived.Test.YtbmfoefapbakmaaDirIn
namespace Go.Proofs.Ytbmfoefapbakmaa.direntNames
open Go.ChangeShapes Go.WideShapes Go.ChangeAt Go.RowKit
set_option linter.unusedVariables false

set_option maxRecDepth 100000 in
theorem walk (l : List UInt8) (w : World) : Calls Try.prog 7 #[.string (str l)] w fun e w' => e = .returned (.bool true) ∧ Below w.heap.size w w' := by
  have hz := str_size l
  have hmin := cut_min l
  have hle : ((min l.length 100 : Nat) : Int) ≤ (l.length : Int) := by omega
  have hcut := str_cut l (min l.length 100)
  have H1 := check_any (l.take (min l.length 100))
  have H2 := rcheck_any (l.take (min l.length 100))
  generalize min l.length 100 = m at *
  generalize l.take m = s at *
  generalize nE s = E at *
  go_enter Try.func7, Try.ntmps7
  go_wp2_with (first
    | (go_at_call 11; refine (H1 _).mono ?_; rintro e w1 ⟨rfl, b1⟩)
    | (go_at_call 12; refine (H2 _).mono ?_; rintro e u ⟨rfl, rfl⟩)
    | (go_at_call 13; refine (works12_any _).mono ?_; rintro e w3 ⟨rfl, b3⟩))
  go_returns
  exact ⟨rfl, bnext b1 b3 (Nat.le_refl _)⟩
theorem own : ownKnob Try.prog.godebug = none := by kernel_rfl
theorem laidOut : laidOutB Try.prog = true := by kernel_rfl
set_option maxRecDepth 100000 in
theorem lifted (os : Os) (started : os.Started) (H : Type) (enc : TypeId × Value → H) :
    ReturnsInHanded {} Try.checked os 7 .any (Rows.direntNamesSpec.pre6 enc Try.prog Try.f7 Rows.direntNamesRow.domain false) (Rows.direntNamesSpec.post enc Try.prog Try.f7 false true false false) := by
  refine returnsInHanded_of_change (C := Try.checked) own started (by kernel_rfl) Try.func7
    (ChangeSpec.witness6 (enc := enc) (C := Try.checked) false ⟨#[], #[.string ByteArray.empty], []⟩ 8 (by kernel_rfl) (by kernel_rfl) (by kernel_rfl) (by kernel_rfl)) ?_
  intro W base args ds gs before hval0 hW hcnd _
  have hval : ∀ (j : Nat) t v, Try.f7.params[j]? = some t → args[j]? = some v → Value.okWide Try.prog W .any base t v := hval0
  have hW' := hW
  obtain ⟨p, q, hA0, hV, rfl, hfz, hnd⟩ := hW
  have hA : DataW.TrodAll enc Try.prog W 0 (fun _ => true) true Try.f7.params.toList args.toList ds p := hA0
  rw [Try.params7] at hA hval
  obtain ⟨v0, vs0, d0, ds0, p0, q0, hargs, rfl, rfl, h0, r0⟩ := trodAll_cons hA
  obtain ⟨rfl, rfl, rfl⟩ := trodAll_nil r0
  obtain rfl : args = #[v0] := by cases args; simp_all
  obtain ⟨rfl, rfl⟩ := trodVars_none hV
  obtain ⟨t0, rfl, rfl, rfl, hs0⟩ := Go.ChangeMaps.open_string Try.underlying9 (hval 0 9 v0 rfl rfl) h0
  obtain ⟨s0, rfl⟩ : ∃ l, t0 = str l := ⟨_, str_of t0⟩
  clear hA0 hval0
  refine (walk s0 W ).mono fun e W' ⟨he, bel⟩ => ?_
  subst he
  exact ⟨_, rfl, _, _, _, [], _, [], hW', trodAll_mk1 (shut_bool Try.underlying4 _), (trodAll_cons_mk (Go.ChangeMaps.shut_string Try.underlying9 hs0) trodAll_mk0), rfl, bel.frame _, fun h => by cases h⟩
theorem over : Rows.direntNamesRow.holds Try.pinned (OpenSpec.ofChange Rows.direntNamesSpec) :=
  OpenClaim.holds_of_wide 7 Try.f7 rfl rfl rfl rfl rfl rfl rfl ⟨rfl, rfl, rfl, rfl, rfl⟩ rfl rfl rfl rfl rfl (by kernel_rfl) Try.func7 (by kernel_rfl)
    (of_decide_eq_true (by kernel_rfl)) (by unfold Func.isWrapper; first | (rw [if_pos (by decide +kernel)]; kernel_rfl) | (rw [if_neg (by decide +kernel)]; exact ⟨rfl, rfl⟩))
    (fun os started H enc _ => lifted os started H enc)
end Go.Proofs.Ytbmfoefapbakmaa.direntNames
namespace Go.Proofs.Ytbmfoefapbakmaa
/-- The statement. -/
theorem direntNames_holds : Rows.DirentNamesSaid := direntNames.over
#print axioms direntNames_holds
end Go.Proofs.Ytbmfoefapbakmaa
