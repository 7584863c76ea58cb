/-
  The statement NumBack, proved: for every number the law returns true, and what came in reads as it did; no condition.
-/
import Derived.Test.YtccooigblgnndaaNumH
import Derived.Test.YtccooigblgnndaaPlain2
namespace Go.Proofs.Ytccooigblgnndaa.numBack
open Go.ChangeShapes Go.WideShapes Go.ChangeAt Go.RowKit
set_option linter.unusedVariables false

theorem walk (a0 : Int) (w : World) (w0 : (Lit.int .u32 a0).wf = true) :
    Calls Try.prog 5 #[.int .u32 a0] w fun e w' => e = .returned (.bool true) ∧ Below w.heap.size w w' := by
  have r0 := bounds_u32 w0
  clear w0
  obtain ⟨y, hy⟩ : ∃ y, IntKind.u16.wrap a0 = y := ⟨_, rfl⟩
  have r1 : 0 ≤ y ∧ y ≤ 65535 := by rw [IntKind.wrap_u16] at hy; omega
  have e1 : le2 [y % 256, y / 256] 0 = y := by simp [le2]; omega
  have e2 : le4 [a0 % 256, a0 / 256 % 256, a0 / 65536 % 256, a0 / 16777216] 0 = a0 := by simp [le4]; omega
  go_enter Try.func5, Try.ntmps5
  go_wp2_with (first
    | (go_at_call 19; refine (works_any _).mono ?_; rintro e wz ⟨rfl, hz⟩)
    | (go_at_call 14; refine (put16_any y _ (by omega) (by omega)).mono ?_; rintro e wa ⟨rfl, ha⟩)
    | (go_at_call 15; refine (put32_any _ _ (by omega) (by omega)).mono ?_; rintro e wb ⟨rfl, hb⟩))
  have hAB : Below w.heap.size w wb := bnext (bnext hz ha (Nat.le_refl _)) hb (Nat.le_refl _)
  have hzz := hAB.size
  generalize hW : (wb.alloc (.cells #[.int .u8 (y % 256), .int .u8 (y / 256)] 31)).alloc (.cells #[.int .u8 (a0 % 256), .int .u8 (a0 / 256 % 256), .int .u8 (a0 / 65536 % 256), .int .u8 (a0 / 16777216)] 33) = W
  have hWw : Below w.heap.size w W := by rw [← hW]; go_grown
  have hA : Bs W (some ⟨wb.heap.size, 0, none⟩) 2 2 [y % 256, y / 256] := by
    rw [← hW]
    exact bs_at [y % 256, y / 256] (two_range (by omega) (by omega)) (show 2 ≤ maxLen by decide) rfl ((Below.refl _ _).alloc (by simp) _)
  have hB : Bs W (some ⟨wb.heap.size + 1, 0, none⟩) 4 4 [a0 % 256, a0 / 256 % 256, a0 / 65536 % 256, a0 / 16777216] := by
    rw [← hW]
    exact bs_at [a0 % 256, a0 / 256 % 256, a0 / 65536 % 256, a0 / 16777216] (four_range (by omega) (by omega) (by omega) (by omega)) (show 4 ≤ maxLen by decide) (w := wb.alloc (.cells #[.int .u8 (y % 256), .int .u8 (y / 256)] 31)) (by simp) (Below.refl _ _)
  clear hW ha hb hz hzz hAB
  have g1 := get16_zero _ 2 2 _ W hA (by decide)
  have g2 := get32_zero _ 4 4 _ W hB (by decide)
  rw [e1] at g1
  rw [e2] at g2
  refine g1.mono ?_
  rintro e wc ⟨rfl, rfl⟩
  go_wp2_with (go_at_call 12; refine g2.mono ?_; rintro e wd ⟨rfl, rfl⟩)
  go_returns
  exact ⟨rfl, hWw⟩

theorem own : ownKnob Try.prog.godebug = none := by kernel_rfl
theorem laidOut : laidOutB Try.prog = true := by kernel_rfl
set_option maxRecDepth 100000 in
theorem lifted (os : Os) (started : os.Started) (H : Type) (enc : TypeId × Value → H) :
    ReturnsInHanded {} Try.checked os 5 .any (Rows.numBackSpec.pre6 enc Try.prog Try.f5 Rows.numBackRow.domain false) (Rows.numBackSpec.post enc Try.prog Try.f5 false true false false) := by
  refine returnsInHanded_of_change (C := Try.checked) own started (by kernel_rfl) Try.func5
    (ChangeSpec.witness6 (enc := enc) (C := Try.checked) false ⟨#[], #[.int .u32 0], []⟩ 8 (by kernel_rfl) (by kernel_rfl) (by kernel_rfl) (by kernel_rfl)) ?_
  intro W base args ds gs before hval0 hW hcnd _
  have hval : ∀ (j : Nat) t v, Try.f5.params[j]? = some t → args[j]? = some v → Value.okWide Try.prog W .any base t v := hval0
  have hW' := hW
  obtain ⟨p, q, hA0, hV, rfl, hfz, hnd⟩ := hW
  have hA : DataW.TrodAll enc Try.prog W 0 (fun _ => true) true Try.f5.params.toList args.toList ds p := hA0
  rw [Try.params5] at hA hval
  obtain ⟨v0, vs0, d0, ds0, p0, q0, hargs, rfl, rfl, h0, r0⟩ := trodAll_cons hA
  obtain ⟨rfl, rfl, rfl⟩ := trodAll_nil r0
  obtain rfl : args = #[v0] := by cases args; simp_all
  obtain ⟨rfl, rfl⟩ := trodVars_none hV
  obtain ⟨a0, rfl, rfl, rfl, w0⟩ := open_int Try.underlying23 (hval 0 23 v0 rfl rfl) h0
  clear hA0 hval0
  refine (walk a0 W w0).mono fun e W' ⟨he, bel⟩ => ?_
  subst he
  exact ⟨_, rfl, _, _, _, [], _, [], hW', trodAll_mk1 (shut_bool Try.underlying4 _), (trodAll_cons_mk (shut_int Try.underlying23 w0) trodAll_mk0), rfl, bel.frame _, fun h => by cases h⟩
theorem over : Rows.numBackRow.holds Try.pinned (OpenSpec.ofChange Rows.numBackSpec) :=
  OpenClaim.holds_of_wide 5 Try.f5 rfl rfl rfl rfl rfl rfl rfl ⟨rfl, rfl, rfl, rfl, rfl⟩ rfl rfl rfl rfl rfl (by kernel_rfl) Try.func5 (by kernel_rfl)
    (of_decide_eq_true (by kernel_rfl)) (by unfold Func.isWrapper; first | (rw [if_pos (by decide +kernel)]; kernel_rfl) | (rw [if_neg (by decide +kernel)]; exact ⟨rfl, rfl⟩))
    (fun os started H enc _ => lifted os started H enc)
end Go.Proofs.Ytccooigblgnndaa.numBack
namespace Go.Proofs.Ytccooigblgnndaa
/-- The statement. -/
theorem numBack_holds : Rows.NumBackSaid := numBack.over
#print axioms numBack_holds
end Go.Proofs.Ytccooigblgnndaa
