/-
  The statement PtrsBlocks, proved: for every size the law returns true; no condition.
-/
import Derived.Test.YtaahljjmofjdmaaPtrW
import Derived.Lib.SmallJoins
namespace Go.Proofs.Ytaahljjmofjdmaa.ptrsBlocks
open Go.ChangeShapes Go.WideShapes Go.ChangeAt Go.RowKit
set_option linter.unusedVariables false

theorem walk (n : Int) (w : World) (hn : (Lit.int .i64 n).wf = true) :
    Calls Try.prog 6 #[.int .i64 n] w fun e w' => e = .returned (.bool true) ∧ Below w.heap.size w w' := by
  obtain ⟨hn1, hn2⟩ := bounds_i64 hn
  have H1 := fun w => blocks_any n w hn2
  have H2 := fun w => rblocks_any n w hn2
  clear hn
  have hb : Hid (0 < n → 64 * bkC n ≥ n ∧ 64 * (bkC n - 1) < n) := bkC_holds n
  generalize bkC n = K at *
  by_cases h0 : n ≤ 0
  · clear hb hn1 hn2
    go_enter Try.func6, Try.ntmps6
    go_wp2_with (first
      | (go_at_call 19; refine (H1 _).mono ?_; rintro e w1 ⟨rfl, rfl⟩)
      | (go_at_call 20; refine (H2 _).mono ?_; rintro e w1 ⟨rfl, rfl⟩)
      | (go_at_call 14; refine (works11_any _).mono ?_; rintro e w2 ⟨rfl, b2⟩))
    go_returns
    exact ⟨rfl, b2⟩
  · have h0' : 0 < n := by omega
    clear h0
    by_cases h1 : n ≤ 1099511627776
    · obtain ⟨k1, k2⟩ := hb.out h0'
      obtain ⟨A, hA⟩ : ∃ A, Hid (A = 64 * K) := ⟨_, rfl⟩
      obtain ⟨B, hB⟩ : ∃ B, Hid (B = K - 1) := ⟨_, rfl⟩
      obtain ⟨C, hC⟩ : ∃ C, Hid (C = 64 * B) := ⟨_, rfl⟩
      have eA := hA.out
      have eB := hB.out
      have eC := hC.out
      have e1 : IntKind.i64.wrap (64 * K) = A := by rw [IntKind.wrap_i64]; omega
      have e2 : IntKind.i64.wrap (K - 1) = B := by rw [IntKind.wrap_i64]; omega
      have e3 : IntKind.i64.wrap (64 * B) = C := by rw [IntKind.wrap_i64]; omega
      have q1 : n ≤ A := by omega
      have q2 : C < n := by omega
      clear eA eB eC k1 k2 hb hn1 hn2
      go_enter Try.func6, Try.ntmps6
      go_wp2_with (first
        | (go_at_call 19; refine (H1 _).mono ?_; rintro e w1 ⟨rfl, rfl⟩)
        | (go_at_call 20; refine (H2 _).mono ?_; rintro e w1 ⟨rfl, rfl⟩)
        | (go_at_call 14; refine (works11_any _).mono ?_; rintro e w2 ⟨rfl, b2⟩))
      go_returns
      exact ⟨rfl, b2⟩
    · have h1' : 1099511627776 < n := by omega
      clear hb hn1 hn2 h1
      go_enter Try.func6, Try.ntmps6
      go_wp2_with (first
        | (go_at_call 19; refine (H1 _).mono ?_; rintro e w1 ⟨rfl, rfl⟩)
        | (go_at_call 20; refine (H2 _).mono ?_; rintro e w1 ⟨rfl, rfl⟩)
        | (go_at_call 14; refine (works11_any _).mono ?_; rintro e w2 ⟨rfl, b2⟩))
      go_returns
      exact ⟨rfl, b2⟩
theorem own : ownKnob Try.prog.godebug = none := by kernel_rfl
theorem laidOut : laidOutB Try.prog = true := by kernel_rfl
set_option maxRecDepth 100000 in
theorem lifted (os : Os) (started : os.Started) (H : Type) (enc : TypeId × Value → H) :
    ReturnsInHanded {} Try.checked os 6 .any (Rows.ptrsBlocksSpec.pre6 enc Try.prog Try.f6 Rows.ptrsBlocksRow.domain false) (Rows.ptrsBlocksSpec.post enc Try.prog Try.f6 false true false false) := by
  refine returnsInHanded_of_change (C := Try.checked) own started (by kernel_rfl) Try.func6
    (ChangeSpec.witness6 (enc := enc) (C := Try.checked) false ⟨#[], #[.int .i64 0], []⟩ 8 (by kernel_rfl) (by kernel_rfl) (by kernel_rfl) (by kernel_rfl)) ?_
  intro W base args ds gs before hval0 hW hcnd _
  have hval : ∀ (j : Nat) t v, Try.f6.params[j]? = some t → args[j]? = some v → Value.okWide Try.prog W .any base t v := hval0
  have hW' := hW
  obtain ⟨p, q, hA0, hV, rfl, hfz, hnd⟩ := hW
  have hA : DataW.TrodAll enc Try.prog W 0 (fun _ => true) true Try.f6.params.toList args.toList ds p := hA0
  rw [Try.params6] at hA hval
  obtain ⟨v0, vs0, d0, ds0, p0, q0, hargs, rfl, rfl, h0, r0⟩ := trodAll_cons hA
  obtain ⟨rfl, rfl, rfl⟩ := trodAll_nil r0
  obtain rfl : args = #[v0] := by cases args; simp_all
  obtain ⟨rfl, rfl⟩ := trodVars_none hV
  obtain ⟨a0, rfl, rfl, rfl, w0⟩ := open_int Try.underlying3 (hval 0 3 v0 rfl rfl) h0
  clear hA0 hval0
  refine (walk a0 W w0).mono fun e W' ⟨he, bel⟩ => ?_
  subst he
  exact ⟨_, rfl, _, _, _, [], _, [], hW', trodAll_mk1 (shut_bool Try.underlying4 _), (trodAll_cons_mk (shut_int Try.underlying3 w0) trodAll_mk0), rfl, bel.frame _, fun h => by cases h⟩
theorem over : Rows.ptrsBlocksRow.holds Try.pinned (OpenSpec.ofChange Rows.ptrsBlocksSpec) :=
  OpenClaim.holds_of_wide 6 Try.f6 rfl rfl rfl rfl rfl rfl rfl ⟨rfl, rfl, rfl, rfl, rfl⟩ rfl rfl rfl rfl rfl (by kernel_rfl) Try.func6 (by kernel_rfl)
    (of_decide_eq_true (by kernel_rfl)) (by unfold Func.isWrapper; first | (rw [if_pos (by decide +kernel)]; kernel_rfl) | (rw [if_neg (by decide +kernel)]; exact ⟨rfl, rfl⟩))
    (fun os started H enc _ => lifted os started H enc)
end Go.Proofs.Ytaahljjmofjdmaa.ptrsBlocks
namespace Go.Proofs.Ytaahljjmofjdmaa
/-- The statement. -/
theorem ptrsBlocks_holds : Rows.PtrsBlocksSaid := ptrsBlocks.over
#print axioms ptrsBlocks_holds
end Go.Proofs.Ytaahljjmofjdmaa
