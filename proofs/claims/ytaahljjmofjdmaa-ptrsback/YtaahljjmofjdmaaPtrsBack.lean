/-
  The statement PtrsBack, proved: for every two numbers the law returns true; no condition.
-/
import Derived.Test.YtaahljjmofjdmaaPtrW
import Derived.Test.YtaahljjmofjdmaaBaseA
import Derived.Lib.SmallJoins
namespace Go.Proofs.Ytaahljjmofjdmaa.ptrsBack
open Go.ChangeShapes Go.WideShapes Go.ChangeAt Go.RowKit
set_option linter.unusedVariables false

set_option maxRecDepth 100000 in
set_option maxHeartbeats 4000000 in
theorem walk (k l : Int) (w : World) (hk : (Lit.int .i64 k).wf = true) (hl : (Lit.int .i64 l).wf = true) :
    Calls Try.prog 5 #[.int .i64 k, .int .i64 l] w fun e w' => e = .returned (.bool true) ∧ Below w.heap.size w w' := by
  have A1 := fun w => among_any k 760 w (by omega) (by omega)
  have A2 := fun w => among_any l 760 w (by omega) (by omega)
  have ha := among_lt k 760 (by omega)
  have hb := among_lt l 760 (by omega)
  generalize among k 760 = a at *
  generalize among l 760 = b at *
  have ka : isBk (a : Int) := ⟨by omega, by omega⟩
  have kb : isBk (b : Int) := ⟨by omega, by omega⟩
  have H1 := fun w => to_any (a : Int) w
  have H2 := fun w => to_any (b : Int) w
  have H3 := fun w => block_any (wyK a) w
  have hE := eqW (wyK a) (wyK b)
  have hG := guardW
  rw [wy_one _ _ ka kb] at hE
  rw [(wy_ways _ ka).1, (wy_ways _ ka).2] at H3
  have e1 : kE (a : Int) = 0 := by unfold kE; rw [if_pos ka]
  have e2 : kE (b : Int) = 0 := by unfold kE; rw [if_pos kb]
  rw [e1] at H1
  rw [e2] at H2
  have H4 := fun w => blocks_any (64 * (a : Int)) w (by omega)
  have H5 := fun w => blocks_any (64 * (a : Int) + 1) w (by omega)
  rw [(bkC_of _ ka.1).1] at H4
  rw [(bkC_of _ ka.1).2] at H5
  have f1 : IntKind.i64.wrap (64 * (a : Int)) = 64 * (a : Int) := i64_small (by omega) (by omega)
  have f2 : IntKind.i64.wrap (64 * (a : Int) + 1) = 64 * (a : Int) + 1 := i64_small (by omega) (by omega)
  have f3 : IntKind.i64.wrap ((a : Int) + 1) = (a : Int) + 1 := i64_small (by omega) (by omega)
  clear ka kb e1 e2 hk hl
  generalize wyK a = Y at *
  generalize wyK b = Z at *
  have t1 : True := trivial
  have t2 : True := trivial
  have t3 : True := trivial
  have t4 : True := trivial
  have t5 : True := trivial
  go_enter Try.func5, Try.ntmps5
  go_wp2_with (first
    | (go_at_call 14; refine (works11_any _).mono ?_; rintro e w1 ⟨rfl, b1⟩)
    | (have _t := t1; go_at_call 21; refine (A1 _).mono ?_; rintro e v1 ⟨rfl, rfl⟩; clear _t t1)
    | (go_at_call 21; refine (A2 _).mono ?_; rintro e v1 ⟨rfl, rfl⟩)
    | (have _t := t2; go_at_call 15; refine (H1 _).mono ?_; rintro e w2 ⟨rfl, b2⟩; clear _t t2)
    | (have _t := t3; refine at_newC 36 3 Wy.zero.cs srtW (by rfl) (by rfl) ?_; intro g1 w3 a3 z3 r3 b3; clear _t t3)
    | (have _t := t4; refine at_putC 36 3 Wy.zero.cs srtW (by rfl) _ _ (by rfl) g1 (by rfl) Y.cs (by rfl) rfl (Wy.cs_one _) _ r3 rfl ?_; intro w4 r4 s4
       have S4 : Stp (fun y => w.heap.size ≤ y) w w4 := (Stp.of_below (bnext (bnext b1 b2 (Nat.le_refl _)) b3 (Nat.le_refl _)) _).next s4 (fun y hy => .inl (by subst hy; have := b1.size; have := b2.size; omega))
       clear _t t4)
    | (go_at_call 15; refine (H2 _).mono ?_; rintro e w5 ⟨rfl, b5⟩)
    | (refine at_newC 36 3 Wy.zero.cs srtW (by rfl) (by rfl) ?_; intro g2 w6 a6 z6 r6 b6)
    | (refine at_putC 36 3 Wy.zero.cs srtW (by rfl) _ _ (by rfl) g2 (by rfl) Z.cs (by rfl) rfl (Wy.cs_one _) _ r6 rfl ?_; intro w7 r7 s7
       have y7 := ((r4.later b5).later b6).step s7 (by have := (r4.later b5).lt; omega)
       have S7 : Stp (fun y => w.heap.size ≤ y) w w7 := (S4.next (Stp.of_below (bnext b5 b6 (Nat.le_refl _)) (fun _ => False)) (fun _ h => h.elim)).next s7 (fun y hy => .inl (by subst hy; have := S4.size; have := b5.size; omega)))
    | (refine at_getC 36 3 Wy.zero.cs srtW (by rfl) _ (by rfl) g1 (by rfl) Y.cs y7 rfl ?_)
    | (go_at_call 17; refine (H3 _).mono ?_; rintro e w8 ⟨rfl, b8⟩
       have y8 := y7.later b8
       have z8 := r7.later b8)
    | (refine at_getC 36 3 Wy.zero.cs srtW (by rfl) _ (by rfl) g1 (by rfl) Y.cs y8 rfl ?_)
    | (refine at_getC 36 3 Wy.zero.cs srtW (by rfl) _ (by rfl) g2 (by rfl) Z.cs z8 rfl ?_)
    | (have _t := t5; go_at_call 19; refine (H5 _).mono ?_; rintro e v1 ⟨rfl, rfl⟩; clear _t t5)
    | (go_at_call 19; refine (H4 _).mono ?_; rintro e v1 ⟨rfl, rfl⟩))
  go_returns
  exact ⟨rfl, (S7.next (Stp.of_below b8 (fun _ => False)) (fun _ h => h.elim)).below (Nat.le_refl _) (fun _ h => h)⟩
theorem own : ownKnob Try.prog.godebug = none := by kernel_rfl
theorem laidOut : laidOutB Try.prog = true := by kernel_rfl
set_option maxRecDepth 100000 in
theorem lifted (os : Os) (started : os.Started) (H : Type) (enc : TypeId × Value → H) :
    ReturnsInHanded {} Try.checked os 5 .any (Rows.ptrsBackSpec.pre6 enc Try.prog Try.f5 Rows.ptrsBackRow.domain false) (Rows.ptrsBackSpec.post enc Try.prog Try.f5 false true false false) := by
  refine returnsInHanded_of_change (C := Try.checked) own started (by kernel_rfl) Try.func5
    (ChangeSpec.witness6 (enc := enc) (C := Try.checked) false ⟨#[], #[.int .i64 0, .int .i64 0], []⟩ 8 (by kernel_rfl) (by kernel_rfl) (by kernel_rfl) (by kernel_rfl)) ?_
  intro W base args ds gs before hval0 hW hcnd _
  have hval : ∀ (j : Nat) t v, Try.f5.params[j]? = some t → args[j]? = some v → Value.okWide Try.prog W .any base t v := hval0
  have hW' := hW
  obtain ⟨p, q, hA0, hV, rfl, hfz, hnd⟩ := hW
  have hA : DataW.TrodAll enc Try.prog W 0 (fun _ => true) true Try.f5.params.toList args.toList ds p := hA0
  rw [Try.params5] at hA hval
  obtain ⟨v0, vs0, d0, ds0, p0, q0, hargs, rfl, rfl, h0, r0⟩ := trodAll_cons hA
  obtain ⟨v1, vs1, d1, ds1, p1, q1, rfl, rfl, rfl, h1, r1⟩ := trodAll_cons r0
  obtain ⟨rfl, rfl, rfl⟩ := trodAll_nil r1
  obtain rfl : args = #[v0, v1] := by cases args; simp_all
  obtain ⟨rfl, rfl⟩ := trodVars_none hV
  obtain ⟨a0, rfl, rfl, rfl, w0⟩ := open_int Try.underlying3 (hval 0 3 v0 rfl rfl) h0
  obtain ⟨a1, rfl, rfl, rfl, w1⟩ := open_int Try.underlying3 (hval 1 3 v1 rfl rfl) h1
  clear hA0 hval0
  refine (walk a0 a1 W w0 w1).mono fun e W' ⟨he, bel⟩ => ?_
  subst he
  exact ⟨_, rfl, _, _, _, [], _, [], hW', trodAll_mk1 (shut_bool Try.underlying4 _), (trodAll_cons_mk (shut_int Try.underlying3 w0) (trodAll_cons_mk (shut_int Try.underlying3 w1) trodAll_mk0)), rfl, bel.frame _, fun h => by cases h⟩
theorem over : Rows.ptrsBackRow.holds Try.pinned (OpenSpec.ofChange Rows.ptrsBackSpec) :=
  OpenClaim.holds_of_wide 5 Try.f5 rfl rfl rfl rfl rfl rfl rfl ⟨rfl, rfl, rfl, rfl, rfl⟩ rfl rfl rfl rfl rfl (by kernel_rfl) Try.func5 (by kernel_rfl)
    (of_decide_eq_true (by kernel_rfl)) (by unfold Func.isWrapper; first | (rw [if_pos (by decide +kernel)]; kernel_rfl) | (rw [if_neg (by decide +kernel)]; exact ⟨rfl, rfl⟩))
    (fun os started H enc _ => lifted os started H enc)
end Go.Proofs.Ytaahljjmofjdmaa.ptrsBack
namespace Go.Proofs.Ytaahljjmofjdmaa
/-- The statement. -/
theorem ptrsBack_holds : Rows.PtrsBackSaid := ptrsBack.over
#print axioms ptrsBack_holds
end Go.Proofs.Ytaahljjmofjdmaa
