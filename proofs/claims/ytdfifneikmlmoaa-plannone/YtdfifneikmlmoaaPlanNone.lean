/-
  The statement PlanNone, proved: for every list of numbers and every number the law returns true; no condition.
-/
import Derived.Test.YtdfifneikmlmoaaPlI
import Derived.Test.YtdfifneikmlmoaaFewA
import Derived.Test.YtdfifneikmlmoaaPtIn
namespace Go.Proofs.Ytdfifneikmlmoaa.planNone
open Go.ChangeShapes Go.WideShapes Go.ChangeAt Go.RowKit
set_option linter.unusedVariables false
set_option linter.unusedSimpArgs false

theorem buildP0 (w : World) : (Instr.build 53 #[]).run Try.prog w = .ok (.agg (Pc.cs ⟨0, 0, 0⟩).toArray) w := by kernel_rfl
theorem at_bldP0 {ops : Array Oper} {rest : List Oper} {o : Oper} {a : Act} {w : World} {Q : Exit → Act → World → Prop} (hw : Region.wanted o (yielded ops a.tmps) = true) (ho : o.op = .build 53 #[])
    (h : wpList Try.prog ops Q rest (a.put o.dst (.agg (Pc.cs ⟨0, 0, 0⟩).toArray)) w) : wpList Try.prog ops Q (o :: rest) a w := by
  refine op_val hw _ _ ?_ h
  simp [execOp, ho, buildP0]
set_option maxRecDepth 100000 in
set_option maxHeartbeats 4000000 in
theorem walk (s : Sv) (l : List Int) (x : Int) (w : World) (hs : InsS w s l) (w0 : (Lit.int .i64 x).wf = true) :
    Calls Try.prog 5 #[.slice s.a s.n s.c, .int .i64 x] w fun e w' => e = .returned (.bool true) ∧ Below w.heap.size w w' := by
  have t1 : Hid True := trivial
  have t2 : Hid True := trivial
  have t3 : Hid True := trivial
  have t4 : Hid True := trivial
  have ld : s.n ≤ maxLen := Nat.le_trans hs.i.le hs.i.cap
  have le1 := hs.i.le
  have em1 : (min (s.n : Int) 8) = ((min s.n 8 : Nat) : Int) := by omega
  have hl8 : (l.take 8).length ≤ 1000 := by rw [List.length_take]; omega
  have ec : cst [] = ⟨0, 0, 0⟩ := rfl
  have hEq := eqPc ⟨0, 0, 0⟩ ⟨0, 0, 0⟩
  rw [Pc.same_self] at hEq
  have hGd := guardPc
  go_enter Try.func5, Try.ntmps5
  go_wp2_with (first
    | (go_at_call 6; refine (works16_any _).mono ?_; rintro e w1 ⟨rfl, B1⟩)
    | (go_at_call 9; refine (gints_any ((hs.later B1).cut 8) (by omega)).mono ?_; rintro e w2 ⟨s2, rfl, i2, -, b2⟩
       have B2 := bnext B1 b2 (Nat.le_refl _)
       clear em1 ld le1)
    | (go_at_call 15; refine (next_nil i2 hl8).mono ?_; rintro e w3 ⟨rfl, b3⟩
       have B3 := bnext B2 b3 (Nat.le_refl _))
    | (clear t1; refine at_newBt (by rfl) (by rfl) ?_; intro g4 w4 a4 a4' r4 b4)
    | (clear t2; refine at_putBt (by rfl) _ _ (by rfl) g4 (by rfl) (.slice none 0 0) rfl false (by rfl) _ r4 rfl ?_; intro w5 r5 s5
       have B25 : Below w2.heap.size w2 w5 := ((Stp.of_below (bnext b3 b4 (Nat.le_refl _)) (fun _ => False)).next s5 (fun x e => .inr (by have := b3.size; omega))).below (Nat.le_refl _) (fun x e => e.elim)
       have B5 := bnext B2 B25 (Nat.le_refl _)
       have i5 := i2.later B25
       have c0 := r5.cell 0 _ rfl)
    | (go_at_call 10; refine (batches_nil i5 hl8).mono ?_; rintro e w6 ⟨rfl, b6⟩
       have B6 := bnext B5 b6 (Nat.le_refl _)
       have hi6 := one_i w6 x w0)
    | (clear t3; refine at_bldB1 (by rfl) _ (by rfl) ⟨some ⟨w6.heap.size, 0, none⟩, 1, 1⟩ (by rfl) ?_)
    | (go_at_call 12; refine (carry_nil hi6 (by simp) false).mono ?_; rintro e w7 ⟨rfl, b7⟩
       have B7 : Below w.heap.size w w7 := bnext (B6.alloc B6.size _) b7 (Nat.le_refl _))
    | (go_at_call 19; refine (cost_any (BtS.nil _ _ 0) (by simp) (fun b hb => by cases hb)).mono ?_; rw [ec]; rintro e w8 ⟨rfl, b8⟩
       have B8 := bnext B7 b8 (Nat.le_refl _))
    | (clear t4; refine at_bldP0 (by rfl) (by rfl) ?_))
  trace_state
  go_returns
  exact ⟨rfl, B8⟩

theorem own : ownKnob Try.prog.godebug = none := by kernel_rfl
theorem laidOut : laidOutB Try.prog = true := by kernel_rfl
set_option maxRecDepth 100000 in
theorem lifted (os : Os) (started : os.Started) (H : Type) (enc : TypeId × Value → H) :
    ReturnsInHanded {} Try.checked os 5 .any (Rows.planNoneSpec.pre6 enc Try.prog Try.f5 Rows.planNoneRow.domain false) (Rows.planNoneSpec.post enc Try.prog Try.f5 false true false false) := by
  refine returnsInHanded_of_change (C := Try.checked) own started (by kernel_rfl) Try.func5
    (ChangeSpec.witness6 (enc := enc) (C := Try.checked) false ⟨#[], #[.slice none 0 0, .int .i64 0], []⟩ 8 (by kernel_rfl) (by kernel_rfl) (by kernel_rfl) (by kernel_rfl)) ?_
  intro W base args ds gs before hval0 hW hcnd _
  have hval : ∀ (j : Nat) t v, Try.f5.params[j]? = some t → args[j]? = some v → Value.okWide Try.prog W .any base t v := hval0
  have hW' := hW
  obtain ⟨p, q, hA0, hV, rfl, hfz, hnd⟩ := hW
  have hA : DataW.TrodAll enc Try.prog W 0 (fun _ => true) true Try.f5.params.toList args.toList ds p := hA0
  rw [Try.params5] at hA hval
  obtain ⟨v0, vs0, d0, ds0, p0, q0, hargs, rfl, rfl, h0, r0⟩ := trodAll_cons hA
  obtain ⟨v1, vs1, d1, ds1, p1, q1, rfl, rfl, rfl, h1, r1⟩ := trodAll_cons r0
  obtain ⟨rfl, rfl, rfl⟩ := trodAll_nil r1
  obtain rfl : args = #[v0, v1] := by cases args; simp_all
  obtain ⟨rfl, rfl⟩ := trodVars_none hV
  obtain ⟨a0, len0, cap0, rfl⟩ := okWide_slice Try.underlying23 (hval 0 23 v0 rfl rfl)
  have k0 := h0
  have lt0 : ∀ x ∈ p0, x.block < W.heap.size := by obtain ⟨m, hm⟩ := k0; exact DataW.trod_lt m _ _ _ hm
  obtain ⟨z0, w0⟩ : ∃ zs : List Int, InsS W ⟨a0, len0, cap0⟩ zs := by
    obtain ⟨fuel, hf⟩ := h0
    obtain ⟨s, l, hcs, hi⟩ := insS_of_trod hf
    simp [Value.cells] at hcs
    obtain ⟨rfl, rfl, rfl⟩ := hcs
    exact ⟨l, hi⟩
  obtain ⟨a1, rfl, rfl, rfl, w1⟩ := open_int Try.underlying3 (hval 1 3 v1 rfl rfl) h1
  clear hA0 hval0
  refine (walk ⟨a0, len0, cap0⟩ z0 a1 W w0 w1).mono fun e W' ⟨he, bel⟩ => ?_
  subst he
  exact ⟨_, rfl, _, _, _, [], _, [], hW', trodAll_mk1 (shut_bool Try.underlying4 _), (trodAll_cons_mk (Below.trod laidOut (by kernel_rfl) (of_decide_eq_true (by kernel_rfl)) k0 bel lt0) (trodAll_cons_mk (shut_int Try.underlying3 w1) trodAll_mk0)), rfl, bel.frame _, fun h => by cases h⟩
theorem over : Rows.planNoneRow.holds Try.pinned (OpenSpec.ofChange Rows.planNoneSpec) :=
  OpenClaim.holds_of_wide 5 Try.f5 rfl rfl rfl rfl rfl rfl rfl ⟨rfl, rfl, rfl, rfl, rfl⟩ rfl rfl rfl rfl rfl (by kernel_rfl) Try.func5 (by kernel_rfl)
    (of_decide_eq_true (by kernel_rfl)) (by unfold Func.isWrapper; first | (rw [if_pos (by decide +kernel)]; kernel_rfl) | (rw [if_neg (by decide +kernel)]; exact ⟨rfl, rfl⟩))
    (fun os started H enc _ => lifted os started H enc)
end Go.Proofs.Ytdfifneikmlmoaa.planNone
namespace Go.Proofs.Ytdfifneikmlmoaa
/-- The statement. -/
theorem planNone_holds : Rows.PlanNoneSaid := planNone.over
#print axioms planNone_holds
end Go.Proofs.Ytdfifneikmlmoaa
