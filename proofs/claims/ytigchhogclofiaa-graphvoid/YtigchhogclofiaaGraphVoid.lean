/-
  The statement GraphVoid, proved: for every number the law returns true; no condition.
-/
import Derived.Test.YtigchhogclofiaaGrZ
namespace Go.Proofs.Ytigchhogclofiaa.graphVoid
open Go.ChangeShapes Go.WideShapes Go.ChangeAt Go.RowKit
set_option linter.unusedVariables false
set_option linter.unusedSimpArgs false

def pV : Pt := ⟨0, 1, 0, [1], 0, [], 0, 0, false⟩
theorem bldV (s : Sv) (w : World) : (Instr.build 30 #[(1, .int .i64 1), (3, .slice s.a s.n s.c)]).run Try.prog w = .ok (.agg (pV.cs s Sv.nil).toArray) w := by kernel_rfl
theorem at_bldPV {ops : Array Oper} {rest : List Oper} {o : Oper} {a : Act} {w : World} {Q : Exit → Act → World → Prop} (hw : Region.wanted o (yielded ops a.tmps) = true) (x y : Operand) (ho : o.op = .build 30 #[(1, x), (3, y)]) (s : Sv) (hx : a.eval x = .int .i64 1) (hy : a.eval y = .slice s.a s.n s.c)
    (h : wpList Try.prog ops Q rest (a.put o.dst (.agg (pV.cs s Sv.nil).toArray)) w) : wpList Try.prog ops Q (o :: rest) a w := by
  refine op_val hw _ _ ?_ h
  simp [execOp, ho, hx, hy, bldV]
set_option maxRecDepth 100000 in
set_option maxHeartbeats 4000000 in
theorem walk (i : Int) (w : World) (w0 : (Lit.int .i64 i).wf = true) :
    Calls Try.prog 4 #[.int .i64 i] w fun e w' => e = .returned (.bool true) ∧ Below w.heap.size w w' := by
  have t1 : True := trivial
  have t2 : True := trivial
  have t3 : True := trivial
  go_enter Try.func4, Try.ntmps4
  go_wp2_with (first
    | (go_at_call 5; refine (works_any _).mono ?_; rintro e w1 ⟨rfl, B1⟩)
    | (clear t1; refine at_bldPV (by rfl) _ _ (by rfl) ⟨some ⟨w1.heap.size, 0, none⟩, 1, 1⟩ (by rfl) (by rfl) ?_)
    | (go_at_call 8; refine (add_nil _ _ _ _).mono ?_; rintro e w2 ⟨rfl, b2⟩
       have B2 : Below w.heap.size w w2 := bnext (B1.alloc B1.size _) b2 (Nat.le_refl _))
    | (go_at_call 15; refine (get_nil i _).mono ?_; rintro e w3 ⟨rfl, b3⟩
       have B3 := bnext B2 b3 (Nat.le_refl _))
    | (clear t2; refine at_newP (by rfl) (by rfl) ?_; intro g4 w4 a4 a5 r4 b4)
    | (clear t3; refine at_putP (by rfl) _ _ (by rfl) g4 (by rfl) Pt.zero Sv.nil Sv.nil (by rfl) _ r4 rfl ?_; intro w5 r5 s5
       have B5 : Below w.heap.size w w5 := ((Stp.of_below (bnext B3 b4 (Nat.le_refl _)) (fun _ => False)).next s5 (fun x e => .inr (by have := B3.size; omega))).below (Nat.le_refl _) (fun x e => e.elim))
    | (go_at_call 13; refine (write_nil _ _).mono ?_; rintro e w6 ⟨rfl, rfl⟩)
    | (go_at_call 16; refine (settleOf_nil i _).mono ?_; rintro e w7 ⟨rfl, b7⟩
       have B7 : Below w.heap.size w w7 := bnext (B5.alloc B5.size _) b7 (Nat.le_refl _))
    | (go_at_call 14; refine (settleAll_nil _).mono ?_; rintro e u ⟨rfl, rfl⟩)
    | (go_at_call 10; refine (all_nil _).mono ?_; rintro e u ⟨rfl, rfl⟩)
    | (go_at_call 17; refine (written_nil _).mono ?_; rintro e u ⟨rfl, rfl⟩)
    | (go_at_call 11; refine (sectors_nil _).mono ?_; rintro e u ⟨rfl, rfl⟩)
    | (go_at_call 18; refine (of_nil i _).mono ?_; rintro e u ⟨rfl, rfl⟩)
    | (go_at_call 12; refine (ready_nil i _).mono ?_; rintro e u ⟨rfl, rfl⟩)
    | (go_at_call 19; refine (by_nil i _).mono ?_; rintro e w8 ⟨rfl, b8⟩
       have B8 := bnext B7 b8 (Nat.le_refl _))
    | (go_at_call 20; refine (about_nil i _).mono ?_; rintro e w9 ⟨rfl, b9⟩
       have B9 := bnext B8 b9 (Nat.le_refl _)
       have hi9 := one_i w9 i w0)
    | (go_at_call 21; refine (needed_nil hi9 (by simp)).mono ?_; rintro e w10 ⟨rfl, b10⟩
       have B10 : Below w.heap.size w w10 := bnext (B9.alloc B9.size _) b10 (Nat.le_refl _))
    | (go_at_call 22; refine (copy_nil _).mono ?_; rintro e u ⟨rfl, rfl⟩))
  go_returns
  exact ⟨rfl, B10⟩

theorem own : ownKnob Try.prog.godebug = none := by kernel_rfl
theorem laidOut : laidOutB Try.prog = true := by kernel_rfl
set_option maxRecDepth 100000 in
theorem lifted (os : Os) (started : os.Started) (H : Type) (enc : TypeId × Value → H) :
    ReturnsInHanded {} Try.checked os 4 .any (Rows.graphVoidSpec.pre6 enc Try.prog Try.f4 Rows.graphVoidRow.domain false) (Rows.graphVoidSpec.post enc Try.prog Try.f4 false true false false) := by
  refine returnsInHanded_of_change (C := Try.checked) own started (by kernel_rfl) Try.func4
    (ChangeSpec.witness6 (enc := enc) (C := Try.checked) false ⟨#[], #[.int .i64 0], []⟩ 8 (by kernel_rfl) (by kernel_rfl) (by kernel_rfl) (by kernel_rfl)) ?_
  intro W base args ds gs before hval0 hW hcnd _
  have hval : ∀ (j : Nat) t v, Try.f4.params[j]? = some t → args[j]? = some v → Value.okWide Try.prog W .any base t v := hval0
  have hW' := hW
  obtain ⟨p, q, hA0, hV, rfl, hfz, hnd⟩ := hW
  have hA : DataW.TrodAll enc Try.prog W 0 (fun _ => true) true Try.f4.params.toList args.toList ds p := hA0
  rw [Try.params4] at hA hval
  obtain ⟨v0, vs0, d0, ds0, p0, q0, hargs, rfl, rfl, h0, r0⟩ := trodAll_cons hA
  obtain ⟨rfl, rfl, rfl⟩ := trodAll_nil r0
  obtain rfl : args = #[v0] := by cases args; simp_all
  obtain ⟨rfl, rfl⟩ := trodVars_none hV
  obtain ⟨a0, rfl, rfl, rfl, w0⟩ := open_int Try.underlying3 (hval 0 3 v0 rfl rfl) h0
  clear hA0 hval0
  refine (walk a0 W w0).mono fun e W' ⟨he, bel⟩ => ?_
  subst he
  exact ⟨_, rfl, _, _, _, [], _, [], hW', trodAll_mk1 (shut_bool Try.underlying4 _), (trodAll_cons_mk (shut_int Try.underlying3 w0) trodAll_mk0), rfl, bel.frame _, fun h => by cases h⟩
theorem over : Rows.graphVoidRow.holds Try.pinned (OpenSpec.ofChange Rows.graphVoidSpec) :=
  OpenClaim.holds_of_wide 4 Try.f4 rfl rfl rfl rfl rfl rfl rfl ⟨rfl, rfl, rfl, rfl, rfl⟩ rfl rfl rfl rfl rfl (by kernel_rfl) Try.func4 (by kernel_rfl)
    (of_decide_eq_true (by kernel_rfl)) (by unfold Func.isWrapper; first | (rw [if_pos (by decide +kernel)]; kernel_rfl) | (rw [if_neg (by decide +kernel)]; exact ⟨rfl, rfl⟩))
    (fun os started H enc _ => lifted os started H enc)
end Go.Proofs.Ytigchhogclofiaa.graphVoid
namespace Go.Proofs.Ytigchhogclofiaa
/-- The statement. -/
theorem graphVoid_holds : Rows.GraphVoidSaid := graphVoid.over
#print axioms graphVoid_holds
end Go.Proofs.Ytigchhogclofiaa
