/-
  The statement PtrsWays, proved: for every block, way and size the law returns true; no condition.
-/
import Derived.Test.YtaahljjmofjdmaaPtrW
import Derived.Lib.SmallJoins
namespace Go.Proofs.Ytaahljjmofjdmaa.ptrsWays
open Go.ChangeShapes Go.WideShapes Go.ChangeAt Go.RowKit
set_option linter.unusedVariables false

set_option maxRecDepth 100000 in
set_option maxHeartbeats 4000000 in
theorem walk (k : Int) (x : Wy) (n : Int) (w : World) (hk : (Lit.int .i64 k).wf = true) (hn : (Lit.int .i64 n).wf = true) :
    Calls Try.prog 4 #[.int .i64 k, .agg #[.int .i64 x.l, .int .i64 x.f, .int .i64 x.s], .int .i64 n] w fun e w' => e = .returned (.bool true) ∧ Below w.heap.size w w' := by
  obtain ⟨hn1, hn2⟩ := bounds_i64 hn
  have H1 := fun w => blocks_any n w hn2
  have H2 := fun w => rblocks_any n w hn2
  have H3 := fun w => to_any k w
  have H4 := fun w => rto_any k w
  have H5 := fun w => block_any x w
  have H6 := fun w => rblock_any x w
  clear hn hn1 hn2 hk
  generalize bkC n = K at *
  generalize wyK k = Y at *
  generalize kE k = E at *
  generalize bkK x = B at *
  generalize bkE x = F at *
  go_enter Try.func4, Try.ntmps4
  go_wp2_with (first
    | (refine at_boxC 36 (by rfl) _ (by rfl) x.cs (by rfl) x.cs_one ?_; intro g1 w1 a1 z1 r1 b1)
    | (go_at_call 15; refine (H3 _).mono ?_; rintro e w2 ⟨rfl, b2⟩)
    | (refine at_newC 36 3 Wy.zero.cs srtW (by rfl) (by rfl) ?_; intro g2 w3 a3 z3 r3 b3)
    | (refine at_putC 36 3 Wy.zero.cs srtW (by rfl) _ _ (by rfl) g2 (by rfl) Y.cs (by rfl) rfl (Wy.cs_one _) _ r3 rfl ?_; intro w4 r4 s4
       have x4 := ((r1.later b2).later b3).step s4 (by have := (r1.later b2).lt; omega)
       have S4 : Stp (fun y => w.heap.size ≤ y) w w4 := (Stp.of_below (bnext (bnext b1 b2 (Nat.le_refl _)) b3 (Nat.le_refl _)) _).next s4 (fun y hy => .inl (by subst hy; have := b1.size; have := b2.size; omega)))
    | (go_at_call 16; refine (H4 _).mono ?_; rintro e w5 ⟨rfl, b5⟩)
    | (refine at_newC 39 3 Wy.zero.cs srtV (by rfl) (by rfl) ?_; intro g3 w6 a6 z6 r6 b6)
    | (refine at_putC 39 3 Wy.zero.cs srtV (by rfl) _ _ (by rfl) g3 (by rfl) Y.cs (by rfl) rfl (Wy.cs_one _) _ r6 rfl ?_; intro w7 r7 s7
       have x7 := ((x4.later b5).later b6).step s7 (by have := (x4.later b5).lt; omega)
       have y7 := ((r4.later b5).later b6).step s7 (by have := (r4.later b5).lt; omega)
       have S7 : Stp (fun y => w.heap.size ≤ y) w w7 := (S4.next (Stp.of_below (bnext b5 b6 (Nat.le_refl _)) (fun _ => False)) (fun _ h => h.elim)).next s7 (fun y hy => .inl (by subst hy; have := S4.size; have := b5.size; omega)))
    | (refine at_getC 36 3 Wy.zero.cs srtW (by rfl) _ (by rfl) g1 (by rfl) x.cs x7 rfl ?_)
    | (go_at_call 17; refine (H5 _).mono ?_; rintro e w8 ⟨rfl, b8⟩
       have x8 := x7.later b8
       have u0 := x8.cell 0 _ rfl
       have u1 := x8.cell 1 _ rfl
       have u2 := x8.cell 2 _ rfl)
    | (go_at_call 18; refine (H6 _).mono ?_; rintro e w9 ⟨rfl, b9⟩
       have y9 := (y7.later b8).later b9
       have z9 := (r7.later b8).later b9
       have p0 := y9.cell 0 _ rfl
       have p1 := y9.cell 1 _ rfl
       have p2 := y9.cell 2 _ rfl
       have q0 := z9.cell 0 _ rfl
       have q1 := z9.cell 1 _ rfl
       have q2 := z9.cell 2 _ rfl)
    | (go_at_call 19; refine (H1 _).mono ?_; rintro e v1 ⟨rfl, rfl⟩)
    | (go_at_call 20; refine (H2 _).mono ?_; rintro e v1 ⟨rfl, rfl⟩)
    | (go_at_call 14; refine (works11_any _).mono ?_; rintro e v2 ⟨rfl, c2⟩))
  go_returns
  exact ⟨rfl, (S7.next (Stp.of_below (bnext (bnext b8 b9 (Nat.le_refl _)) c2 (Nat.le_refl _)) (fun _ => False)) (fun _ h => h.elim)).below (Nat.le_refl _) (fun _ h => h)⟩
theorem own : ownKnob Try.prog.godebug = none := by kernel_rfl
theorem laidOut : laidOutB Try.prog = true := by kernel_rfl
set_option maxRecDepth 100000 in
theorem lifted (os : Os) (started : os.Started) (H : Type) (enc : TypeId × Value → H) :
    ReturnsInHanded {} Try.checked os 4 .any (Rows.ptrsWaysSpec.pre6 enc Try.prog Try.f4 Rows.ptrsWaysRow.domain false) (Rows.ptrsWaysSpec.post enc Try.prog Try.f4 false true false false) := by
  refine returnsInHanded_of_change (C := Try.checked) own started (by kernel_rfl) Try.func4
    (ChangeSpec.witness6 (enc := enc) (C := Try.checked) false ⟨#[], #[.int .i64 0, .agg #[.int .i64 0, .int .i64 0, .int .i64 0], .int .i64 0], []⟩ 8 (by kernel_rfl) (by kernel_rfl) (by kernel_rfl) (by kernel_rfl)) ?_
  intro W base args ds gs before hval0 hW hcnd _
  have hval : ∀ (j : Nat) t v, Try.f4.params[j]? = some t → args[j]? = some v → Value.okWide Try.prog W .any base t v := hval0
  have hW' := hW
  obtain ⟨p, q, hA0, hV, rfl, hfz, hnd⟩ := hW
  have hA : DataW.TrodAll enc Try.prog W 0 (fun _ => true) true Try.f4.params.toList args.toList ds p := hA0
  rw [Try.params4] at hA hval
  obtain ⟨v0, vs0, d0, ds0, p0, q0, hargs, rfl, rfl, h0, r0⟩ := trodAll_cons hA
  obtain ⟨v1, vs1, d1, ds1, p1, q1, rfl, rfl, rfl, h1, r1⟩ := trodAll_cons r0
  obtain ⟨v2, vs2, d2, ds2, p2, q2, rfl, rfl, rfl, h2, r2⟩ := trodAll_cons r1
  obtain ⟨rfl, rfl, rfl⟩ := trodAll_nil r2
  obtain rfl : args = #[v0, v1, v2] := by cases args; simp_all
  obtain ⟨rfl, rfl⟩ := trodVars_none hV
  obtain ⟨a0, rfl, rfl, rfl, w0⟩ := open_int Try.underlying3 (hval 0 3 v0 rfl rfl) h0
  have k1 := h1
  have lt1 : ∀ x ∈ p1, x.block < W.heap.size := by obtain ⟨m, hm⟩ := k1; exact DataW.trod_lt m _ _ _ hm
  obtain ⟨c10, c11, c12, y10, y11, y12, m1, rfl, rfl, rfl, hy10, hy11, hy12⟩ := Go.Joins.open_agg3 Try.underlying36 (by kernel_rfl) (by kernel_rfl) (hval 1 36 v1 rfl rfl) h1
  obtain ⟨x10, e10, _, _⟩ := DataW.trod_int Try.underlying3 hy10
  injection e10 with e10
  subst e10
  obtain ⟨x11, e11, _, _⟩ := DataW.trod_int Try.underlying3 hy11
  injection e11 with e11
  subst e11
  obtain ⟨x12, e12, _, _⟩ := DataW.trod_int Try.underlying3 hy12
  injection e12 with e12
  subst e12
  obtain ⟨a2, rfl, rfl, rfl, w2⟩ := open_int Try.underlying3 (hval 2 3 v2 rfl rfl) h2
  clear hA0 hval0
  refine (walk a0 ⟨x10, x11, x12⟩ a2 W w0 w2).mono fun e W' ⟨he, bel⟩ => ?_
  subst he
  exact ⟨_, rfl, _, _, _, [], _, [], hW', trodAll_mk1 (shut_bool Try.underlying4 _), (trodAll_cons_mk (shut_int Try.underlying3 w0) (trodAll_cons_mk (Below.trod laidOut (by kernel_rfl) (of_decide_eq_true (by kernel_rfl)) k1 bel lt1) (trodAll_cons_mk (shut_int Try.underlying3 w2) trodAll_mk0))), rfl, bel.frame _, fun h => by cases h⟩
theorem over : Rows.ptrsWaysRow.holds Try.pinned (OpenSpec.ofChange Rows.ptrsWaysSpec) :=
  OpenClaim.holds_of_wide 4 Try.f4 rfl rfl rfl rfl rfl rfl rfl ⟨rfl, rfl, rfl, rfl, rfl⟩ rfl rfl rfl rfl rfl (by kernel_rfl) Try.func4 (by kernel_rfl)
    (of_decide_eq_true (by kernel_rfl)) (by unfold Func.isWrapper; first | (rw [if_pos (by decide +kernel)]; kernel_rfl) | (rw [if_neg (by decide +kernel)]; exact ⟨rfl, rfl⟩))
    (fun os started H enc _ => lifted os started H enc)
end Go.Proofs.Ytaahljjmofjdmaa.ptrsWays
namespace Go.Proofs.Ytaahljjmofjdmaa
/-- The statement. -/
theorem ptrsWays_holds : Rows.PtrsWaysSaid := ptrsWays.over
#print axioms ptrsWays_holds
end Go.Proofs.Ytaahljjmofjdmaa
