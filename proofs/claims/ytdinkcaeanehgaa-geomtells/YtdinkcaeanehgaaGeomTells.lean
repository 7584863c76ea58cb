/-
  The statement GeomTells, proved: for every shape and two numbers the law returns true, and what came in reads as it did; no condition.
-/
import Derived.Test.YtdinkcaeanehgaaGeoJ
import Derived.Lib.SmallJoins
namespace Go.Proofs.Ytdinkcaeanehgaa.geomTells
open Go.ChangeShapes Go.WideShapes Go.ChangeAt Go.RowKit
set_option linter.unusedVariables false

set_option maxRecDepth 100000 in
set_option maxHeartbeats 20000000 in
theorem walk (s : Gm) (k j : Int) (w : World) (_ : (Lit.int .i64 k).wf = true) (_ : (Lit.int .i64 j).wf = true) :
    Calls Try.prog 3 #[.agg #[.int .i64 s.g, .int .i64 s.i, .int .i64 s.d], .int .i64 k, .int .i64 j] w fun e w' => e = .returned (.bool true) ∧ Below w.heap.size w w' := by
  have hA0 := Gat.made w s
  have bW0 := below_made w (.cells #[.int .i64 s.g, .int .i64 s.i, .int .i64 s.d] 23)
  go_enter Try.func3, Try.ntmps3
  go_wp2_with fail
  refine (head_any s k _).mono ?_
  rintro e w1 ⟨rfl, b1⟩
  have hA1 := hA0.later b1
  have bW1 := bnext bW0 b1 (Nat.le_refl _)
  clear hA0 bW0 b1
  have c0 := hA1.c0
  have c1 := hA1.c1
  have c2 := hA1.c2
  go_wp2_with fail
  refine (rhead_any s k _).mono ?_
  rintro e w2 ⟨rfl, b2⟩
  have hA2 := hA1.later b2
  have bW2 := bnext bW1 b2 (Nat.le_refl _)
  clear hA1 bW1 b2 c0 c1 c2
  have c0 := hA2.c0
  have c1 := hA2.c1
  have c2 := hA2.c2
  go_wp2_with fail
  refine (maps_any s k _).mono ?_
  rintro e w3 ⟨rfl, b3⟩
  have hA3 := hA2.later b3
  have bW3 := bnext bW2 b3 (Nat.le_refl _)
  clear hA2 bW2 b3 c0 c1 c2
  have c0 := hA3.c0
  have c1 := hA3.c1
  have c2 := hA3.c2
  go_wp2_with fail
  refine (rmaps_any s k _).mono ?_
  rintro e w4 ⟨rfl, b4⟩
  have hA4 := hA3.later b4
  have bW4 := bnext bW3 b4 (Nat.le_refl _)
  clear hA3 bW3 b4 c0 c1 c2
  have c0 := hA4.c0
  have c1 := hA4.c1
  have c2 := hA4.c2
  go_wp2_with fail
  refine (inode_any s j _).mono ?_
  rintro e w5 ⟨rfl, b5⟩
  have hA5 := (hA4.later b5).later (below_made w5 (.cells #[.int .i64 (s.sec j), .int .i64 (s.slt j), .int .i64 (s.grp j), .int .i64 (s.idx j)] 28))
  have bW5 := bnext (bnext bW4 b5 (Nat.le_refl _)) (below_made w5 (.cells #[.int .i64 (s.sec j), .int .i64 (s.slt j), .int .i64 (s.grp j), .int .i64 (s.idx j)] 28)) (Nat.le_refl _)
  have hs5 := Sat.made w5 (s.sec j) (s.slt j) (s.grp j) (s.idx j) 28
  clear hA4 bW4 b5 c0 c1 c2
  have c0 := hA5.c0
  have c1 := hA5.c1
  have c2 := hA5.c2
  go_wp2_with fail
  generalize w5.alloc (.cells #[.int .i64 (s.sec j), .int .i64 (s.slt j), .int .i64 (s.grp j), .int .i64 (s.idx j)] 28) = W5 at *
  refine (rinode_any s j _).mono ?_
  rintro e w6 ⟨rfl, b6⟩
  have hA6 := (hA5.later b6).later (below_made w6 (.cells #[.int .i64 (s.sec j), .int .i64 (s.slt j), .int .i64 (s.grp j), .int .i64 (s.idx j)] 31))
  have hs6 := (hs5.later b6).later (below_made w6 (.cells #[.int .i64 (s.sec j), .int .i64 (s.slt j), .int .i64 (s.grp j), .int .i64 (s.idx j)] 31))
  have bW6 := bnext (bnext bW5 b6 (Nat.le_refl _)) (below_made w6 (.cells #[.int .i64 (s.sec j), .int .i64 (s.slt j), .int .i64 (s.grp j), .int .i64 (s.idx j)] 31)) (Nat.le_refl _)
  have ht6 := Sat.made w6 (s.sec j) (s.slt j) (s.grp j) (s.idx j) 31
  clear hA5 bW5 b6 hs5 c0 c1 c2
  have c0 := hA6.c0
  have c1 := hA6.c1
  have c2 := hA6.c2
  go_wp2_with fail
  generalize w6.alloc (.cells #[.int .i64 (s.sec j), .int .i64 (s.slt j), .int .i64 (s.grp j), .int .i64 (s.idx j)] 31) = W6 at *
  refine (data_any s k j _).mono ?_
  rintro e w7 ⟨rfl, b7⟩
  have hA7 := hA6.later b7
  have hs7 := hs6.later b7
  have ht7 := ht6.later b7
  have bW7 := bnext bW6 b7 (Nat.le_refl _)
  clear hA6 bW6 b7 hs6 ht6 c0 c1 c2
  have c0 := hA7.c0
  have c1 := hA7.c1
  have c2 := hA7.c2
  go_wp2_with fail
  refine (rdata_any s k j _).mono ?_
  rintro e w8 ⟨rfl, b8⟩
  have hA8 := hA7.later b8
  have hs8 := hs7.later b8
  have ht8 := ht7.later b8
  have bW8 := bnext bW7 b8 (Nat.le_refl _)
  clear hA7 bW7 b8 hs7 ht7 c0 c1 c2
  have c0 := hA8.c0
  have c1 := hA8.c1
  have c2 := hA8.c2
  go_wp2_with fail
  refine (where_any s j _).mono ?_
  rintro e w9 ⟨rfl, b9⟩
  have hA9 := (hA8.later b9).later (below_made w9 (.cells #[.int .i64 (s.pk j), .int .i64 (s.pg j), .int .i64 (s.pi j)] 36))
  have hs9 := (hs8.later b9).later (below_made w9 (.cells #[.int .i64 (s.pk j), .int .i64 (s.pg j), .int .i64 (s.pi j)] 36))
  have ht9 := (ht8.later b9).later (below_made w9 (.cells #[.int .i64 (s.pk j), .int .i64 (s.pg j), .int .i64 (s.pi j)] 36))
  have bW9 := bnext (bnext bW8 b9 (Nat.le_refl _)) (below_made w9 (.cells #[.int .i64 (s.pk j), .int .i64 (s.pg j), .int .i64 (s.pi j)] 36)) (Nat.le_refl _)
  have hp9 := Pat.made w9 (s.pk j) (s.pg j) (s.pi j) 36
  clear hA8 bW8 b9 hs8 ht8 c0 c1 c2
  have c0 := hA9.c0
  have c1 := hA9.c1
  have c2 := hA9.c2
  go_wp2_with fail
  generalize w9.alloc (.cells #[.int .i64 (s.pk j), .int .i64 (s.pg j), .int .i64 (s.pi j)] 36) = W9 at *
  refine (rwhere_any s j _).mono ?_
  rintro e w10 ⟨rfl, b10⟩
  have hA10 := (hA9.later b10).later (below_made w10 (.cells #[.int .i64 (s.pk j), .int .i64 (s.pg j), .int .i64 (s.pi j)] 39))
  have hs10 := (hs9.later b10).later (below_made w10 (.cells #[.int .i64 (s.pk j), .int .i64 (s.pg j), .int .i64 (s.pi j)] 39))
  have ht10 := (ht9.later b10).later (below_made w10 (.cells #[.int .i64 (s.pk j), .int .i64 (s.pg j), .int .i64 (s.pi j)] 39))
  have hp10 := (hp9.later b10).later (below_made w10 (.cells #[.int .i64 (s.pk j), .int .i64 (s.pg j), .int .i64 (s.pi j)] 39))
  have bW10 := bnext (bnext bW9 b10 (Nat.le_refl _)) (below_made w10 (.cells #[.int .i64 (s.pk j), .int .i64 (s.pg j), .int .i64 (s.pi j)] 39)) (Nat.le_refl _)
  have hq10 := Pat.made w10 (s.pk j) (s.pg j) (s.pi j) 39
  clear hA9 bW9 b10 hs9 ht9 hp9 c0 c1 c2
  have c0 := hA10.c0
  have c1 := hA10.c1
  have c2 := hA10.c2
  obtain ⟨x0, x1, x2, x3⟩ := hs10
  obtain ⟨y0, y1, y2, y3⟩ := ht10
  obtain ⟨z0, z1, z2, _, _, _⟩ := hp10
  obtain ⟨t0, t1, t2, _, _, _⟩ := hq10
  go_wp2_with fail
  generalize w10.alloc (.cells #[.int .i64 (s.pk j), .int .i64 (s.pg j), .int .i64 (s.pi j)] 39) = W10 at *
  clear c0 c1 c2 x0 x1 x2 x3 y0 y1 y2 y3 z0 z1 z2 t0 t1 t2
  have hS := hA10.held
  generalize s.inG k 0 = v0 at *
  generalize s.inG k 1 = v1 at *
  generalize s.herr k = v2 at *
  generalize s.sec j = v3 at *
  generalize s.slt j = v4 at *
  generalize s.grp j = v5 at *
  generalize s.idx j = v6 at *
  generalize s.ierr j = v7 at *
  generalize s.data k j = v8 at *
  generalize s.derr k j = v9 at *
  generalize s.pk j = v10 at *
  generalize s.pg j = v11 at *
  generalize s.pi j = v12 at *
  generalize s.werr j = v13 at *
  simp only [List.append_eq, List.cons_append, List.nil_append]
  go_region_held3 (fun w' => Below W10.heap.size W10 w' ∧ w'.cell? ⟨w.heap.size, 0, none⟩ = some (.int .i64 s.g) ∧ w'.cell? ⟨w.heap.size, 1, none⟩ = some (.int .i64 s.i) ∧ w'.cell? ⟨w.heap.size, 2, none⟩ = some (.int .i64 s.d))
    (first | assumption | exact hS _ (Below.refl _ _).drew | exact hS _ (bnext (And.left (by assumption)) bb (Nat.le_refl _)))
    (first
    | (go_at_call 17; refine (check_any s _).mono ?_; rintro e u ⟨rfl, bb⟩)
    | (go_at_call 18; refine (rcheck_any s _).mono ?_; rintro e u ⟨rfl, bb⟩)
    | (go_at_call 19; refine (total_any s _).mono ?_; rintro e u ⟨rfl, bb⟩)
    | (go_at_call 20; refine (rtotal_any s _).mono ?_; rintro e u ⟨rfl, bb⟩)
    | (go_at_call 21; refine (inodes_any s _).mono ?_; rintro e u ⟨rfl, bb⟩)
    | (go_at_call 22; refine (rinodes_any s _).mono ?_; rintro e u ⟨rfl, bb⟩)
    | (go_at_call 23; refine (gworks_any _).mono ?_; rintro e u ⟨rfl, bb⟩))
  go_wp2
  go_returns
  exact ⟨by simp, bnext bW10 (And.left (by assumption)) (Nat.le_refl _)⟩

theorem own : ownKnob Try.prog.godebug = none := by kernel_rfl
theorem laidOut : laidOutB Try.prog = true := by kernel_rfl
set_option maxRecDepth 100000 in
theorem lifted (os : Os) (started : os.Started) (H : Type) (enc : TypeId × Value → H) :
    ReturnsInHanded {} Try.checked os 3 .any (Rows.geomTellsSpec.pre6 enc Try.prog Try.f3 Rows.geomTellsRow.domain false) (Rows.geomTellsSpec.post enc Try.prog Try.f3 false true false false) := by
  refine returnsInHanded_of_change (C := Try.checked) own started (by kernel_rfl) Try.func3
    (ChangeSpec.witness6 (enc := enc) (C := Try.checked) false ⟨#[], #[.agg #[.int .i64 0, .int .i64 0, .int .i64 0], .int .i64 0, .int .i64 0], []⟩ 8 (by kernel_rfl) (by kernel_rfl) (by kernel_rfl) (by kernel_rfl)) ?_
  intro W base args ds gs before hval0 hW hcnd _
  have hval : ∀ (j : Nat) t v, Try.f3.params[j]? = some t → args[j]? = some v → Value.okWide Try.prog W .any base t v := hval0
  have hW' := hW
  obtain ⟨p, q, hA0, hV, rfl, hfz, hnd⟩ := hW
  have hA : DataW.TrodAll enc Try.prog W 0 (fun _ => true) true Try.f3.params.toList args.toList ds p := hA0
  rw [Try.params3] at hA hval
  obtain ⟨v0, vs0, d0, ds0, p0, q0, hargs, rfl, rfl, h0, r0⟩ := trodAll_cons hA
  obtain ⟨v1, vs1, d1, ds1, p1, q1, rfl, rfl, rfl, h1, r1⟩ := trodAll_cons r0
  obtain ⟨v2, vs2, d2, ds2, p2, q2, rfl, rfl, rfl, h2, r2⟩ := trodAll_cons r1
  obtain ⟨rfl, rfl, rfl⟩ := trodAll_nil r2
  obtain rfl : args = #[v0, v1, v2] := by cases args; simp_all
  obtain ⟨rfl, rfl⟩ := trodVars_none hV
  have k0 := h0
  have lt0 : ∀ x ∈ p0, x.block < W.heap.size := by obtain ⟨m, hm⟩ := k0; exact DataW.trod_lt m _ _ _ hm
  obtain ⟨c00, c01, c02, y00, y01, y02, m0, rfl, rfl, rfl, hy00, hy01, hy02⟩ := Go.Joins.open_agg3 Try.underlying23 (by kernel_rfl) (by kernel_rfl) (hval 0 23 v0 rfl rfl) h0
  obtain ⟨x00, e00, _, _⟩ := DataW.trod_int Try.underlying3 hy00
  injection e00 with e00
  subst e00
  obtain ⟨x01, e01, _, _⟩ := DataW.trod_int Try.underlying3 hy01
  injection e01 with e01
  subst e01
  obtain ⟨x02, e02, _, _⟩ := DataW.trod_int Try.underlying3 hy02
  injection e02 with e02
  subst e02
  obtain ⟨a1, rfl, rfl, rfl, w1⟩ := open_int Try.underlying3 (hval 1 3 v1 rfl rfl) h1
  obtain ⟨a2, rfl, rfl, rfl, w2⟩ := open_int Try.underlying3 (hval 2 3 v2 rfl rfl) h2
  clear hA0 hval0
  refine (walk ⟨x00, x01, x02⟩ a1 a2 W w1 w2).mono fun e W' ⟨he, bel⟩ => ?_
  subst he
  exact ⟨_, rfl, _, _, _, [], _, [], hW', trodAll_mk1 (shut_bool Try.underlying4 _), (trodAll_cons_mk (Below.trod laidOut (by kernel_rfl) (of_decide_eq_true (by kernel_rfl)) k0 bel lt0) (trodAll_cons_mk (shut_int Try.underlying3 w1) (trodAll_cons_mk (shut_int Try.underlying3 w2) trodAll_mk0))), rfl, bel.frame _, fun h => by cases h⟩
theorem over : Rows.geomTellsRow.holds Try.pinned (OpenSpec.ofChange Rows.geomTellsSpec) :=
  OpenClaim.holds_of_wide 3 Try.f3 rfl rfl rfl rfl rfl rfl rfl ⟨rfl, rfl, rfl, rfl, rfl⟩ rfl rfl rfl rfl rfl (by kernel_rfl) Try.func3 (by kernel_rfl)
    (of_decide_eq_true (by kernel_rfl)) (by unfold Func.isWrapper; first | (rw [if_pos (by decide +kernel)]; kernel_rfl) | (rw [if_neg (by decide +kernel)]; exact ⟨rfl, rfl⟩))
    (fun os started H enc _ => lifted os started H enc)
end Go.Proofs.Ytdinkcaeanehgaa.geomTells
namespace Go.Proofs.Ytdinkcaeanehgaa
/-- The statement. -/
theorem geomTells_holds : Rows.GeomTellsSaid := geomTells.over
#print axioms geomTells_holds
end Go.Proofs.Ytdinkcaeanehgaa
