/-
  The statement GeomInodes, proved: for every shape and two numbers the law returns true, and what came in reads as it did; no condition.
-/
import Derived.Test.YtdinkcaeanehgaaGeoJ
import Derived.Lib.SmallJoins
namespace Go.Proofs.Ytdinkcaeanehgaa.geomInodes
open Go.ChangeShapes Go.WideShapes Go.ChangeAt Go.RowKit
set_option linter.unusedVariables false

/-- No two inodes lie in one slot. -/
theorem apart (s : Gm) (i j : Int) (hi : s.hasI i) (hj : s.hasI j) (hs : s.sec i = s.sec j) (ht : s.slt i = s.slt j) : i = j := by
  obtain ⟨a0, a1, a2, a3, _, _, a6⟩ := Gm.inoF hi
  obtain ⟨b0, b1, b2, b3, _, _, b6⟩ := Gm.inoF hj
  have e1 : s.sec i = 2 + s.grp i * s.span + 2 + s.idx i / 3 := if_pos hi
  have e2 : s.sec j = 2 + s.grp j * s.span + 2 + s.idx j / 3 := if_pos hj
  have t1 : s.slt i = s.idx i % 3 := rfl
  have t2 : s.slt j = s.idx j % 3 := rfl
  rw [e1, e2] at hs
  rw [t1, t2] at ht
  have ho := hi.1
  have hS : s.span = 2 + s.i + s.d := rfl
  have hd := ho.2.2.2.2.1
  generalize s.grp i = p at *
  generalize s.grp j = q at *
  generalize s.idx i = x at *
  generalize s.idx j = y at *
  have hx : x / 3 < s.i := by omega
  have hy : y / 3 < s.i := by omega
  have hpq : p = q := by
    rcases Int.lt_trichotomy p q with h | h | h
    · have h1 : (p + 1) * s.span ≤ q * s.span := Int.mul_le_mul_of_nonneg_right (by omega) (by omega)
      rw [Int.add_mul] at h1
      omega
    · exact h
    · have h1 : (q + 1) * s.span ≤ p * s.span := Int.mul_le_mul_of_nonneg_right (by omega) (by omega)
      rw [Int.add_mul] at h1
      omega
  subst hpq
  have : x = y := by omega
  subst this
  omega
theorem err_cases (s : Gm) (i : Int) : (s.hasI i ∧ s.ierr i = 0) ∨ (¬ s.hasI i ∧ s.ierr i = 2) := by
  by_cases h : s.hasI i
  · exact .inl ⟨h, if_pos h⟩
  · exact .inr ⟨h, if_neg h⟩

set_option maxHeartbeats 4000000 in
theorem walk (s : Gm) (i j : Int) (w : World) (_ : (Lit.int .i64 i).wf = true) (_ : (Lit.int .i64 j).wf = true) :
    Calls Try.prog 6 #[.agg #[.int .i64 s.g, .int .i64 s.i, .int .i64 s.d], .int .i64 i, .int .i64 j] w fun e w' => e = .returned (.bool true) ∧ Below w.heap.size w w' := by
  have hA := Gat.made w s
  have bW := below_made w (.cells #[.int .i64 s.g, .int .i64 s.i, .int .i64 s.d] 23)
  go_enter Try.func6, Try.ntmps6
  go_wp2_with fail
  refine (inode_any s i _).mono ?_
  rintro e w1 ⟨rfl, b1⟩
  have hA1 := (hA.later b1).later (below_made w1 (.cells #[.int .i64 (s.sec i), .int .i64 (s.slt i), .int .i64 (s.grp i), .int .i64 (s.idx i)] 28))
  have hs1 := Sat.made w1 (s.sec i) (s.slt i) (s.grp i) (s.idx i) 28
  have bW1 := bnext (bnext bW b1 (Nat.le_refl _)) (below_made w1 (.cells #[.int .i64 (s.sec i), .int .i64 (s.slt i), .int .i64 (s.grp i), .int .i64 (s.idx i)] 28)) (Nat.le_refl _)
  clear hA bW b1
  obtain ⟨c0, c1, c2⟩ := hA1
  have hA1 : Gat (w1.alloc (.cells #[.int .i64 (s.sec i), .int .i64 (s.slt i), .int .i64 (s.grp i), .int .i64 (s.idx i)] 28)) w.heap.size s := ⟨c0, c1, c2⟩
  go_wp2_with fail
  generalize w1.alloc (.cells #[.int .i64 (s.sec i), .int .i64 (s.slt i), .int .i64 (s.grp i), .int .i64 (s.idx i)] 28) = W1 at *
  refine (rinode_any s i _).mono ?_
  rintro e w2 ⟨rfl, b2⟩
  have hA2 := (hA1.later b2).later (below_made w2 (.cells #[.int .i64 (s.sec i), .int .i64 (s.slt i), .int .i64 (s.grp i), .int .i64 (s.idx i)] 31))
  have hs12 := (hs1.later b2).later (below_made w2 (.cells #[.int .i64 (s.sec i), .int .i64 (s.slt i), .int .i64 (s.grp i), .int .i64 (s.idx i)] 31))
  have hs2 := Sat.made w2 (s.sec i) (s.slt i) (s.grp i) (s.idx i) 31
  have bW2 := bnext (bnext bW1 b2 (Nat.le_refl _)) (below_made w2 (.cells #[.int .i64 (s.sec i), .int .i64 (s.slt i), .int .i64 (s.grp i), .int .i64 (s.idx i)] 31)) (Nat.le_refl _)
  clear hA1 hs1 bW1 b2 c0 c1 c2
  obtain ⟨c0, c1, c2⟩ := hA2
  go_wp2_with fail
  generalize w2.alloc (.cells #[.int .i64 (s.sec i), .int .i64 (s.slt i), .int .i64 (s.grp i), .int .i64 (s.idx i)] 31) = W2 at *
  refine (inode_any s j _).mono ?_
  rintro e w3 ⟨rfl, b3⟩
  obtain ⟨x0, x1, x2, x3⟩ := (hs12.later b3).later (below_made w3 (.cells #[.int .i64 (s.sec j), .int .i64 (s.slt j), .int .i64 (s.grp j), .int .i64 (s.idx j)] 28))
  obtain ⟨y0, y1, y2, y3⟩ := (hs2.later b3).later (below_made w3 (.cells #[.int .i64 (s.sec j), .int .i64 (s.slt j), .int .i64 (s.grp j), .int .i64 (s.idx j)] 28))
  have bW3 := bnext (bnext bW2 b3 (Nat.le_refl _)) (below_made w3 (.cells #[.int .i64 (s.sec j), .int .i64 (s.slt j), .int .i64 (s.grp j), .int .i64 (s.idx j)] 28)) (Nat.le_refl _)
  obtain ⟨z0, z1, z2, z3⟩ := Sat.made w3 (s.sec j) (s.slt j) (s.grp j) (s.idx j) 28
  clear hs12 hs2 bW2 b3 c0 c1 c2
  rcases err_cases s i with ⟨hi, ei⟩ | ⟨hi, ei⟩
  · rcases err_cases s j with ⟨hj, ej⟩ | ⟨hj, ej⟩
    · have hap := apart s i j hi hj
      clear hi hj
      generalize s.sec i = si at *
      generalize s.sec j = sj at *
      generalize s.slt i = ti at *
      generalize s.slt j = tj at *
      by_cases hij : i = j
      · clear hap
        go_wp2_with fail
        refine (gworks_any _).mono ?_
        rintro e w5 ⟨rfl, b5⟩
        go_wp2
        go_returns
        exact ⟨by simp, bnext bW3 b5 (Nat.le_refl _)⟩
      · by_cases hs : si = sj
        · have ht : ¬ ti = tj := fun x => hij (hap hs x)
          clear hap
          go_wp2_with fail
          refine (gworks_any _).mono ?_
          rintro e w5 ⟨rfl, b5⟩
          go_wp2
          go_returns
          exact ⟨by simp; exact .inr ht, bnext bW3 b5 (Nat.le_refl _)⟩
        · clear hap
          go_wp2_with fail
          refine (gworks_any _).mono ?_
          rintro e w5 ⟨rfl, b5⟩
          go_wp2
          go_returns
          exact ⟨by simp, bnext bW3 b5 (Nat.le_refl _)⟩
    · clear hi hj
      go_wp2_with fail
      refine (gworks_any _).mono ?_
      rintro e w5 ⟨rfl, b5⟩
      go_wp2
      go_returns
      exact ⟨by simp, bnext bW3 b5 (Nat.le_refl _)⟩
  · clear hi
    go_wp2_with fail
    refine (gworks_any _).mono ?_
    rintro e w5 ⟨rfl, b5⟩
    go_wp2
    go_returns
    exact ⟨by simp, bnext bW3 b5 (Nat.le_refl _)⟩

theorem own : ownKnob Try.prog.godebug = none := by kernel_rfl
theorem laidOut : laidOutB Try.prog = true := by kernel_rfl
set_option maxRecDepth 100000 in
theorem lifted (os : Os) (started : os.Started) (H : Type) (enc : TypeId × Value → H) :
    ReturnsInHanded {} Try.checked os 6 .any (Rows.geomInodesSpec.pre6 enc Try.prog Try.f6 Rows.geomInodesRow.domain false) (Rows.geomInodesSpec.post enc Try.prog Try.f6 false true false false) := by
  refine returnsInHanded_of_change (C := Try.checked) own started (by kernel_rfl) Try.func6
    (ChangeSpec.witness6 (enc := enc) (C := Try.checked) false ⟨#[], #[.agg #[.int .i64 0, .int .i64 0, .int .i64 0], .int .i64 0, .int .i64 0], []⟩ 8 (by kernel_rfl) (by kernel_rfl) (by kernel_rfl) (by kernel_rfl)) ?_
  intro W base args ds gs before hval0 hW hcnd _
  have hval : ∀ (j : Nat) t v, Try.f6.params[j]? = some t → args[j]? = some v → Value.okWide Try.prog W .any base t v := hval0
  have hW' := hW
  obtain ⟨p, q, hA0, hV, rfl, hfz, hnd⟩ := hW
  have hA : DataW.TrodAll enc Try.prog W 0 (fun _ => true) true Try.f6.params.toList args.toList ds p := hA0
  rw [Try.params6] at hA hval
  obtain ⟨v0, vs0, d0, ds0, p0, q0, hargs, rfl, rfl, h0, r0⟩ := trodAll_cons hA
  obtain ⟨v1, vs1, d1, ds1, p1, q1, rfl, rfl, rfl, h1, r1⟩ := trodAll_cons r0
  obtain ⟨v2, vs2, d2, ds2, p2, q2, rfl, rfl, rfl, h2, r2⟩ := trodAll_cons r1
  obtain ⟨rfl, rfl, rfl⟩ := trodAll_nil r2
  obtain rfl : args = #[v0, v1, v2] := by cases args; simp_all
  obtain ⟨rfl, rfl⟩ := trodVars_none hV
  have k0 := h0
  have lt0 : ∀ x ∈ p0, x.block < W.heap.size := by obtain ⟨m, hm⟩ := k0; exact DataW.trod_lt m _ _ _ hm
  obtain ⟨c00, c01, c02, y00, y01, y02, m0, rfl, rfl, rfl, hy00, hy01, hy02⟩ := Go.Joins.open_agg3 Try.underlying23 (by kernel_rfl) (by kernel_rfl) (hval 0 23 v0 rfl rfl) h0
  obtain ⟨x00, e00, _, _⟩ := DataW.trod_int Try.underlying3 hy00
  injection e00 with e00
  subst e00
  obtain ⟨x01, e01, _, _⟩ := DataW.trod_int Try.underlying3 hy01
  injection e01 with e01
  subst e01
  obtain ⟨x02, e02, _, _⟩ := DataW.trod_int Try.underlying3 hy02
  injection e02 with e02
  subst e02
  obtain ⟨a1, rfl, rfl, rfl, w1⟩ := open_int Try.underlying3 (hval 1 3 v1 rfl rfl) h1
  obtain ⟨a2, rfl, rfl, rfl, w2⟩ := open_int Try.underlying3 (hval 2 3 v2 rfl rfl) h2
  clear hA0 hval0
  refine (walk ⟨x00, x01, x02⟩ a1 a2 W w1 w2).mono fun e W' ⟨he, bel⟩ => ?_
  subst he
  exact ⟨_, rfl, _, _, _, [], _, [], hW', trodAll_mk1 (shut_bool Try.underlying4 _), (trodAll_cons_mk (Below.trod laidOut (by kernel_rfl) (of_decide_eq_true (by kernel_rfl)) k0 bel lt0) (trodAll_cons_mk (shut_int Try.underlying3 w1) (trodAll_cons_mk (shut_int Try.underlying3 w2) trodAll_mk0))), rfl, bel.frame _, fun h => by cases h⟩
theorem over : Rows.geomInodesRow.holds Try.pinned (OpenSpec.ofChange Rows.geomInodesSpec) :=
  OpenClaim.holds_of_wide 6 Try.f6 rfl rfl rfl rfl rfl rfl rfl ⟨rfl, rfl, rfl, rfl, rfl⟩ rfl rfl rfl rfl rfl (by kernel_rfl) Try.func6 (by kernel_rfl)
    (of_decide_eq_true (by kernel_rfl)) (by unfold Func.isWrapper; first | (rw [if_pos (by decide +kernel)]; kernel_rfl) | (rw [if_neg (by decide +kernel)]; exact ⟨rfl, rfl⟩))
    (fun os started H enc _ => lifted os started H enc)
end Go.Proofs.Ytdinkcaeanehgaa.geomInodes
namespace Go.Proofs.Ytdinkcaeanehgaa
/-- The statement. -/
theorem geomInodes_holds : Rows.GeomInodesSaid := geomInodes.over
#print axioms geomInodes_holds
end Go.Proofs.Ytdinkcaeanehgaa
