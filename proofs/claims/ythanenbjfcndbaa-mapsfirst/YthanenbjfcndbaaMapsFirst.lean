/-
  The statement MapsFirst, proved: for every load, shape, kind and place the law returns true, and what came in reads as it did; no condition.
-/
import Derived.Test.YthanenbjfcndbaaMapI
import Derived.Test.YthanenbjfcndbaaMapK
import Derived.Lib.SmallJoins
namespace Go.Proofs.Ythanenbjfcndbaa.mapsFirst
open Go.ChangeShapes Go.WideShapes Go.ChangeAt Go.RowKit
set_option linter.unusedVariables false

/-- The first that is free is none, or is free. -/
theorem ways (p : Ld) (s : Gm) (k f : Int) : m1 p s k f = -1 ∨ ∃ i : Nat, i < 128 ∧ m1 p s k f = (i : Int) ∧ mT p k (i : Int) = false := by
  unfold m1
  rcases fz_spec (ints (mS p k)) (mN s k - f.toNat) f.toNat with h | ⟨i, e, h1, h2, h3, _⟩
  · exact .inl h
  · have hN := mN_128 s k
    exact .inr ⟨i, by omega, e, by rw [mT_at (s := s) (by omega)]; exact h3⟩
set_option maxRecDepth 100000 in
set_option maxHeartbeats 2000000 in
theorem walk (p : Ld) (s : Gm) (k f : Int) (w : World) (w2 : (Lit.int .i64 k).wf = true) (w3 : (Lit.int .i64 f).wf = true) :
    Calls Try.prog 7 #[.agg p.cs.toArray, gv s, .int .i64 k, .int .i64 f] w fun e w' => e = .returned (.bool true) ∧ Below w.heap.size w w' := by
  have hp := p.len
  have H1 : Hid _ := fun w => mfirst_any p s k f w w2 w3
  have H2 : Hid _ := fun w => rmfirst_any p s k f w w3
  have hway := ways p s k f
  generalize m1 p s k f = m at *
  rcases hway with rfl | ⟨i, hi, rfl, ht⟩
  · have H3 : Hid _ := fun w => taken_any p k 0 w w2
    generalize mT p k 0 = t at *
    generalize mE k 0 = e0 at *
    go_enter Try.func7, Try.ntmps7
    go_wp2_with (first
      | (refine at_box 23 54 arrL (by rfl) _ (by rfl) p.l (by rfl) hp ?_; intro g0 u0 a0 z0 r0 b0)
      | (refine at_boxG (by rfl) _ (by rfl) s (by rfl) ?_; intro g1 u1 a1 z1 r1 b1; have rp := r0.later b1; have B := bnext b0 b1 (Nat.le_refl _); clear r0 b0 b1)
      | (refine at_getL (by rfl) _ (by rfl) g0 (by rfl) p rp3 ?_)
      | (refine at_getL (by rfl) _ (by rfl) g0 (by rfl) p rp2 ?_)
      | (refine at_getL (by rfl) _ (by rfl) g0 (by rfl) p rp ?_)
      | (refine at_getG (by rfl) _ (by rfl) g1 (by rfl) s rg3 ?_)
      | (refine at_getG (by rfl) _ (by rfl) g1 (by rfl) s r1 ?_)
      | (go_at_call 21; refine (H1.out _).mono ?_; rintro e u2 ⟨rfl, b2⟩; have rp2 := rp.later b2; have B2 := bnext B b2 (Nat.le_refl _))
      | (go_at_call 10; refine (H3.out _).mono ?_; rintro e u3 ⟨rfl, b3⟩; have rp3 := rp2.later b3; have rg3 := (r1.later b2).later b3; have B3 := bnext B2 b3 (Nat.le_refl _))
      | (go_at_call 22; refine (H2.out _).mono ?_; rintro e u4 ⟨rfl, b4⟩)
      | (go_at_call 18; refine (works_any _).mono ?_; rintro e u5 ⟨rfl, b5⟩))
    go_returns
    exact ⟨rfl, bnext (bnext B3 b4 (Nat.le_refl _)) b5 (Nat.le_refl _)⟩
  · have H3 : Hid _ := fun w => taken_any p k (i : Int) w w2
    rw [ht] at H3
    generalize mE k (i : Int) = e0 at *
    have hm : (if (i : Int) < 0 then 0 else (i : Int)) = (i : Int) := if_neg (by omega)
    have hm2 : ¬ (i : Int) < 0 := by omega
    go_enter Try.func7, Try.ntmps7
    go_wp2_with (first
      | (refine at_box 23 54 arrL (by rfl) _ (by rfl) p.l (by rfl) hp ?_; intro g0 u0 a0 z0 r0 b0)
      | (refine at_boxG (by rfl) _ (by rfl) s (by rfl) ?_; intro g1 u1 a1 z1 r1 b1; have rp := r0.later b1; have B := bnext b0 b1 (Nat.le_refl _); clear r0 b0 b1)
      | (refine at_getL (by rfl) _ (by rfl) g0 (by rfl) p rp3 ?_)
      | (refine at_getL (by rfl) _ (by rfl) g0 (by rfl) p rp2 ?_)
      | (refine at_getL (by rfl) _ (by rfl) g0 (by rfl) p rp ?_)
      | (refine at_getG (by rfl) _ (by rfl) g1 (by rfl) s rg3 ?_)
      | (refine at_getG (by rfl) _ (by rfl) g1 (by rfl) s r1 ?_)
      | (go_at_call 21; refine (H1.out _).mono ?_; rintro e u2 ⟨rfl, b2⟩; have rp2 := rp.later b2; have B2 := bnext B b2 (Nat.le_refl _))
      | (go_at_call 10; refine (H3.out _).mono ?_; rintro e u3 ⟨rfl, b3⟩; have rp3 := rp2.later b3; have rg3 := (r1.later b2).later b3; have B3 := bnext B2 b3 (Nat.le_refl _))
      | (go_at_call 22; refine (H2.out _).mono ?_; rintro e u4 ⟨rfl, b4⟩)
      | (go_at_call 18; refine (works_any _).mono ?_; rintro e u5 ⟨rfl, b5⟩))
    go_returns
    exact ⟨rfl, bnext (bnext B3 b4 (Nat.le_refl _)) b5 (Nat.le_refl _)⟩

theorem own : ownKnob Try.prog.godebug = none := by kernel_rfl
theorem laidOut : laidOutB Try.prog = true := by kernel_rfl
set_option maxRecDepth 100000 in
theorem lifted (os : Os) (started : os.Started) (H : Type) (enc : TypeId × Value → H) :
    ReturnsInHanded {} Try.checked os 7 .any (Rows.mapsFirstSpec.pre6 enc Try.prog Try.f7 Rows.mapsFirstRow.domain false) (Rows.mapsFirstSpec.post enc Try.prog Try.f7 false true false false) := by
  refine returnsInHanded_of_change (C := Try.checked) own started (by kernel_rfl) Try.func7
    (ChangeSpec.witness6 (enc := enc) (C := Try.checked) false ⟨#[], #[.agg Ld.zero.cs.toArray, .agg #[.int .i64 0, .int .i64 0, .int .i64 0], .int .i64 0, .int .i64 0], []⟩ 8 (by kernel_rfl) (by kernel_rfl) (by kernel_rfl) (by kernel_rfl)) ?_
  intro W base args ds gs before hval0 hW hcnd _
  have hval : ∀ (j : Nat) t v, Try.f7.params[j]? = some t → args[j]? = some v → Value.okWide Try.prog W .any base t v := hval0
  have hW' := hW
  obtain ⟨p, q, hA0, hV, rfl, hfz, hnd⟩ := hW
  have hA : DataW.TrodAll enc Try.prog W 0 (fun _ => true) true Try.f7.params.toList args.toList ds p := hA0
  rw [Try.params7] at hA hval
  obtain ⟨v0, vs0, d0, ds0, p0, q0, hargs, rfl, rfl, h0, r0⟩ := trodAll_cons hA
  obtain ⟨v1, vs1, d1, ds1, p1, q1, rfl, rfl, rfl, h1, r1⟩ := trodAll_cons r0
  obtain ⟨v2, vs2, d2, ds2, p2, q2, rfl, rfl, rfl, h2, r2⟩ := trodAll_cons r1
  obtain ⟨v3, vs3, d3, ds3, p3, q3, rfl, rfl, rfl, h3, r3⟩ := trodAll_cons r2
  obtain ⟨rfl, rfl, rfl⟩ := trodAll_nil r3
  obtain rfl : args = #[v0, v1, v2, v3] := by cases args; simp_all
  obtain ⟨rfl, rfl⟩ := trodVars_none hV
  obtain ⟨cs0, rfl, _⟩ := okWide_row arrL.und (hval 0 23 v0 rfl rfl)
  have k0 := h0
  have lt0 : ∀ x ∈ p0, x.block < W.heap.size := by obtain ⟨m, hm⟩ := k0; exact DataW.trod_lt m _ _ _ hm
  obtain ⟨b0, e0⟩ : ∃ b : Ld, cs0 = b.cs.toArray := by
    obtain ⟨fuel, hf⟩ := h0
    obtain ⟨b, hb⟩ := ldOfTrod hf
    exact ⟨b, by rw [hb]; simp [Value.cells]⟩
  subst e0
  have k1 := h1
  have lt1 : ∀ x ∈ p1, x.block < W.heap.size := by obtain ⟨m, hm⟩ := k1; exact DataW.trod_lt m _ _ _ hm
  obtain ⟨c10, c11, c12, y10, y11, y12, m1, rfl, rfl, rfl, hy10, hy11, hy12⟩ := Go.Joins.open_agg3 Try.underlying36 (by kernel_rfl) (by kernel_rfl) (hval 1 36 v1 rfl rfl) h1
  obtain ⟨x10, e10, _, _⟩ := DataW.trod_int Try.underlying3 hy10
  injection e10 with e10
  subst e10
  obtain ⟨x11, e11, _, _⟩ := DataW.trod_int Try.underlying3 hy11
  injection e11 with e11
  subst e11
  obtain ⟨x12, e12, _, _⟩ := DataW.trod_int Try.underlying3 hy12
  injection e12 with e12
  subst e12
  obtain ⟨a2, rfl, rfl, rfl, w2⟩ := open_int Try.underlying3 (hval 2 3 v2 rfl rfl) h2
  obtain ⟨a3, rfl, rfl, rfl, w3⟩ := open_int Try.underlying3 (hval 3 3 v3 rfl rfl) h3
  clear hA0 hval0
  refine (walk b0 ⟨x10, x11, x12⟩ a2 a3 W w2 w3).mono fun e W' ⟨he, bel⟩ => ?_
  subst he
  exact ⟨_, rfl, _, _, _, [], _, [], hW', trodAll_mk1 (shut_bool Try.underlying4 _), (trodAll_cons_mk (Below.trod laidOut (by kernel_rfl) (of_decide_eq_true (by kernel_rfl)) k0 bel lt0) (trodAll_cons_mk (Below.trod laidOut (by kernel_rfl) (of_decide_eq_true (by kernel_rfl)) k1 bel lt1) (trodAll_cons_mk (shut_int Try.underlying3 w2) (trodAll_cons_mk (shut_int Try.underlying3 w3) trodAll_mk0)))), rfl, bel.frame _, fun h => by cases h⟩
theorem over : Rows.mapsFirstRow.holds Try.pinned (OpenSpec.ofChange Rows.mapsFirstSpec) :=
  OpenClaim.holds_of_wide 7 Try.f7 rfl rfl rfl rfl rfl rfl rfl ⟨rfl, rfl, rfl, rfl, rfl⟩ rfl rfl rfl rfl rfl (by kernel_rfl) Try.func7 (by kernel_rfl)
    (of_decide_eq_true (by kernel_rfl)) (by unfold Func.isWrapper; first | (rw [if_pos (by decide +kernel)]; kernel_rfl) | (rw [if_neg (by decide +kernel)]; exact ⟨rfl, rfl⟩))
    (fun os started H enc _ => lifted os started H enc)
end Go.Proofs.Ythanenbjfcndbaa.mapsFirst
namespace Go.Proofs.Ythanenbjfcndbaa
/-- The statement. -/
theorem mapsFirst_holds : Rows.MapsFirstSaid := mapsFirst.over
#print axioms mapsFirst_holds
end Go.Proofs.Ythanenbjfcndbaa
