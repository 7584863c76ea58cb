/-
  The statement DirentLoads, proved: for every load, slot and entry the law returns true; no condition.
-/
import Derived.Test.YtbmfoefapbakmaaDirW
import Derived.Test.YtbmfoefapbakmaaDirH
import Derived.Test.YtbmfoefapbakmaaDirIn
namespace Go.Proofs.Ytbmfoefapbakmaa.direntLoads
open Go.ChangeShapes Go.WideShapes Go.ChangeAt Go.RowKit
set_option linter.unusedVariables false

set_option maxRecDepth 100000 in
set_option maxHeartbeats 8000000 in
theorem walk (p : Ld) (k : Int) (x : Ent) (w : World) (hk : (Lit.int .i64 k).wf = true) : Calls Try.prog 4 #[.agg p.cs.toArray, .int .i64 k, .agg x.cs.toArray] w fun e w' => e = .returned (.bool true) ∧ Below w.heap.size w w' := by
  have hp := p.len
  have hz := str_size x.s
  have hmin := cut_min x.s
  have hle : ((min x.s.length 100 : Nat) : Int) ≤ (x.s.length : Int) := by omega
  have hcut := str_cut x.s (min x.s.length 100)
  generalize min x.s.length 100 = m at *
  generalize x.s.take m = s at *
  obtain ⟨X, hX⟩ : ∃ X : Ent, Hid (⟨x.n, s⟩ = X) := ⟨_, rfl⟩
  have hA := dat_any p k
  have hB := rdat_any p k
  have hC := dwith_any p k X
  have hE := rwith_any p k X
  have hF := dwithout_any p k
  have hG := rwithout_any p k
  have hO := offsetD_any k
  have hq := (wiL p k X).len
  have hr := (woL p k).len
  have he1 := eqE (atE p k) (atE p k)
  rw [ent_self] at he1
  have hg1 := guardE
  have he2 := eqL (wiL p k X) (wiL p k X)
  rw [decide_eq_true rfl] at he2
  have he3 := eqL (woL p k) (woL p k)
  rw [decide_eq_true rfl] at he3
  have hg2 := guardL
  clear hk
  generalize atE p k = Y at *
  generalize atI p k = I at *
  generalize wiL p k X = Q at *
  generalize wiE k X = WE at *
  generalize woL p k = R at *
  have hsk : Hid (skE k = skE k) := rfl
  obtain ⟨SE, hSE⟩ : ∃ SE, Hid (skE k = SE) := ⟨_, rfl⟩
  rw [hSE.out] at hA hB hF hG hO
  have t1 : True := trivial
  have t2 : True := trivial
  have t3 : True := trivial
  have t4 : True := trivial
  have t5 : True := trivial
  have t6 : True := trivial
  go_enter Try.func4, Try.ntmps4
  go_wp2_with (first
    | (refine at_box 36 54 arrL (by rfl) _ (by rfl) p.l (by rfl) hp ?_; intro g3 w1 a1 z1 r1 b1)
    | (refine at_boxE (by rfl) _ (by rfl) x (by rfl) ?_; intro g5 w2 a2 z2 r2 b2; obtain ⟨q0, q1⟩ := r2.ent)
    | (refine at_setS (by rfl) _ _ (by rfl) g5 (by rfl) s (by rfl) x r2 ?_; intro v0 x0 s2
       rw [hX.out] at x0
       have p0 : Row v0 g3 p.l := (r1.later b2).step s2 (by have := r1.lt; omega)
       have S0 : Stp (fun y => w.heap.size ≤ y) w v0 := (Stp.of_below (bnext b1 b2 (Nat.le_refl _)) _).next s2 (fun y hy => .inl (by subst hy; have := b1.size; omega))
       clear q0 q1 r1 r2 b1 b2 s2 a1 z1 a2 z2)
    | (have _t := t1; refine at_getL (by rfl) _ (by rfl) g3 (by rfl) p p0 ?_; clear _t)
    | (go_at_call 14; refine (hA _).mono ?_; rintro e c1 ⟨rfl, b1⟩)
    | (have _t := t1; refine at_newE (by rfl) (by rfl) ?_; intro g7 d1 a1 z1 r1 n1; clear _t)
    | (have _t := t1; refine at_putE (by rfl) _ _ (by rfl) g7 (by rfl) Y (by rfl) Ent.zero r1 ?_; intro v1 yg71 s1
       have p1 : Row v1 g3 p.l := ((p0.later b1).later n1).step s1 (by have := (p0.later b1).lt; omega)
       have x1 : Cs v1 g5 X.cs := ((x0.later b1).later n1).step s1 (by have := (x0.later b1).lt; omega)
       have S1 : Stp (fun y => w.heap.size ≤ y) w v1 := (S0.next (Stp.of_below (bnext b1 n1 (Nat.le_refl _)) (fun _ => False)) (fun _ h => h.elim)).next s1 (fun y hy => .inl (by subst hy; have := S0.size; have := b1.size; omega))
       clear _t t1 p0 x0 S0 b1 n1 r1 a1 z1 s1)
    | (have _t := t2; refine at_getL (by rfl) _ (by rfl) g3 (by rfl) p p1 ?_; clear _t)
    | (go_at_call 15; refine (hB _).mono ?_; rintro e c2 ⟨rfl, b2⟩)
    | (have _t := t2; refine at_newE (by rfl) (by rfl) ?_; intro g10 d2 a2 z2 r2 n2; clear _t)
    | (have _t := t2; refine at_putE (by rfl) _ _ (by rfl) g10 (by rfl) Y (by rfl) Ent.zero r2 ?_; intro v2 yg102 s2
       have p2 : Row v2 g3 p.l := ((p1.later b2).later n2).step s2 (by have := (p1.later b2).lt; omega)
       have x2 : Cs v2 g5 X.cs := ((x1.later b2).later n2).step s2 (by have := (x1.later b2).lt; omega)
       have yg72 : Cs v2 g7 Y.cs := ((yg71.later b2).later n2).step s2 (by have := (yg71.later b2).lt; omega)
       have S2 : Stp (fun y => w.heap.size ≤ y) w v2 := (S1.next (Stp.of_below (bnext b2 n2 (Nat.le_refl _)) (fun _ => False)) (fun _ h => h.elim)).next s2 (fun y hy => .inl (by subst hy; have := S1.size; have := b2.size; omega))
       clear _t t2 p1 x1 yg71 S1 b2 n2 r2 a2 z2 s2)
    | (have _t := t3; refine at_getL (by rfl) _ (by rfl) g3 (by rfl) p p2 ?_; clear _t)
    | (have _t := t3; refine at_getE (by rfl) _ (by rfl) g5 (by rfl) X x2 ?_; clear _t)
    | (go_at_call 16; refine (hC _).mono ?_; rintro e c3 ⟨rfl, b3⟩)
    | (have _t := t3; refine at_new 36 54 arrL (by rfl) (by rfl) ?_; intro g13 d3 a3 z3 r3 n3; clear _t)
    | (have _t := t3; refine at_put 36 54 arrL (by rfl) _ _ (by rfl) g13 (by rfl) Q.l (by rfl) hq _ r3 (by simp) ?_; intro v3 yg133 s3
       have p3 : Row v3 g3 p.l := ((p2.later b3).later n3).step s3 (by have := (p2.later b3).lt; omega)
       have x3 : Cs v3 g5 X.cs := ((x2.later b3).later n3).step s3 (by have := (x2.later b3).lt; omega)
       have yg73 : Cs v3 g7 Y.cs := ((yg72.later b3).later n3).step s3 (by have := (yg72.later b3).lt; omega)
       have yg103 : Cs v3 g10 Y.cs := ((yg102.later b3).later n3).step s3 (by have := (yg102.later b3).lt; omega)
       have S3 : Stp (fun y => w.heap.size ≤ y) w v3 := (S2.next (Stp.of_below (bnext b3 n3 (Nat.le_refl _)) (fun _ => False)) (fun _ h => h.elim)).next s3 (fun y hy => .inl (by subst hy; have := S2.size; have := b3.size; omega))
       clear _t t3 p2 x2 yg72 yg102 S2 b3 n3 r3 a3 z3 s3)
    | (have _t := t4; refine at_getL (by rfl) _ (by rfl) g3 (by rfl) p p3 ?_; clear _t)
    | (have _t := t4; refine at_getE (by rfl) _ (by rfl) g5 (by rfl) X x3 ?_; clear _t)
    | (go_at_call 17; refine (hE _).mono ?_; rintro e c4 ⟨rfl, b4⟩)
    | (have _t := t4; refine at_new 36 54 arrL (by rfl) (by rfl) ?_; intro g15 d4 a4 z4 r4 n4; clear _t)
    | (have _t := t4; refine at_put 36 54 arrL (by rfl) _ _ (by rfl) g15 (by rfl) Q.l (by rfl) hq _ r4 (by simp) ?_; intro v4 yg154 s4
       have p4 : Row v4 g3 p.l := ((p3.later b4).later n4).step s4 (by have := (p3.later b4).lt; omega)
       have x4 : Cs v4 g5 X.cs := ((x3.later b4).later n4).step s4 (by have := (x3.later b4).lt; omega)
       have yg74 : Cs v4 g7 Y.cs := ((yg73.later b4).later n4).step s4 (by have := (yg73.later b4).lt; omega)
       have yg104 : Cs v4 g10 Y.cs := ((yg103.later b4).later n4).step s4 (by have := (yg103.later b4).lt; omega)
       have yg134 : Row v4 g13 Q.l := ((yg133.later b4).later n4).step s4 (by have := (yg133.later b4).lt; omega)
       have S4 : Stp (fun y => w.heap.size ≤ y) w v4 := (S3.next (Stp.of_below (bnext b4 n4 (Nat.le_refl _)) (fun _ => False)) (fun _ h => h.elim)).next s4 (fun y hy => .inl (by subst hy; have := S3.size; have := b4.size; omega))
       clear _t t4 p3 x3 yg73 yg103 yg133 S3 b4 n4 r4 a4 z4 s4)
    | (have _t := t5; refine at_getL (by rfl) _ (by rfl) g3 (by rfl) p p4 ?_; clear _t)
    | (go_at_call 18; refine (hF _).mono ?_; rintro e c5 ⟨rfl, b5⟩)
    | (have _t := t5; refine at_new 36 54 arrL (by rfl) (by rfl) ?_; intro g17 d5 a5 z5 r5 n5; clear _t)
    | (have _t := t5; refine at_put 36 54 arrL (by rfl) _ _ (by rfl) g17 (by rfl) R.l (by rfl) hr _ r5 (by simp) ?_; intro v5 yg175 s5
       have p5 : Row v5 g3 p.l := ((p4.later b5).later n5).step s5 (by have := (p4.later b5).lt; omega)
       have x5 : Cs v5 g5 X.cs := ((x4.later b5).later n5).step s5 (by have := (x4.later b5).lt; omega)
       have yg75 : Cs v5 g7 Y.cs := ((yg74.later b5).later n5).step s5 (by have := (yg74.later b5).lt; omega)
       have yg105 : Cs v5 g10 Y.cs := ((yg104.later b5).later n5).step s5 (by have := (yg104.later b5).lt; omega)
       have yg135 : Row v5 g13 Q.l := ((yg134.later b5).later n5).step s5 (by have := (yg134.later b5).lt; omega)
       have yg155 : Row v5 g15 Q.l := ((yg154.later b5).later n5).step s5 (by have := (yg154.later b5).lt; omega)
       have S5 : Stp (fun y => w.heap.size ≤ y) w v5 := (S4.next (Stp.of_below (bnext b5 n5 (Nat.le_refl _)) (fun _ => False)) (fun _ h => h.elim)).next s5 (fun y hy => .inl (by subst hy; have := S4.size; have := b5.size; omega))
       clear _t t5 p4 x4 yg74 yg104 yg134 yg154 S4 b5 n5 r5 a5 z5 s5)
    | (have _t := t6; refine at_getL (by rfl) _ (by rfl) g3 (by rfl) p p5 ?_; clear _t)
    | (go_at_call 19; refine (hG _).mono ?_; rintro e c6 ⟨rfl, b6⟩)
    | (have _t := t6; refine at_new 36 54 arrL (by rfl) (by rfl) ?_; intro g19 d6 a6 z6 r6 n6; clear _t)
    | (have _t := t6; refine at_put 36 54 arrL (by rfl) _ _ (by rfl) g19 (by rfl) R.l (by rfl) hr _ r6 (by simp) ?_; intro v6 yg196 s6
       have p6 : Row v6 g3 p.l := ((p5.later b6).later n6).step s6 (by have := (p5.later b6).lt; omega)
       have x6 : Cs v6 g5 X.cs := ((x5.later b6).later n6).step s6 (by have := (x5.later b6).lt; omega)
       have yg76 : Cs v6 g7 Y.cs := ((yg75.later b6).later n6).step s6 (by have := (yg75.later b6).lt; omega)
       have yg106 : Cs v6 g10 Y.cs := ((yg105.later b6).later n6).step s6 (by have := (yg105.later b6).lt; omega)
       have yg136 : Row v6 g13 Q.l := ((yg135.later b6).later n6).step s6 (by have := (yg135.later b6).lt; omega)
       have yg156 : Row v6 g15 Q.l := ((yg155.later b6).later n6).step s6 (by have := (yg155.later b6).lt; omega)
       have yg176 : Row v6 g17 R.l := ((yg175.later b6).later n6).step s6 (by have := (yg175.later b6).lt; omega)
       have S6 : Stp (fun y => w.heap.size ≤ y) w v6 := (S5.next (Stp.of_below (bnext b6 n6 (Nat.le_refl _)) (fun _ => False)) (fun _ h => h.elim)).next s6 (fun y hy => .inl (by subst hy; have := S5.size; have := b6.size; omega))
       clear _t t6 p5 x5 yg75 yg105 yg135 yg155 yg175 S5 b6 n6 r6 a6 z6 s6))
  have BW := S6.below (Nat.le_refl _) (fun _ h => h)
  clear S6 p6 x6 hA hB hC hE hF hG
  by_cases h : isD k
  · have h1 := h.1
    have h2 := h.2
    have e1 : SE = 0 := by rw [← hSE.out]; unfold skE; rw [if_pos h]
    have e2 : ofA k = 13 * k := by unfold ofA; rw [if_pos h]
    have hw : IntKind.i64.wrap (13 * k) = 13 * k := by rw [IntKind.wrap_i64]; omega
    rw [e2] at hO
    subst e1
    clear h e2
    go_wp2_with (first
      | (go_at_call 20; refine (hO _).mono ?_; rintro e u ⟨rfl, rfl⟩)
      | (refine at_getE (by rfl) _ (by rfl) g7 (by rfl) Y yg76 ?_)
      | (refine at_getE (by rfl) _ (by rfl) g10 (by rfl) Y yg106 ?_)
      | (refine at_getL (by rfl) _ (by rfl) g13 (by rfl) Q yg136 ?_)
      | (refine at_getL (by rfl) _ (by rfl) g15 (by rfl) Q yg156 ?_)
      | (refine at_getL (by rfl) _ (by rfl) g17 (by rfl) R yg176 ?_)
      | (refine at_getL (by rfl) _ (by rfl) g19 (by rfl) R yg196 ?_)
      | (go_at_call 13; refine (works12_any _).mono ?_; rintro e w9 ⟨rfl, b9⟩))
    go_returns
    exact ⟨rfl, bnext BW b9 (Nat.le_refl _)⟩
  · have e1 : SE = 2 := by rw [← hSE.out]; unfold skE; rw [if_neg h]
    have e2 : ofA k = 0 := by unfold ofA; rw [if_neg h]
    rw [e2] at hO
    subst e1
    by_cases h0 : 0 ≤ k
    · have h3 : ¬ k ≤ 3 := fun h3 => h ⟨h0, h3⟩
      have h4 : 3 < k := by omega
      have h5 : ¬ k < 0 := by omega
      clear h e2
      go_wp2_with (first
        | (go_at_call 20; refine (hO _).mono ?_; rintro e u ⟨rfl, rfl⟩)
        | (refine at_getE (by rfl) _ (by rfl) g7 (by rfl) Y yg76 ?_)
        | (refine at_getE (by rfl) _ (by rfl) g10 (by rfl) Y yg106 ?_)
        | (refine at_getL (by rfl) _ (by rfl) g13 (by rfl) Q yg136 ?_)
        | (refine at_getL (by rfl) _ (by rfl) g15 (by rfl) Q yg156 ?_)
        | (refine at_getL (by rfl) _ (by rfl) g17 (by rfl) R yg176 ?_)
        | (refine at_getL (by rfl) _ (by rfl) g19 (by rfl) R yg196 ?_)
        | (go_at_call 13; refine (works12_any _).mono ?_; rintro e w9 ⟨rfl, b9⟩))
      go_returns
      exact ⟨rfl, bnext BW b9 (Nat.le_refl _)⟩
    · have h5 : k < 0 := by omega
      clear h e2
      go_wp2_with (first
        | (go_at_call 20; refine (hO _).mono ?_; rintro e u ⟨rfl, rfl⟩)
        | (refine at_getE (by rfl) _ (by rfl) g7 (by rfl) Y yg76 ?_)
        | (refine at_getE (by rfl) _ (by rfl) g10 (by rfl) Y yg106 ?_)
        | (refine at_getL (by rfl) _ (by rfl) g13 (by rfl) Q yg136 ?_)
        | (refine at_getL (by rfl) _ (by rfl) g15 (by rfl) Q yg156 ?_)
        | (refine at_getL (by rfl) _ (by rfl) g17 (by rfl) R yg176 ?_)
        | (refine at_getL (by rfl) _ (by rfl) g19 (by rfl) R yg196 ?_)
        | (go_at_call 13; refine (works12_any _).mono ?_; rintro e w9 ⟨rfl, b9⟩))
      go_returns
      exact ⟨rfl, bnext BW b9 (Nat.le_refl _)⟩
theorem own : ownKnob Try.prog.godebug = none := by kernel_rfl
theorem laidOut : laidOutB Try.prog = true := by kernel_rfl
set_option maxRecDepth 100000 in
theorem lifted (os : Os) (started : os.Started) (H : Type) (enc : TypeId × Value → H) :
    ReturnsInHanded {} Try.checked os 4 .any (Rows.direntLoadsSpec.pre6 enc Try.prog Try.f4 Rows.direntLoadsRow.domain false) (Rows.direntLoadsSpec.post enc Try.prog Try.f4 false true false false) := by
  refine returnsInHanded_of_change (C := Try.checked) own started (by kernel_rfl) Try.func4
    (ChangeSpec.witness6 (enc := enc) (C := Try.checked) false ⟨#[], #[.agg Ld.zero.cs.toArray, .int .i64 0, .agg Ent.zero.cs.toArray], []⟩ 8 (by kernel_rfl) (by kernel_rfl) (by kernel_rfl) (by kernel_rfl)) ?_
  intro W base args ds gs before hval0 hW hcnd _
  have hval : ∀ (j : Nat) t v, Try.f4.params[j]? = some t → args[j]? = some v → Value.okWide Try.prog W .any base t v := hval0
  have hW' := hW
  obtain ⟨p, q, hA0, hV, rfl, hfz, hnd⟩ := hW
  have hA : DataW.TrodAll enc Try.prog W 0 (fun _ => true) true Try.f4.params.toList args.toList ds p := hA0
  rw [Try.params4] at hA hval
  obtain ⟨v0, vs0, d0, ds0, p0, q0, hargs, rfl, rfl, h0, r0⟩ := trodAll_cons hA
  obtain ⟨v1, vs1, d1, ds1, p1, q1, rfl, rfl, rfl, h1, r1⟩ := trodAll_cons r0
  obtain ⟨v2, vs2, d2, ds2, p2, q2, rfl, rfl, rfl, h2, r2⟩ := trodAll_cons r1
  obtain ⟨rfl, rfl, rfl⟩ := trodAll_nil r2
  obtain rfl : args = #[v0, v1, v2] := by cases args; simp_all
  obtain ⟨rfl, rfl⟩ := trodVars_none hV
  obtain ⟨cs0, rfl, _⟩ := okWide_row arrL.und (hval 0 36 v0 rfl rfl)
  have k0 := h0
  have lt0 : ∀ x ∈ p0, x.block < W.heap.size := by obtain ⟨m, hm⟩ := k0; exact DataW.trod_lt m _ _ _ hm
  obtain ⟨b0, e0⟩ : ∃ b : Ld, cs0 = b.cs.toArray := by
    obtain ⟨fuel, hf⟩ := h0
    obtain ⟨b, hb⟩ := ldOfTrod hf
    exact ⟨b, by rw [hb]; simp [Value.cells]⟩
  subst e0
  obtain ⟨a1, rfl, rfl, rfl, w1⟩ := open_int Try.underlying3 (hval 1 3 v1 rfl rfl) h1
  obtain ⟨cs2, rfl, _⟩ := okWide_struct Try.underlying23 (hval 2 23 v2 rfl rfl)
  have k2 := h2
  have lt2 : ∀ x ∈ p2, x.block < W.heap.size := by obtain ⟨m, hm⟩ := k2; exact DataW.trod_lt m _ _ _ hm
  obtain ⟨b2, e2⟩ : ∃ b : Ent, cs2 = b.cs.toArray := by
    obtain ⟨fuel, hf⟩ := h2
    obtain ⟨b, hb⟩ := entOfTrod hf
    exact ⟨b, by rw [hb]; simp [Value.cells]⟩
  subst e2
  clear hA0 hval0
  refine (walk b0 a1 b2 W w1).mono fun e W' ⟨he, bel⟩ => ?_
  subst he
  exact ⟨_, rfl, _, _, _, [], _, [], hW', trodAll_mk1 (shut_bool Try.underlying4 _), (trodAll_cons_mk (Below.trod laidOut (by kernel_rfl) (of_decide_eq_true (by kernel_rfl)) k0 bel lt0) (trodAll_cons_mk (shut_int Try.underlying3 w1) (trodAll_cons_mk (Below.trod laidOut (by kernel_rfl) (of_decide_eq_true (by kernel_rfl)) k2 bel lt2) trodAll_mk0))), rfl, bel.frame _, fun h => by cases h⟩
theorem over : Rows.direntLoadsRow.holds Try.pinned (OpenSpec.ofChange Rows.direntLoadsSpec) :=
  OpenClaim.holds_of_wide 4 Try.f4 rfl rfl rfl rfl rfl rfl rfl ⟨rfl, rfl, rfl, rfl, rfl⟩ rfl rfl rfl rfl rfl (by kernel_rfl) Try.func4 (by kernel_rfl)
    (of_decide_eq_true (by kernel_rfl)) (by unfold Func.isWrapper; first | (rw [if_pos (by decide +kernel)]; kernel_rfl) | (rw [if_neg (by decide +kernel)]; exact ⟨rfl, rfl⟩))
    (fun os started H enc _ => lifted os started H enc)
end Go.Proofs.Ytbmfoefapbakmaa.direntLoads
namespace Go.Proofs.Ytbmfoefapbakmaa
/-- The statement. -/
theorem direntLoads_holds : Rows.DirentLoadsSaid := direntLoads.over
#print axioms direntLoads_holds
end Go.Proofs.Ytbmfoefapbakmaa
