/-
  The statement SealBack, proved: for every kind, turn and load the law returns true, and what came in reads as it did; no condition.
-/
import Derived.Test.YtkejgacelbnpnaaSealK
namespace Go.Proofs.Ytkejgacelbnpnaa.sealBack
open Go.ChangeShapes Go.WideShapes Go.ChangeAt Go.RowKit
set_option linter.unusedVariables false

set_option maxRecDepth 100000 in
set_option maxHeartbeats 1000000 in
theorem walk_no (k : Int) (t : Nat) (p : Ld) (w : World) (ht : t < 4294967296) (hk : isK k = false) :
    Calls Try.prog 5 #[.int .i64 k, .int .u32 (t : Int), .agg p.cs.toArray] w fun e w' => e = .returned (.bool true) ∧ Below w.heap.size w w' := by
  have hp := p.len
  have hP := fun w => put_any k t p w ht
  have e1 : pB k t p = Blk.zero := by unfold pB; rw [hk]; rfl
  have e2 : pE k = 2 := by unfold pE; rw [hk]; rfl
  have e3 : gE k Blk.zero = 2 := by unfold gE; rw [hk]; rfl
  have hG := fun w => get_any k Blk.zero w
  rw [e1, e2] at hP
  rw [e3] at hG
  have H1 : Hid _ := hP
  have H2 : Hid _ := hG
  have hb := Blk.zero.len
  have hlp := (gP k Blk.zero).len
  have qB : ∀ w, (Op.equalIn 10000 26 (.agg Blk.zero.cs.toArray) (.agg Blk.zero.cs.toArray)).run Try.prog w = .ok true w := fun w => by rw [eqB]; simp
  have gB := guardB
  clear hP hG e1 e2 e3
  generalize gP k Blk.zero = q at *
  go_enter Try.func5, Try.ntmps5
  go_wp2_with (first
    | (refine at_getB (by rfl) _ (by rfl) gb (by rfl) Blk.zero x5 ?_)
    | (refine at_getB (by rfl) _ (by rfl) gb (by rfl) Blk.zero r3 ?_)
    | (refine at_bldB (by rfl) (by rfl) ?_)
    | (refine at_box 24 54 arrL (by rfl) _ (by rfl) p.l (by rfl) hp ?_; intro g0 w8 a8 z8 r8 b8)
    | (go_at_call 14; refine (works_any _).mono ?_; rintro e w9 ⟨rfl, b9⟩)
    | (refine at_getL (by rfl) _ (by rfl) g0 (by rfl) p (r8.later b9) ?_)
    | (go_at_call 8; refine (H1.out _).mono ?_; rintro e w1 ⟨rfl, b1⟩)
    | (refine at_new 26 64 arrB (by rfl) (by rfl) ?_; intro gb w2 a2 z2 r2 b2)
    | (refine at_put 26 64 arrB (by rfl) _ _ (by rfl) gb (by rfl) Blk.zero.l (by rfl) hb _ r2 (by simp) ?_; intro w3 r3 s3)
    | (go_at_call 10; refine (H2.out _).mono ?_; rintro e w4 ⟨rfl, b4⟩)
    | (refine at_new 24 54 arrL (by rfl) (by rfl) ?_; intro gp w5 a5 z5 r5 b5)
    | (refine at_put 24 54 arrL (by rfl) _ _ (by rfl) gp (by rfl) q.l (by rfl) hlp _ r5 (by simp) ?_; intro w6 r6 s6
       have x5 : Row w6 gb Blk.zero.l := ((r3.later b4).later b5).step s6 (by have := r3.lt; have := b4.size; omega)))
  have S2 : Stp (fun x => w.heap.size ≤ x) w w2 := Stp.of_below (bnext (bnext (bnext b8 b9 (Nat.le_refl _)) b1 (Nat.le_refl _)) b2 (Nat.le_refl _)) _
  have S3 := S2.next s3 (fun x hx => .inl (by subst hx; have := b8.size; have := b9.size; have := b1.size; omega))
  have S5 := S3.next (Stp.of_below (bnext b4 b5 (Nat.le_refl _)) (fun _ => False)) (fun _ h => h.elim)
  have S6 := S5.next s6 (fun x hx => .inl (by subst hx; have := S3.size; have := b4.size; omega))
  go_returns
  exact ⟨rfl, S6.below (Nat.le_refl _) (fun _ h => h)⟩
set_option maxRecDepth 100000 in
set_option maxHeartbeats 1000000 in
theorem walk_yes (n t : Nat) (p : Ld) (w : World) (ht : t < 4294967296) (h1 : 1 ≤ n) (h6 : n ≤ 6) :
    Calls Try.prog 5 #[.int .i64 (n : Int), .int .u32 (t : Int), .agg p.cs.toArray] w fun e w' => e = .returned (.bool true) ∧ Below w.heap.size w w' := by
  have hp := p.len
  have hk := isK_of h1 h6
  have hK := seal_kind n t p h1 h6 ht
  have hP := fun w => put_any (n : Int) t p w ht
  have e1 : pB n t p = sealK n t p := by unfold pB; rw [hk]; rfl
  have e2 : pE n = 0 := by unfold pE; rw [hk]; rfl
  have e3 := gE_yes h1 h6 hK
  have e4 : gP n (sealK n t p) = p := by rw [gP_own (by omega) hK]; exact seal_load n t p h1 h6 ht
  have e5 : gT n (sealK n t p) = t := by
    have := gT_own (b := sealK n t p) (by rw [hK]; omega)
    rw [hK, seal_turn n t p h1 h6 ht] at this; exact this
  have hG := fun w => get_any (n : Int) (sealK n t p) w
  have hD := fun w => kind_any (sealK n t p) w
  rw [e1, e2] at hP
  rw [e3, e4, e5] at hG
  rw [hK] at hD
  have H1 : Hid _ := hP
  have H2 : Hid _ := hG
  have H3 : Hid _ := hD
  clear hP hG hD e1 e2 e3 e4 e5 hK
  have hb := (sealK n t p).len
  generalize sealK n t p = b at *
  have qL : ∀ w, (Op.equalIn 10000 24 (.agg p.cs.toArray) (.agg p.cs.toArray)).run Try.prog w = .ok true w := fun w => by rw [eqL]; simp
  have gL := guardL
  go_enter Try.func5, Try.ntmps5
  go_wp2_with (first
    | (refine at_getB (by rfl) _ (by rfl) gb (by rfl) b x5 ?_)
    | (refine at_getB (by rfl) _ (by rfl) gb (by rfl) b r3 ?_)
    | (refine at_getL (by rfl) _ (by rfl) g0 (by rfl) p y5 ?_)
    | (refine at_getL (by rfl) _ (by rfl) gp (by rfl) p r6 ?_)
    | (refine at_box 24 54 arrL (by rfl) _ (by rfl) p.l (by rfl) hp ?_; intro g0 w8 a8 z8 r8 b8)
    | (go_at_call 14; refine (works_any _).mono ?_; rintro e w9 ⟨rfl, b9⟩)
    | (refine at_getL (by rfl) _ (by rfl) g0 (by rfl) p (r8.later b9) ?_)
    | (go_at_call 8; refine (H1.out _).mono ?_; rintro e w1 ⟨rfl, b1⟩)
    | (refine at_new 26 64 arrB (by rfl) (by rfl) ?_; intro gb w2 a2 z2 r2 b2)
    | (refine at_put 26 64 arrB (by rfl) _ _ (by rfl) gb (by rfl) b.l (by rfl) hb _ r2 (by simp) ?_; intro w3 r3 s3)
    | (go_at_call 10; refine (H2.out _).mono ?_; rintro e w4 ⟨rfl, b4⟩)
    | (refine at_new 24 54 arrL (by rfl) (by rfl) ?_; intro gp w5 a5 z5 r5 b5)
    | (refine at_put 24 54 arrL (by rfl) _ _ (by rfl) gp (by rfl) p.l (by rfl) hp _ r5 (by simp) ?_; intro w6 r6 s6
       have x5 : Row w6 gb b.l := ((r3.later b4).later b5).step s6 (by have := r3.lt; have := b4.size; omega)
       have y5 : Row w6 g0 p.l := ((((((r8.later b9).later b1).later b2).step s3 (by have := b9.size; have := b1.size; omega)).later b4).later b5).step s6 (by have := b9.size; have := b1.size; have := b2.size; have := s3.size; have := b4.size; omega))
    | (go_at_call 12; refine (H3.out _).mono ?_; rintro e w7 ⟨rfl, b7⟩))
  have S2 : Stp (fun x => w.heap.size ≤ x) w w2 := Stp.of_below (bnext (bnext (bnext b8 b9 (Nat.le_refl _)) b1 (Nat.le_refl _)) b2 (Nat.le_refl _)) _
  have S3 := S2.next s3 (fun x hx => .inl (by subst hx; have := b8.size; have := b9.size; have := b1.size; omega))
  have S5 := S3.next (Stp.of_below (bnext b4 b5 (Nat.le_refl _)) (fun _ => False)) (fun _ h => h.elim)
  have S6 := S5.next s6 (fun x hx => .inl (by subst hx; have := S3.size; have := b4.size; omega))
  have S7 := S6.next (Stp.of_below b7 (fun _ => False)) (fun _ h => h.elim)
  go_returns
  exact ⟨rfl, S7.below (Nat.le_refl _) (fun _ h => h)⟩
theorem walk (a0 a1 : Int) (p : Ld) (w : World) (w0 : (Lit.int .i64 a0).wf = true) (w1 : (Lit.int .u32 a1).wf = true) :
    Calls Try.prog 5 #[.int .i64 a0, .int .u32 a1, .agg p.cs.toArray] w fun e w' => e = .returned (.bool true) ∧ Below w.heap.size w w' := by
  have r1 := bounds_u32 w1
  obtain ⟨t, rfl⟩ := Int.eq_ofNat_of_zero_le (show 0 ≤ a1 by omega)
  cases hk : isK a0
  · exact walk_no a0 t p w (by omega) hk
  · obtain ⟨n, rfl, h1, h6⟩ := isK_nat hk
    exact walk_yes n t p w (by omega) h1 h6

theorem own : ownKnob Try.prog.godebug = none := by kernel_rfl
theorem laidOut : laidOutB Try.prog = true := by kernel_rfl
set_option maxRecDepth 100000 in
theorem lifted (os : Os) (started : os.Started) (H : Type) (enc : TypeId × Value → H) :
    ReturnsInHanded {} Try.checked os 5 .any (Rows.sealBackSpec.pre6 enc Try.prog Try.f5 Rows.sealBackRow.domain false) (Rows.sealBackSpec.post enc Try.prog Try.f5 false true false false) := by
  refine returnsInHanded_of_change (C := Try.checked) own started (by kernel_rfl) Try.func5
    (ChangeSpec.witness6 (enc := enc) (C := Try.checked) false ⟨#[], #[.int .i64 0, .int .u32 0, .agg Ld.zero.cs.toArray], []⟩ 8 (by kernel_rfl) (by kernel_rfl) (by kernel_rfl) (by kernel_rfl)) ?_
  intro W base args ds gs before hval0 hW hcnd _
  have hval : ∀ (j : Nat) t v, Try.f5.params[j]? = some t → args[j]? = some v → Value.okWide Try.prog W .any base t v := hval0
  have hW' := hW
  obtain ⟨p, q, hA0, hV, rfl, hfz, hnd⟩ := hW
  have hA : DataW.TrodAll enc Try.prog W 0 (fun _ => true) true Try.f5.params.toList args.toList ds p := hA0
  rw [Try.params5] at hA hval
  obtain ⟨v0, vs0, d0, ds0, p0, q0, hargs, rfl, rfl, h0, r0⟩ := trodAll_cons hA
  obtain ⟨v1, vs1, d1, ds1, p1, q1, rfl, rfl, rfl, h1, r1⟩ := trodAll_cons r0
  obtain ⟨v2, vs2, d2, ds2, p2, q2, rfl, rfl, rfl, h2, r2⟩ := trodAll_cons r1
  obtain ⟨rfl, rfl, rfl⟩ := trodAll_nil r2
  obtain rfl : args = #[v0, v1, v2] := by cases args; simp_all
  obtain ⟨rfl, rfl⟩ := trodVars_none hV
  obtain ⟨a0, rfl, rfl, rfl, w0⟩ := open_int Try.underlying3 (hval 0 3 v0 rfl rfl) h0
  obtain ⟨a1, rfl, rfl, rfl, w1⟩ := open_int Try.underlying22 (hval 1 22 v1 rfl rfl) h1
  obtain ⟨cs2, rfl, _⟩ := okWide_row arrL.und (hval 2 24 v2 rfl rfl)
  have k2 := h2
  have lt2 : ∀ x ∈ p2, x.block < W.heap.size := by obtain ⟨m, hm⟩ := k2; exact DataW.trod_lt m _ _ _ hm
  obtain ⟨b2, e2⟩ : ∃ b : Ld, cs2 = b.cs.toArray := by
    obtain ⟨fuel, hf⟩ := h2
    obtain ⟨b, hb⟩ := ldOfTrod hf
    exact ⟨b, by rw [hb]; simp [Value.cells]⟩
  subst e2
  clear hA0 hval0
  refine (walk a0 a1 b2 W w0 w1).mono fun e W' ⟨he, bel⟩ => ?_
  subst he
  exact ⟨_, rfl, _, _, _, [], _, [], hW', trodAll_mk1 (shut_bool Try.underlying4 _), (trodAll_cons_mk (shut_int Try.underlying3 w0) (trodAll_cons_mk (shut_int Try.underlying22 w1) (trodAll_cons_mk (Below.trod laidOut (by kernel_rfl) (of_decide_eq_true (by kernel_rfl)) k2 bel lt2) trodAll_mk0))), rfl, bel.frame _, fun h => by cases h⟩
theorem over : Rows.sealBackRow.holds Try.pinned (OpenSpec.ofChange Rows.sealBackSpec) :=
  OpenClaim.holds_of_wide 5 Try.f5 rfl rfl rfl rfl rfl rfl rfl ⟨rfl, rfl, rfl, rfl, rfl⟩ rfl rfl rfl rfl rfl (by kernel_rfl) Try.func5 (by kernel_rfl)
    (of_decide_eq_true (by kernel_rfl)) (by unfold Func.isWrapper; first | (rw [if_pos (by decide +kernel)]; kernel_rfl) | (rw [if_neg (by decide +kernel)]; exact ⟨rfl, rfl⟩))
    (fun os started H enc _ => lifted os started H enc)
end Go.Proofs.Ytkejgacelbnpnaa.sealBack
namespace Go.Proofs.Ytkejgacelbnpnaa
/-- The statement. -/
theorem sealBack_holds : Rows.SealBackSaid := sealBack.over
#print axioms sealBack_holds
end Go.Proofs.Ytkejgacelbnpnaa
