/-
  What At, With and Without of layer 12 return, for every input: no statement is proved here.
-/
import Derived.Test.YtbmfoefapbakmaaDirE
namespace Go.Proofs.Ytbmfoefapbakmaa
open Go.ChangeShapes Go.WideShapes Go.ChangeAt Go.RowKit
set_option linter.unusedVariables false

theorem nat_of_isD {k : Int} (h : isD k) : ∃ j : Nat, k = j ∧ j ≤ 3 := ⟨k.toNat, by have := h.1; omega, by have := h.2; omega⟩
theorem atE_at (p : Ld) (j : Nat) (h : j ≤ 3) : atE p (j : Int) = tE (dslot p j) := by unfold atE; rw [if_pos ⟨by omega, by omega⟩]; rfl
theorem atI_at (p : Ld) (j : Nat) (h : j ≤ 3) : atI p (j : Int) = tI (dslot p j) := by unfold atI; rw [if_pos ⟨by omega, by omega⟩]; rfl
set_option maxRecDepth 100000 in
theorem dat_any (p : Ld) (k : Int) (w : World) : Calls Try.prog 14 #[.agg p.cs.toArray, .int .i64 k] w fun e w' => e = .returned (.tuple #[.agg (atE p k).cs.toArray, .int .i64 (atI p k), .int .i64 (skE k)]) ∧ Below w.heap.size w w' := by
  have hp := p.len
  have H1 := isSlotD_any k
  by_cases h : isD k
  · have e3 : skE k = 0 := by unfold skE; rw [if_pos h]
    rw [decide_eq_true h] at H1
    obtain ⟨j, rfl, hj⟩ := nat_of_isD h
    rw [atE_at p j hj, atI_at p j hj, e3]
    have H2 := fun w => bytesOf_at p j w hj
    have H3 := fun w => tell_any (dslot p j) w (dslot_len p j hj)
    generalize tE (dslot p j) = X at *
    generalize tI (dslot p j) = I at *
    generalize dslot p j = D at *
    clear h e3
    have t1 : True := trivial
    go_enter Try.func14, Try.ntmps14
    go_wp2_with (first
      | (refine at_box 36 54 arrL (by rfl) _ (by rfl) p.l (by rfl) hp ?_; intro g1 w1 a1 z1 r1 b1)
      | (have _t := t1; refine at_newE (by rfl) (by rfl) ?_; intro gr w2 a2 z2 r2 b2; have y2 := r1.later b2; have B2 := bnext b1 b2 (Nat.le_refl _); clear _t t1)
      | (go_at_call 32; refine (H1 _).mono ?_; rintro e u ⟨rfl, rfl⟩)
      | (refine at_getL (by rfl) _ (by rfl) g1 (by rfl) p y2 ?_)
      | (go_at_call 34; refine (H2 _).mono ?_; rintro e w3 ⟨rfl, b3⟩)
      | (go_at_call 33; refine (H3 _).mono ?_; rintro e w4 ⟨rfl, b4⟩)
      | (refine at_newE (by rfl) (by rfl) ?_; intro gx w5 a5 z5 r5 b5)
      | (refine at_putE (by rfl) _ _ (by rfl) gx (by rfl) X (by rfl) Ent.zero r5 ?_; intro w6 x6 s6
         have c5 := bnext (bnext b3 b4 (Nat.le_refl _)) b5 (Nat.le_refl _)
         have r6 : Cs w6 gr Ent.zero.cs := (r2.later c5).step s6 (by have := r2.lt; have := b3.size; have := b4.size; omega)
         have S6 : Stp (fun y => w.heap.size ≤ y) w w6 := (Stp.of_below (bnext B2 c5 (Nat.le_refl _)) _).next s6 (fun y hy => .inl (by subst hy; have := B2.size; have := b3.size; have := b4.size; omega)))
      | (refine at_getE (by rfl) _ (by rfl) gx (by rfl) X x6 ?_)
      | (refine at_putE (by rfl) _ _ (by rfl) gr (by rfl) X (by rfl) Ent.zero r6 ?_; intro w7 r7 s7))
    have S7 := S6.next s7 (fun y hy => .inl (by subst hy; have := b1.size; omega))
    exact bodyPost_ret (retCtt srtE Try.results14 rfl rfl rfl r7 rfl) rfl ⟨rfl, S7.below (Nat.le_refl _) (fun _ h => h)⟩
  · have e1 : atE p k = Ent.zero := by unfold atE; rw [if_neg h]
    have e2 : atI p k = 0 := by unfold atI; rw [if_neg h]
    have e3 : skE k = 2 := by unfold skE; rw [if_neg h]
    rw [e1, e2, e3]
    rw [decide_eq_false h] at H1
    clear h e1 e2 e3
    go_enter Try.func14, Try.ntmps14
    go_wp2_with (first
      | (refine at_box 36 54 arrL (by rfl) _ (by rfl) p.l (by rfl) hp ?_; intro g1 w1 a1 z1 r1 b1)
      | (refine at_newE (by rfl) (by rfl) ?_; intro gr w2 a2 z2 r2 b2)
      | (go_at_call 32; refine (H1 _).mono ?_; rintro e u ⟨rfl, rfl⟩)
      | (refine at_bldE0 (by rfl) (by rfl) ?_)
      | (refine at_putE (by rfl) _ _ (by rfl) gr (by rfl) Ent.zero (by rfl) Ent.zero r2 ?_; intro w6 r6 s6))
    have S6 : Stp (fun y => w.heap.size ≤ y) w w6 := (Stp.of_below (bnext b1 b2 (Nat.le_refl _)) _).next s6 (fun y hy => .inl (by subst hy; have := b1.size; omega))
    exact bodyPost_ret (retCtt srtE Try.results14 rfl rfl rfl r6 rfl) rfl ⟨rfl, S6.below (Nat.le_refl _) (fun _ h => h)⟩
set_option maxRecDepth 100000 in
set_option maxHeartbeats 1000000 in
theorem dwith_any (p : Ld) (k : Int) (x : Ent) (w : World) : Calls Try.prog 16 #[.agg p.cs.toArray, .int .i64 k, .agg x.cs.toArray] w fun e w' => e = .returned (.tuple #[.agg (wiL p k x).cs.toArray, .int .i64 (wiE k x)]) ∧ Below w.heap.size w w' := by
  have hp := p.len
  have H1 := isSlotD_any k
  have H2 := dput_any x
  have hb := dB_len x
  by_cases h : isD k
  · have e3 : wiE k x = dE x := by unfold wiE; rw [if_pos h]
    rw [decide_eq_true h] at H1
    rw [e3]
    by_cases h2 : dE x = 0
    · have e1 : wiL p k x = dputs p k.toNat (dB x) := by unfold wiL dB; rw [if_pos ⟨h, h2⟩, if_pos h2]
      rw [e1]
      obtain ⟨j, rfl, hj⟩ := nat_of_isD h
      rw [Int.toNat_natCast]
      have H3 := fun w => lay_at p j (dB x) w hj hb
      have hq := (dputs p j (dB x)).len
      rw [h2]
      rw [h2] at H2
      generalize dputs p j (dB x) = q at *
      generalize dB x = D at *
      clear h h2 e1 e3
      go_enter Try.func16, Try.ntmps16
      go_wp2_with (first
        | (refine at_box 36 54 arrL (by rfl) _ (by rfl) p.l (by rfl) hp ?_; intro g1 w1 a1 z1 r1 b1)
        | (refine at_boxE (by rfl) _ (by rfl) x (by rfl) ?_; intro gx w2 a2 z2 r2 b2)
        | (refine at_new 36 54 arrL (by rfl) (by rfl) ?_; intro gr w3 a3 z3 r3 b3; have y3 := (r1.later b2).later b3; have x3 := r2.later b3; have B3 := bnext (bnext b1 b2 (Nat.le_refl _)) b3 (Nat.le_refl _))
        | (go_at_call 32; refine (H1 _).mono ?_; rintro e u ⟨rfl, rfl⟩)
        | (refine at_getE (by rfl) _ (by rfl) gx (by rfl) x x3 ?_)
        | (go_at_call 8; refine (H2 _).mono ?_; rintro e w4 ⟨rfl, b4⟩)
        | (refine at_new 24 13 ar13 (by rfl) (by rfl) ?_; intro gb w5 a5 z5 r5 b5)
        | (refine at_put 24 13 ar13 (by rfl) _ _ (by rfl) gb (by rfl) D (by rfl) hb _ r5 (by simp) ?_; intro w6 d6 s6
           have y6 : Row w6 g1 p.l := ((y3.later b4).later b5).step s6 (by have := (y3.later b4).lt; omega)
           have r6 : Row w6 gr (List.replicate 54 0) := ((r3.later b4).later b5).step s6 (by have := (r3.later b4).lt; omega)
           have S6 : Stp (fun y => w.heap.size ≤ y) w w6 := (Stp.of_below (bnext (bnext B3 b4 (Nat.le_refl _)) b5 (Nat.le_refl _)) _).next s6 (fun y hy => .inl (by subst hy; have := B3.size; have := b4.size; omega)))
        | (refine at_getL (by rfl) _ (by rfl) g1 (by rfl) p y6 ?_)
        | (refine at_get 24 13 ar13 (by rfl) _ (by rfl) gb (by rfl) D d6 hb ?_)
        | (go_at_call 36; refine (H3 _).mono ?_; rintro e w7 ⟨rfl, b7⟩; have r7 := r6.later b7)
        | (refine at_put 36 54 arrL (by rfl) _ _ (by rfl) gr (by rfl) q.l (by rfl) hq _ r7 (by simp) ?_; intro w8 r8 s8))
      have S8 := (S6.next (Stp.of_below b7 (fun _ => False)) (fun _ h => h.elim)).next s8 (fun y hy => .inl (by subst hy; have := b1.size; have := b2.size; omega))
      exact bodyPost_ret (retAt arrL Try.results16 rfl rfl r8 hq) rfl ⟨rfl, S8.below (Nat.le_refl _) (fun _ h => h)⟩
    · have e1 : wiL p k x = Ld.zero := by unfold wiL; rw [if_neg (fun hh => h2 hh.2)]
      rw [e1]
      generalize dE x = EE at *
      generalize dB x = D at *
      clear h e1 e3
      go_enter Try.func16, Try.ntmps16
      go_wp2_with (first
        | (refine at_box 36 54 arrL (by rfl) _ (by rfl) p.l (by rfl) hp ?_; intro g1 w1 a1 z1 r1 b1)
        | (refine at_boxE (by rfl) _ (by rfl) x (by rfl) ?_; intro gx w2 a2 z2 r2 b2)
        | (refine at_new 36 54 arrL (by rfl) (by rfl) ?_; intro gr w3 a3 z3 r3 b3; have x3 := r2.later b3; have B3 := bnext (bnext b1 b2 (Nat.le_refl _)) b3 (Nat.le_refl _))
        | (go_at_call 32; refine (H1 _).mono ?_; rintro e u ⟨rfl, rfl⟩)
        | (refine at_getE (by rfl) _ (by rfl) gx (by rfl) x x3 ?_)
        | (go_at_call 8; refine (H2 _).mono ?_; rintro e w4 ⟨rfl, b4⟩)
        | (refine at_new 24 13 ar13 (by rfl) (by rfl) ?_; intro gb w5 a5 z5 r5 b5)
        | (refine at_put 24 13 ar13 (by rfl) _ _ (by rfl) gb (by rfl) D (by rfl) hb _ r5 (by simp) ?_; intro w6 d6 s6
           have r6 : Row w6 gr (List.replicate 54 0) := ((r3.later b4).later b5).step s6 (by have := (r3.later b4).lt; omega)
           have S6 : Stp (fun y => w.heap.size ≤ y) w w6 := (Stp.of_below (bnext (bnext B3 b4 (Nat.le_refl _)) b5 (Nat.le_refl _)) _).next s6 (fun y hy => .inl (by subst hy; have := B3.size; have := b4.size; omega)))
        | (refine at_bldL (by rfl) (by rfl) ?_)
        | (refine at_put 36 54 arrL (by rfl) _ _ (by rfl) gr (by rfl) Ld.zero.l (by rfl) Ld.zero.len _ r6 (by simp) ?_; intro w8 r8 s8))
      have S8 := S6.next s8 (fun y hy => .inl (by subst hy; have := b1.size; have := b2.size; omega))
      exact bodyPost_ret (retAt arrL Try.results16 rfl rfl r8 Ld.zero.len) rfl ⟨rfl, S8.below (Nat.le_refl _) (fun _ h => h)⟩
  · have e1 : wiL p k x = Ld.zero := by unfold wiL; rw [if_neg (fun hh => h hh.1)]
    have e3 : wiE k x = 2 := by unfold wiE; rw [if_neg h]
    rw [e1, e3]
    rw [decide_eq_false h] at H1
    clear h e1 e3 H2 hb
    go_enter Try.func16, Try.ntmps16
    go_wp2_with (first
      | (refine at_box 36 54 arrL (by rfl) _ (by rfl) p.l (by rfl) hp ?_; intro g1 w1 a1 z1 r1 b1)
      | (refine at_boxE (by rfl) _ (by rfl) x (by rfl) ?_; intro gx w2 a2 z2 r2 b2)
      | (refine at_new 36 54 arrL (by rfl) (by rfl) ?_; intro gr w3 a3 z3 r3 b3)
      | (go_at_call 32; refine (H1 _).mono ?_; rintro e u ⟨rfl, rfl⟩)
      | (refine at_bldL (by rfl) (by rfl) ?_)
      | (refine at_put 36 54 arrL (by rfl) _ _ (by rfl) gr (by rfl) Ld.zero.l (by rfl) Ld.zero.len _ r3 (by simp) ?_; intro w6 r6 s6))
    have S6 : Stp (fun y => w.heap.size ≤ y) w w6 := (Stp.of_below (bnext (bnext b1 b2 (Nat.le_refl _)) b3 (Nat.le_refl _)) _).next s6 (fun y hy => .inl (by subst hy; have := b1.size; have := b2.size; omega))
    exact bodyPost_ret (retAt arrL Try.results16 rfl rfl r6 Ld.zero.len) rfl ⟨rfl, S6.below (Nat.le_refl _) (fun _ h => h)⟩
set_option maxRecDepth 100000 in
theorem dwithout_any (p : Ld) (k : Int) (w : World) : Calls Try.prog 18 #[.agg p.cs.toArray, .int .i64 k] w fun e w' => e = .returned (.tuple #[.agg (woL p k).cs.toArray, .int .i64 (skE k)]) ∧ Below w.heap.size w w' := by
  have hp := p.len
  have H1 := isSlotD_any k
  have hzz : z13.length = 13 := rfl
  by_cases h : isD k
  · have e3 : skE k = 0 := by unfold skE; rw [if_pos h]
    have e1 : woL p k = dputs p k.toNat z13 := by unfold woL; rw [if_pos h]
    rw [decide_eq_true h] at H1
    rw [e3, e1]
    obtain ⟨j, rfl, hj⟩ := nat_of_isD h
    rw [Int.toNat_natCast]
    have H3 := fun w => lay_at p j z13 w hj hzz
    have hq := (dputs p j z13).len
    generalize dputs p j z13 = q at *
    clear h e1 e3
    go_enter Try.func18, Try.ntmps18
    go_wp2_with (first
      | (refine at_box 36 54 arrL (by rfl) _ (by rfl) p.l (by rfl) hp ?_; intro g1 w1 a1 z1 r1 b1)
      | (refine at_new 36 54 arrL (by rfl) (by rfl) ?_; intro gr w3 a3 z3 r3 b3; have y3 := r1.later b3)
      | (go_at_call 32; refine (H1 _).mono ?_; rintro e u ⟨rfl, rfl⟩)
      | (refine at_getL (by rfl) _ (by rfl) g1 (by rfl) p y3 ?_)
      | (refine at_bld13 (by rfl) (by rfl) ?_)
      | (go_at_call 36; refine (H3 _).mono ?_; rintro e w7 ⟨rfl, b7⟩; have r7 := r3.later b7)
      | (refine at_put 36 54 arrL (by rfl) _ _ (by rfl) gr (by rfl) q.l (by rfl) hq _ r7 (by simp) ?_; intro w8 r8 s8))
    have S8 : Stp (fun y => w.heap.size ≤ y) w w8 := (Stp.of_below (bnext (bnext b1 b3 (Nat.le_refl _)) b7 (Nat.le_refl _)) _).next s8 (fun y hy => .inl (by subst hy; have := b1.size; omega))
    exact bodyPost_ret (retAt arrL Try.results18 rfl rfl r8 hq) rfl ⟨rfl, S8.below (Nat.le_refl _) (fun _ h => h)⟩
  · have e3 : skE k = 2 := by unfold skE; rw [if_neg h]
    have e1 : woL p k = Ld.zero := by unfold woL; rw [if_neg h]
    rw [e1, e3]
    rw [decide_eq_false h] at H1
    clear h e1 e3
    go_enter Try.func18, Try.ntmps18
    go_wp2_with (first
      | (refine at_box 36 54 arrL (by rfl) _ (by rfl) p.l (by rfl) hp ?_; intro g1 w1 a1 z1 r1 b1)
      | (refine at_new 36 54 arrL (by rfl) (by rfl) ?_; intro gr w3 a3 z3 r3 b3)
      | (go_at_call 32; refine (H1 _).mono ?_; rintro e u ⟨rfl, rfl⟩)
      | (refine at_bldL (by rfl) (by rfl) ?_)
      | (refine at_put 36 54 arrL (by rfl) _ _ (by rfl) gr (by rfl) Ld.zero.l (by rfl) Ld.zero.len _ r3 (by simp) ?_; intro w6 r6 s6))
    have S6 : Stp (fun y => w.heap.size ≤ y) w w6 := (Stp.of_below (bnext b1 b3 (Nat.le_refl _)) _).next s6 (fun y hy => .inl (by subst hy; have := b1.size; omega))
    exact bodyPost_ret (retAt arrL Try.results18 rfl rfl r6 Ld.zero.len) rfl ⟨rfl, S6.below (Nat.le_refl _) (fun _ h => h)⟩
end Go.Proofs.Ytbmfoefapbakmaa
