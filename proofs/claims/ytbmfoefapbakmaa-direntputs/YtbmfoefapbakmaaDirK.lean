/-
  What the document's All, and Find and Room of layer 12 and the document's, return, for every load and name: no statement is proved here.
-/
import Derived.Test.YtbmfoefapbakmaaDirJ
namespace Go.Proofs.Ytbmfoefapbakmaa
open Go.ChangeShapes Go.WideShapes Go.ChangeAt Go.RowKit
set_option linter.unusedVariables false

set_option maxRecDepth 100000 in
set_option maxHeartbeats 1000000 in
theorem rall_any (p : Ld) (w : World) : Calls Try.prog 22 #[.agg p.cs.toArray] w fun e w' => ∃ v, e = .returned v ∧ EsV w' v (alls p 4) ∧ Below w.heap.size w w' := by
  have hp := p.len
  go_enter Try.func22, Try.ntmps22
  go_wp2_with (first
    | (refine at_box 36 54 arrL (by rfl) _ (by rfl) p.l (by rfl) hp ?_; intro g1 W a1 z1 r1 b1)
    | (refine at_bs0E (B := W.heap.size) (by rfl) (by rfl) (Nat.le_refl _) ?_; intro g0 w0 o0 b0))
  go_loopw [3, 4] (fun sv iv wr => ∃ k : Nat, k ≤ 4 ∧ iv = .int .i64 k ∧ OwE W.heap.size wr sv (alls p k) ∧ Below W.heap.size W wr) (fun _ iv _ => 4 - (intOf iv).toNat)
  case atStart => exact ⟨0, by omega, rfl, o0, b0⟩
  case round =>
    rename_i sv iv
    obtain ⟨k, hk, rfl, hO, hB⟩ := hrel
    clear o0 b0
    by_cases hlt : k < 4
    · have hlt' : (k : Int) < 4 := by omega
      have y2 := r1.later hB
      have hS := alls_succ p k
      have hle := alls_le p k
      have H3 := fun w => rdat_at p k w (by omega)
      generalize tE (dslot p k) = X at *
      generalize tI (dslot p k) = I at *
      have hS' : Hid (alls p (k + 1) = alls p k ++ (if I = 1 then [X] else [])) := hS
      clear hS
      by_cases h1 : I = 1
      · have e1 : Hid (alls p (k + 1) = alls p k ++ [X]) := by have := hS'.out; rwa [if_pos h1] at this
        subst h1
        clear hS'
        go_wp2_with (first
          | (refine at_getL (by rfl) _ (by rfl) g1 (by rfl) p y2 ?_)
          | (go_at_call 15; refine (H3 _).mono ?_; rintro e w4 ⟨rfl, b4⟩)
          | (refine at_newE (by rfl) (by rfl) ?_; intro gx w5 a5 z5 r5 b5)
          | (refine at_putE (by rfl) _ _ (by rfl) gx (by rfl) X (by rfl) Ent.zero r5 ?_; intro w6 x6 s6
             have S6 : Stp (fun y => wr.heap.size ≤ y) wr w6 := (Stp.of_below (bnext b4 b5 (Nat.le_refl _)) _).next s6 (fun y hy => .inl (by subst hy; have := b4.size; omega))
             have c6 := S6.below (Nat.le_refl _) (fun _ h => h)
             have o6 := hO.later c6
             have B6 := bnext hB c6 (Nat.le_refl _)
             clear S6 b4 b5 r5 a5 z5 s6 hO hB y2)
          | (refine at_getE (by rfl) _ (by rfl) gx (by rfl) X x6 ?_)
          | (refine at_bsE (by rfl) _ (by rfl) X (by rfl) ?_; intro g7 w7 a7 r7 b7; have o7 := o6.later b7; have B7 := bnext B6 b7 (Nat.le_refl _))
          | (refine at_appE rfl _ _ (by rfl) (by rfl) o7 g7 X (by rfl) r7 (by omega) B7.size ?_; intro v8 w8 o8 s8))
        rw [← e1.out] at o8
        go_roundw
        case rel => exact ⟨k + 1, by omega, by go_num, o8, ((Stp.of_below B7 (fun x => W.heap.size ≤ x)).next s8 (fun _ h => .inl h)).below (Nat.le_refl _) (fun _ h => h)⟩
        case measure => simp [intOf]; omega
      · have e1 : Hid (alls p (k + 1) = alls p k) := by have := hS'.out; rwa [if_neg h1, List.append_nil] at this
        clear hS'
        go_wp2_with (first
          | (refine at_getL (by rfl) _ (by rfl) g1 (by rfl) p y2 ?_)
          | (go_at_call 15; refine (H3 _).mono ?_; rintro e w4 ⟨rfl, b4⟩)
          | (refine at_newE (by rfl) (by rfl) ?_; intro gx w5 a5 z5 r5 b5)
          | (refine at_putE (by rfl) _ _ (by rfl) gx (by rfl) X (by rfl) Ent.zero r5 ?_; intro w6 x6 s6
             have S6 : Stp (fun y => wr.heap.size ≤ y) wr w6 := (Stp.of_below (bnext b4 b5 (Nat.le_refl _)) _).next s6 (fun y hy => .inl (by subst hy; have := b4.size; omega))
             have c6 := S6.below (Nat.le_refl _) (fun _ h => h)
             have o6 := hO.later c6
             have B6 := bnext hB c6 (Nat.le_refl _)
             clear S6 b4 b5 r5 a5 z5 s6 hO hB y2))
        rw [← e1.out] at o6
        go_roundw
        case rel => exact ⟨k + 1, by omega, by go_num, o6, B6⟩
        case measure => simp [intOf]; omega
    · obtain rfl : k = 4 := by omega
      go_wp2
      go_returns
      exact ⟨_, rfl, hO.read, bnext b1 hB (Nat.le_refl _)⟩
theorem fdK_step (p : Ld) (s : List UInt8) (m k : Nat) : fdK p s (m + 1) k = if hit p s k then (k : Int) else fdK p s m (k + 1) := rfl
theorem rmK_step (p : Ld) (m k : Nat) : rmK p (m + 1) k = if tI (dslot p k) = 0 then (k : Int) else rmK p m (k + 1) := rfl
set_option maxRecDepth 100000 in
set_option maxHeartbeats 2000000 in
theorem dfind_any (p : Ld) (s : List UInt8) (w : World) : Calls Try.prog 23 #[.agg p.cs.toArray, .string (str s)] w fun e w' => e = .returned (.int .i64 (fnd p s)) ∧ Below w.heap.size w w' := by
  have hp := p.len
  have ht := str_list s
  obtain ⟨A, hA0⟩ : ∃ A, Hid (fnd p s = A) := ⟨_, rfl⟩
  rw [hA0.out]
  go_enter Try.func23, Try.ntmps23
  go_wp2_with (first
    | (refine at_box 36 54 arrL (by rfl) _ (by rfl) p.l (by rfl) hp ?_; intro g1 W a1 z1 r1 b1))
  go_loopw [8] (fun iv wr => ∃ k : Nat, k ≤ 4 ∧ iv = .int .i64 k ∧ A = fdK p s (4 - k) (k) ∧ Below W.heap.size W wr) (fun iv _ => 4 - (intOf iv).toNat)
  case atStart => exact ⟨0, by omega, rfl, hA0.out.symm, Below.refl _ _⟩
  case round =>
    obtain ⟨k, hk, rfl, hA1, hB⟩ := hrel
    have hA : Hid (A = fdK p s (4 - k) (k)) := hA1
    clear hA1 hA0
    by_cases hlt : k < 4
    · have hlt' : (k : Int) < 4 := by omega
      have hk3 : Hid (4 - k = 3 - k + 1) := by show _ = _; omega
      have hk3 := hk3.out
      have y2 := r1.later hB
      have hS0 := fdK_step p s (3 - k) k
      have H2 := fun w => bytesOf_at p k w (by omega)
      have H3 := fun w => tell_any (dslot p k) w (dslot_len p k (by omega))
      unfold hit at hS0
      generalize tE (dslot p k) = X at *
      generalize tI (dslot p k) = I at *
      generalize dslot p k = D at *
      have hS : Hid (fdK p s (3 - k + 1) (k) = if I = 1 ∧ X.s = s then (k : Int) else fdK p s (3 - k) (k + 1)) := hS0
      clear hS0
      have hx := str_list X.s
      by_cases h1 : I = 1
      · subst h1
        by_cases h2 : X.s = s
        · have e1 : Hid (fdK p s (3 - k + 1) (k) = k) := by have := hS.out; rwa [if_pos ⟨rfl, h2⟩] at this
          have hne : (X.s == s) = true := by rw [h2]; exact beq13 _
          clear hS
          go_wp2_with (first
            | (refine at_getL (by rfl) _ (by rfl) g1 (by rfl) p y2 ?_)
            | (go_at_call 34; refine (H2 _).mono ?_; rintro e w3 ⟨rfl, b3⟩)
            | (go_at_call 33; refine (H3 _).mono ?_; rintro e w4 ⟨rfl, b4⟩; have c4 := bnext b3 b4 (Nat.le_refl _))
            | (refine at_newE (by rfl) (by rfl) ?_; intro gx w5 a5 z5 r5 b5)
            | (refine at_putE (by rfl) _ _ (by rfl) gx (by rfl) X (by rfl) Ent.zero r5 ?_; intro w6 x6 s6
               have S6 : Stp (fun y => wr.heap.size ≤ y) wr w6 := (Stp.of_below (bnext c4 b5 (Nat.le_refl _)) _).next s6 (fun y hy => .inl (by subst hy; have := c4.size; omega))
               have c6 := S6.below (Nat.le_refl _) (fun _ h => h)
               have B6 := bnext hB c6 (Nat.le_refl _)
               obtain ⟨_, q6⟩ := x6.ent))
          go_returns
          refine ⟨?_, bnext b1 B6 (Nat.le_refl _)⟩
          rw [hA.out, hk3, e1.out]; rfl
        · have e1 : Hid (fdK p s (3 - k + 1) (k) = fdK p s (3 - k) (k + 1)) := by have := hS.out; rwa [if_neg (fun h => h2 h.2)] at this
          have hne : (X.s == s) = false := beq_no h2
          clear hS
          go_wp2_with (first
            | (refine at_getL (by rfl) _ (by rfl) g1 (by rfl) p y2 ?_)
            | (go_at_call 34; refine (H2 _).mono ?_; rintro e w3 ⟨rfl, b3⟩)
            | (go_at_call 33; refine (H3 _).mono ?_; rintro e w4 ⟨rfl, b4⟩; have c4 := bnext b3 b4 (Nat.le_refl _))
            | (refine at_newE (by rfl) (by rfl) ?_; intro gx w5 a5 z5 r5 b5)
            | (refine at_putE (by rfl) _ _ (by rfl) gx (by rfl) X (by rfl) Ent.zero r5 ?_; intro w6 x6 s6
               have S6 : Stp (fun y => wr.heap.size ≤ y) wr w6 := (Stp.of_below (bnext c4 b5 (Nat.le_refl _)) _).next s6 (fun y hy => .inl (by subst hy; have := c4.size; omega))
               have c6 := S6.below (Nat.le_refl _) (fun _ h => h)
               have B6 := bnext hB c6 (Nat.le_refl _)
               obtain ⟨_, q6⟩ := x6.ent))
          go_roundw
          case rel => exact ⟨k + 1, by omega, by go_num, by rw [hA.out, hk3, e1.out, show 4 - (k + 1) = 3 - k by omega], B6⟩
          case measure => simp [intOf]; omega
      · have e1 : Hid (fdK p s (3 - k + 1) (k) = fdK p s (3 - k) (k + 1)) := by have := hS.out; rwa [if_neg (fun h => h1 h.1)] at this
        clear hS
        go_wp2_with (first
          | (refine at_getL (by rfl) _ (by rfl) g1 (by rfl) p y2 ?_)
          | (go_at_call 34; refine (H2 _).mono ?_; rintro e w3 ⟨rfl, b3⟩)
          | (go_at_call 33; refine (H3 _).mono ?_; rintro e w4 ⟨rfl, b4⟩; have c4 := bnext b3 b4 (Nat.le_refl _))
          | (refine at_newE (by rfl) (by rfl) ?_; intro gx w5 a5 z5 r5 b5)
          | (refine at_putE (by rfl) _ _ (by rfl) gx (by rfl) X (by rfl) Ent.zero r5 ?_; intro w6 x6 s6
             have S6 : Stp (fun y => wr.heap.size ≤ y) wr w6 := (Stp.of_below (bnext c4 b5 (Nat.le_refl _)) _).next s6 (fun y hy => .inl (by subst hy; have := c4.size; omega))
             have c6 := S6.below (Nat.le_refl _) (fun _ h => h)
             have B6 := bnext hB c6 (Nat.le_refl _)
             obtain ⟨_, q6⟩ := x6.ent))
        go_roundw
        case rel => exact ⟨k + 1, by omega, by go_num, by rw [hA.out, hk3, e1.out, show 4 - (k + 1) = 3 - k by omega], B6⟩
        case measure => simp [intOf]; omega
    · obtain rfl : k = 4 := by omega
      go_wp2
      go_returns
      exact ⟨by rw [hA.out]; rfl, bnext b1 hB (Nat.le_refl _)⟩
set_option maxRecDepth 100000 in
set_option maxHeartbeats 2000000 in
theorem rfind_any (p : Ld) (s : List UInt8) (w : World) : Calls Try.prog 24 #[.agg p.cs.toArray, .string (str s)] w fun e w' => e = .returned (.int .i64 (fnd p s)) ∧ Below w.heap.size w w' := by
  have hp := p.len
  have ht := str_list s
  obtain ⟨A, hA0⟩ : ∃ A, Hid (fnd p s = A) := ⟨_, rfl⟩
  rw [hA0.out]
  go_enter Try.func24, Try.ntmps24
  go_wp2_with (first
    | (refine at_box 36 54 arrL (by rfl) _ (by rfl) p.l (by rfl) hp ?_; intro g1 W a1 z1 r1 b1))
  go_loopw [5] (fun iv wr => ∃ k : Nat, k ≤ 4 ∧ iv = .int .i64 k ∧ A = fdK p s (4 - k) (k) ∧ Below W.heap.size W wr) (fun iv _ => 4 - (intOf iv).toNat)
  case atStart => exact ⟨0, by omega, rfl, hA0.out.symm, Below.refl _ _⟩
  case round =>
    obtain ⟨k, hk, rfl, hA1, hB⟩ := hrel
    have hA : Hid (A = fdK p s (4 - k) (k)) := hA1
    clear hA1 hA0
    by_cases hlt : k < 4
    · have hlt' : (k : Int) < 4 := by omega
      have hk3 : Hid (4 - k = 3 - k + 1) := by show _ = _; omega
      have hk3 := hk3.out
      have y2 := r1.later hB
      have hS0 := fdK_step p s (3 - k) k
      have H3 := fun w => rdat_at p k w (by omega)
      unfold hit at hS0
      generalize tE (dslot p k) = X at *
      generalize tI (dslot p k) = I at *
      have hS : Hid (fdK p s (3 - k + 1) (k) = if I = 1 ∧ X.s = s then (k : Int) else fdK p s (3 - k) (k + 1)) := hS0
      clear hS0
      have hx := str_list X.s
      by_cases h1 : I = 1
      · subst h1
        by_cases h2 : X.s = s
        · have e1 : Hid (fdK p s (3 - k + 1) (k) = k) := by have := hS.out; rwa [if_pos ⟨rfl, h2⟩] at this
          have hne : (X.s == s) = true := by rw [h2]; exact beq13 _
          clear hS
          go_wp2_with (first
            | (refine at_getL (by rfl) _ (by rfl) g1 (by rfl) p y2 ?_)
            | (go_at_call 15; refine (H3 _).mono ?_; rintro e w4 ⟨rfl, b4⟩; have c4 := b4)
            | (refine at_newE (by rfl) (by rfl) ?_; intro gx w5 a5 z5 r5 b5)
            | (refine at_putE (by rfl) _ _ (by rfl) gx (by rfl) X (by rfl) Ent.zero r5 ?_; intro w6 x6 s6
               have S6 : Stp (fun y => wr.heap.size ≤ y) wr w6 := (Stp.of_below (bnext c4 b5 (Nat.le_refl _)) _).next s6 (fun y hy => .inl (by subst hy; have := c4.size; omega))
               have c6 := S6.below (Nat.le_refl _) (fun _ h => h)
               have B6 := bnext hB c6 (Nat.le_refl _)
               obtain ⟨_, q6⟩ := x6.ent))
          go_returns
          refine ⟨?_, bnext b1 B6 (Nat.le_refl _)⟩
          rw [hA.out, hk3, e1.out]; rfl
        · have e1 : Hid (fdK p s (3 - k + 1) (k) = fdK p s (3 - k) (k + 1)) := by have := hS.out; rwa [if_neg (fun h => h2 h.2)] at this
          have hne : (X.s == s) = false := beq_no h2
          clear hS
          go_wp2_with (first
            | (refine at_getL (by rfl) _ (by rfl) g1 (by rfl) p y2 ?_)
            | (go_at_call 15; refine (H3 _).mono ?_; rintro e w4 ⟨rfl, b4⟩; have c4 := b4)
            | (refine at_newE (by rfl) (by rfl) ?_; intro gx w5 a5 z5 r5 b5)
            | (refine at_putE (by rfl) _ _ (by rfl) gx (by rfl) X (by rfl) Ent.zero r5 ?_; intro w6 x6 s6
               have S6 : Stp (fun y => wr.heap.size ≤ y) wr w6 := (Stp.of_below (bnext c4 b5 (Nat.le_refl _)) _).next s6 (fun y hy => .inl (by subst hy; have := c4.size; omega))
               have c6 := S6.below (Nat.le_refl _) (fun _ h => h)
               have B6 := bnext hB c6 (Nat.le_refl _)
               obtain ⟨_, q6⟩ := x6.ent))
          go_roundw
          case rel => exact ⟨k + 1, by omega, by go_num, by rw [hA.out, hk3, e1.out, show 4 - (k + 1) = 3 - k by omega], B6⟩
          case measure => simp [intOf]; omega
      · have e1 : Hid (fdK p s (3 - k + 1) (k) = fdK p s (3 - k) (k + 1)) := by have := hS.out; rwa [if_neg (fun h => h1 h.1)] at this
        clear hS
        go_wp2_with (first
          | (refine at_getL (by rfl) _ (by rfl) g1 (by rfl) p y2 ?_)
          | (go_at_call 15; refine (H3 _).mono ?_; rintro e w4 ⟨rfl, b4⟩; have c4 := b4)
          | (refine at_newE (by rfl) (by rfl) ?_; intro gx w5 a5 z5 r5 b5)
          | (refine at_putE (by rfl) _ _ (by rfl) gx (by rfl) X (by rfl) Ent.zero r5 ?_; intro w6 x6 s6
             have S6 : Stp (fun y => wr.heap.size ≤ y) wr w6 := (Stp.of_below (bnext c4 b5 (Nat.le_refl _)) _).next s6 (fun y hy => .inl (by subst hy; have := c4.size; omega))
             have c6 := S6.below (Nat.le_refl _) (fun _ h => h)
             have B6 := bnext hB c6 (Nat.le_refl _)
             obtain ⟨_, q6⟩ := x6.ent))
        go_roundw
        case rel => exact ⟨k + 1, by omega, by go_num, by rw [hA.out, hk3, e1.out, show 4 - (k + 1) = 3 - k by omega], B6⟩
        case measure => simp [intOf]; omega
    · obtain rfl : k = 4 := by omega
      go_wp2
      go_returns
      exact ⟨by rw [hA.out]; rfl, bnext b1 hB (Nat.le_refl _)⟩
set_option maxRecDepth 100000 in
set_option maxHeartbeats 2000000 in
theorem droom_any (p : Ld) (w : World) : Calls Try.prog 25 #[.agg p.cs.toArray] w fun e w' => e = .returned (.int .i64 (rm p)) ∧ Below w.heap.size w w' := by
  have hp := p.len
  obtain ⟨A, hA0⟩ : ∃ A, Hid (rm p = A) := ⟨_, rfl⟩
  rw [hA0.out]
  go_enter Try.func25, Try.ntmps25
  go_wp2_with (first
    | (refine at_box 36 54 arrL (by rfl) _ (by rfl) p.l (by rfl) hp ?_; intro g1 W a1 z1 r1 b1))
  go_loopw [6] (fun iv wr => ∃ k : Nat, k ≤ 4 ∧ iv = .int .i64 k ∧ A = rmK p (4 - k) (k) ∧ Below W.heap.size W wr) (fun iv _ => 4 - (intOf iv).toNat)
  case atStart => exact ⟨0, by omega, rfl, hA0.out.symm, Below.refl _ _⟩
  case round =>
    obtain ⟨k, hk, rfl, hA1, hB⟩ := hrel
    have hA : Hid (A = rmK p (4 - k) (k)) := hA1
    clear hA1 hA0
    by_cases hlt : k < 4
    · have hlt' : (k : Int) < 4 := by omega
      have hk3 : Hid (4 - k = 3 - k + 1) := by show _ = _; omega
      have hk3 := hk3.out
      have y2 := r1.later hB
      have hS0 := rmK_step p (3 - k) k
      have H2 := fun w => bytesOf_at p k w (by omega)
      have H3 := fun w => tell_any (dslot p k) w (dslot_len p k (by omega))
      generalize tE (dslot p k) = X at *
      generalize tI (dslot p k) = I at *
      generalize dslot p k = D at *
      have hS : Hid (rmK p (3 - k + 1) (k) = if I = 0 then (k : Int) else rmK p (3 - k) (k + 1)) := hS0
      clear hS0
      by_cases h1 : I = 0
      · have e1 : Hid (rmK p (3 - k + 1) (k) = k) := by have := hS.out; rwa [if_pos h1] at this
        subst h1
        clear hS
        go_wp2_with (first
          | (refine at_getL (by rfl) _ (by rfl) g1 (by rfl) p y2 ?_)
          | (go_at_call 34; refine (H2 _).mono ?_; rintro e w3 ⟨rfl, b3⟩)
          | (go_at_call 33; refine (H3 _).mono ?_; rintro e w4 ⟨rfl, b4⟩; have c4 := bnext b3 b4 (Nat.le_refl _))
          | (refine at_newE (by rfl) (by rfl) ?_; intro gx w5 a5 z5 r5 b5)
          | (refine at_putE (by rfl) _ _ (by rfl) gx (by rfl) X (by rfl) Ent.zero r5 ?_; intro w6 x6 s6
             have S6 : Stp (fun y => wr.heap.size ≤ y) wr w6 := (Stp.of_below (bnext c4 b5 (Nat.le_refl _)) _).next s6 (fun y hy => .inl (by subst hy; have := c4.size; omega))
             have c6 := S6.below (Nat.le_refl _) (fun _ h => h)
             have B6 := bnext hB c6 (Nat.le_refl _)
             obtain ⟨_, q6⟩ := x6.ent))
        go_returns
        refine ⟨?_, bnext b1 B6 (Nat.le_refl _)⟩
        rw [hA.out, hk3, e1.out]; rfl
      · have e1 : Hid (rmK p (3 - k + 1) (k) = rmK p (3 - k) (k + 1)) := by have := hS.out; rwa [if_neg h1] at this
        clear hS
        go_wp2_with (first
          | (refine at_getL (by rfl) _ (by rfl) g1 (by rfl) p y2 ?_)
          | (go_at_call 34; refine (H2 _).mono ?_; rintro e w3 ⟨rfl, b3⟩)
          | (go_at_call 33; refine (H3 _).mono ?_; rintro e w4 ⟨rfl, b4⟩; have c4 := bnext b3 b4 (Nat.le_refl _))
          | (refine at_newE (by rfl) (by rfl) ?_; intro gx w5 a5 z5 r5 b5)
          | (refine at_putE (by rfl) _ _ (by rfl) gx (by rfl) X (by rfl) Ent.zero r5 ?_; intro w6 x6 s6
             have S6 : Stp (fun y => wr.heap.size ≤ y) wr w6 := (Stp.of_below (bnext c4 b5 (Nat.le_refl _)) _).next s6 (fun y hy => .inl (by subst hy; have := c4.size; omega))
             have c6 := S6.below (Nat.le_refl _) (fun _ h => h)
             have B6 := bnext hB c6 (Nat.le_refl _)
             obtain ⟨_, q6⟩ := x6.ent))
        go_roundw
        case rel => exact ⟨k + 1, by omega, by go_num, by rw [hA.out, hk3, e1.out, show 4 - (k + 1) = 3 - k by omega], B6⟩
        case measure => simp [intOf]; omega
    · obtain rfl : k = 4 := by omega
      go_wp2
      go_returns
      exact ⟨by rw [hA.out]; rfl, bnext b1 hB (Nat.le_refl _)⟩
set_option maxRecDepth 100000 in
set_option maxHeartbeats 2000000 in
theorem rroom_any (p : Ld) (w : World) : Calls Try.prog 26 #[.agg p.cs.toArray] w fun e w' => e = .returned (.int .i64 (rm p)) ∧ Below w.heap.size w w' := by
  have hp := p.len
  obtain ⟨A, hA0⟩ : ∃ A, Hid (rm p = A) := ⟨_, rfl⟩
  rw [hA0.out]
  go_enter Try.func26, Try.ntmps26
  go_wp2_with (first
    | (refine at_box 36 54 arrL (by rfl) _ (by rfl) p.l (by rfl) hp ?_; intro g1 W a1 z1 r1 b1))
  go_loopw [3] (fun iv wr => ∃ k : Nat, k ≤ 4 ∧ iv = .int .i64 k ∧ A = rmK p (4 - k) (k) ∧ Below W.heap.size W wr) (fun iv _ => 4 - (intOf iv).toNat)
  case atStart => exact ⟨0, by omega, rfl, hA0.out.symm, Below.refl _ _⟩
  case round =>
    obtain ⟨k, hk, rfl, hA1, hB⟩ := hrel
    have hA : Hid (A = rmK p (4 - k) (k)) := hA1
    clear hA1 hA0
    by_cases hlt : k < 4
    · have hlt' : (k : Int) < 4 := by omega
      have hk3 : Hid (4 - k = 3 - k + 1) := by show _ = _; omega
      have hk3 := hk3.out
      have y2 := r1.later hB
      have hS0 := rmK_step p (3 - k) k
      have H3 := fun w => rdat_at p k w (by omega)
      generalize tE (dslot p k) = X at *
      generalize tI (dslot p k) = I at *
      have hS : Hid (rmK p (3 - k + 1) (k) = if I = 0 then (k : Int) else rmK p (3 - k) (k + 1)) := hS0
      clear hS0
      by_cases h1 : I = 0
      · have e1 : Hid (rmK p (3 - k + 1) (k) = k) := by have := hS.out; rwa [if_pos h1] at this
        subst h1
        clear hS
        go_wp2_with (first
          | (refine at_getL (by rfl) _ (by rfl) g1 (by rfl) p y2 ?_)
          | (go_at_call 15; refine (H3 _).mono ?_; rintro e w4 ⟨rfl, b4⟩; have c4 := b4)
          | (refine at_newE (by rfl) (by rfl) ?_; intro gx w5 a5 z5 r5 b5)
          | (refine at_putE (by rfl) _ _ (by rfl) gx (by rfl) X (by rfl) Ent.zero r5 ?_; intro w6 x6 s6
             have S6 : Stp (fun y => wr.heap.size ≤ y) wr w6 := (Stp.of_below (bnext c4 b5 (Nat.le_refl _)) _).next s6 (fun y hy => .inl (by subst hy; have := c4.size; omega))
             have c6 := S6.below (Nat.le_refl _) (fun _ h => h)
             have B6 := bnext hB c6 (Nat.le_refl _)
             obtain ⟨_, q6⟩ := x6.ent))
        go_returns
        refine ⟨?_, bnext b1 B6 (Nat.le_refl _)⟩
        rw [hA.out, hk3, e1.out]; rfl
      · have e1 : Hid (rmK p (3 - k + 1) (k) = rmK p (3 - k) (k + 1)) := by have := hS.out; rwa [if_neg h1] at this
        clear hS
        go_wp2_with (first
          | (refine at_getL (by rfl) _ (by rfl) g1 (by rfl) p y2 ?_)
          | (go_at_call 15; refine (H3 _).mono ?_; rintro e w4 ⟨rfl, b4⟩; have c4 := b4)
          | (refine at_newE (by rfl) (by rfl) ?_; intro gx w5 a5 z5 r5 b5)
          | (refine at_putE (by rfl) _ _ (by rfl) gx (by rfl) X (by rfl) Ent.zero r5 ?_; intro w6 x6 s6
             have S6 : Stp (fun y => wr.heap.size ≤ y) wr w6 := (Stp.of_below (bnext c4 b5 (Nat.le_refl _)) _).next s6 (fun y hy => .inl (by subst hy; have := c4.size; omega))
             have c6 := S6.below (Nat.le_refl _) (fun _ h => h)
             have B6 := bnext hB c6 (Nat.le_refl _)
             obtain ⟨_, q6⟩ := x6.ent))
        go_roundw
        case rel => exact ⟨k + 1, by omega, by go_num, by rw [hA.out, hk3, e1.out, show 4 - (k + 1) = 3 - k by omega], B6⟩
        case measure => simp [intOf]; omega
    · obtain rfl : k = 4 := by omega
      go_wp2
      go_returns
      exact ⟨by rw [hA.out]; rfl, bnext b1 hB (Nat.le_refl _)⟩
end Go.Proofs.Ytbmfoefapbakmaa
