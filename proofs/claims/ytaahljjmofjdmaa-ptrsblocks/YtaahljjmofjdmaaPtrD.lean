/-
  What Block of layer 11, and the document's, return, for every way: no statement is proved here.
-/
import Derived.Test.YtaahljjmofjdmaaPtrC
namespace Go.Proofs.Ytaahljjmofjdmaa
open Go.ChangeShapes Go.WideShapes Go.ChangeAt Go.RowKit
set_option linter.unusedVariables false

theorem eqW (x y : Wy) (w : World) : (Op.equalIn 10000 36 (.agg x.cs.toArray) (.agg y.cs.toArray)).run Try.prog w = .ok (x.same y) w := by
  obtain ⟨a, b, c⟩ := x
  obtain ⟨a', b', c'⟩ := y
  have f0 : Try.prog.underlying 36 = _ := Try.underlying36
  have f1 : Try.prog.underlying 3 = _ := Try.underlying3
  have sz : ∀ w, (sizeOf 3).run Try.prog w = .ok 1 w := fun w => by kernel_rfl
  rw [run_equalIn_struct (P := Try.prog) w 9999 36 _ _ (by kernel_rfl) (by kernel_rfl)]
  simp [Program.fieldsOf, f0, f1, Op.eqFields, part, Wy.cs, go_sem, sz, Wy.same]
  by_cases h1 : a = a' <;> by_cases h2 : b = b' <;> by_cases h3 : c = c' <;> simp [h1, h2, h3]
theorem eqV (x y : Wy) (w : World) : (Op.equalIn 10000 39 (.agg x.cs.toArray) (.agg y.cs.toArray)).run Try.prog w = .ok (x.same y) w := by
  obtain ⟨a, b, c⟩ := x
  obtain ⟨a', b', c'⟩ := y
  have f0 : Try.prog.underlying 39 = _ := Try.underlying39
  have f1 : Try.prog.underlying 3 = _ := Try.underlying3
  have sz : ∀ w, (sizeOf 3).run Try.prog w = .ok 1 w := fun w => by kernel_rfl
  rw [run_equalIn_struct (P := Try.prog) w 9999 39 _ _ (by kernel_rfl) (by kernel_rfl)]
  simp [Program.fieldsOf, f0, f1, Op.eqFields, part, Wy.cs, go_sem, sz, Wy.same]
  by_cases h1 : a = a' <;> by_cases h2 : b = b' <;> by_cases h3 : c = c' <;> simp [h1, h2, h3]
theorem guardW : Try.prog.eqGuardType Try.prog.depth 36 = false := by kernel_rfl
theorem guardV : Try.prog.eqGuardType Try.prog.depth 39 = false := by kernel_rfl
theorem aim_any (x : Wy) (w : World) : Calls Try.prog 28 #[.agg x.cs.toArray] w fun e w' => e = .returned (.int .i64 (aimK x)) ∧ Below w.heap.size w w' := by
  unfold aimK
  by_cases h0 : x.l = 0
  · rw [if_pos h0]
    go_enter Try.func28, Try.ntmps28
    go_wp2_with (first
      | (refine at_boxC 36 (by rfl) _ (by rfl) x.cs (by rfl) x.cs_one ?_; intro g1 w1 a1 z1 r1 b1; have q0 := r1.cell 0 _ rfl; have q1 := r1.cell 1 _ rfl; have q2 := r1.cell 2 _ rfl))
    go_returns
    exact ⟨rfl, b1⟩
  · rw [if_neg h0]
    by_cases h1 : x.l = 1
    · rw [if_pos h1]
      clear h0
      go_enter Try.func28, Try.ntmps28
      go_wp2_with (first
        | (refine at_boxC 36 (by rfl) _ (by rfl) x.cs (by rfl) x.cs_one ?_; intro g1 w1 a1 z1 r1 b1; have q0 := r1.cell 0 _ rfl; have q1 := r1.cell 1 _ rfl; have q2 := r1.cell 2 _ rfl))
      go_returns
      exact ⟨rfl, b1⟩
    · rw [if_neg h1]
      by_cases h2 : x.l = 2
      · rw [if_pos h2]
        clear h0 h1
        go_enter Try.func28, Try.ntmps28
        go_wp2_with (first
          | (refine at_boxC 36 (by rfl) _ (by rfl) x.cs (by rfl) x.cs_one ?_; intro g1 w1 a1 z1 r1 b1; have q0 := r1.cell 0 _ rfl; have q1 := r1.cell 1 _ rfl; have q2 := r1.cell 2 _ rfl))
        go_returns
        exact ⟨rfl, b1⟩
      · rw [if_neg h2]
        go_enter Try.func28, Try.ntmps28
        go_wp2_with (first
          | (refine at_boxC 36 (by rfl) _ (by rfl) x.cs (by rfl) x.cs_one ?_; intro g1 w1 a1 z1 r1 b1; have q0 := r1.cell 0 _ rfl; have q1 := r1.cell 1 _ rfl; have q2 := r1.cell 2 _ rfl))
        go_returns
        exact ⟨rfl, b1⟩
set_option maxRecDepth 100000 in
theorem block_way (x Y : Wy) (K E : Int) (b : Bool) (w : World) (hA : ∀ w, Calls Try.prog 28 #[.agg x.cs.toArray] w fun e w' => e = .returned (.int .i64 K) ∧ Below w.heap.size w w')
    (hT : ∀ w, Calls Try.prog 15 #[.int .i64 K] w fun e w' => e = .returned (.tuple #[.agg Y.cs.toArray, .int .i64 E]) ∧ Below w.heap.size w w') (hb : Y.same x = b) (R F : Int) (hR : (E = 31 ∧ R = 0 ∧ F = 2) ∨ (E = 0 ∧ b = false ∧ R = 0 ∧ F = 2) ∨ (E = 0 ∧ b = true ∧ R = K ∧ F = 0)) :
    Calls Try.prog 17 #[.agg x.cs.toArray] w fun e w' => e = .returned (.tuple #[.int .i64 R, .int .i64 F]) ∧ Below w.heap.size w w' := by
  have hE := eqW Y x
  rw [hb] at hE
  have hG := guardW
  clear hb
  rcases hR with ⟨rfl, rfl, rfl⟩ | ⟨rfl, rfl, rfl, rfl⟩ | ⟨rfl, rfl, rfl, rfl⟩
  all_goals
    go_enter Try.func17, Try.ntmps17
    go_wp2_with (first
      | (refine at_boxC 36 (by rfl) _ (by rfl) x.cs (by rfl) x.cs_one ?_; intro g1 w1 a1 z1 r1 b1)
      | (refine at_getC 36 3 Wy.zero.cs srtW (by rfl) _ (by rfl) g1 (by rfl) x.cs r1 rfl ?_)
      | (go_at_call 28; refine (hA _).mono ?_; rintro e w2 ⟨rfl, b2⟩; have r2 := r1.later b2; clear r1)
      | (go_at_call 15; refine (hT _).mono ?_; rintro e w3 ⟨rfl, b3⟩; have r3 := r2.later b3; clear r2)
      | (refine at_newC 36 3 Wy.zero.cs srtW (by rfl) (by rfl) ?_; intro g2 w4 a4 z4 r4 b4)
      | (refine at_putC 36 3 Wy.zero.cs srtW (by rfl) _ _ (by rfl) g2 (by rfl) Y.cs (by rfl) rfl (Wy.cs_one _) _ r4 rfl ?_; intro w5 r5 s5
         have y5 := (r3.later b4).step s5 (by have := r3.lt; omega)
         have S5 : Stp (fun y => w.heap.size ≤ y) w w5 := (Stp.of_below (bnext (bnext (bnext b1 b2 (Nat.le_refl _)) b3 (Nat.le_refl _)) b4 (Nat.le_refl _)) _).next s5 (fun y hy => .inl (by subst hy; have := b1.size; have := b2.size; have := b3.size; omega))
         clear r3 r4)
      | (refine at_getC 36 3 Wy.zero.cs srtW (by rfl) _ (by rfl) g2 (by rfl) Y.cs r5 rfl ?_; clear r5)
      | (refine at_getC 36 3 Wy.zero.cs srtW (by rfl) _ (by rfl) g1 (by rfl) x.cs y5 rfl ?_))
    go_returns
    exact ⟨rfl, S5.below (Nat.le_refl _) (fun _ h => h)⟩
theorem block_any (x : Wy) (w : World) : Calls Try.prog 17 #[.agg x.cs.toArray] w fun e w' => e = .returned (.tuple #[.int .i64 (bkK x), .int .i64 (bkE x)]) ∧ Below w.heap.size w w' := by
  refine block_way x (wyK (aimK x)) (aimK x) (kE (aimK x)) _ w (aim_any x) (fun w => to_any _ w) rfl _ _ ?_
  unfold bkK bkE
  by_cases h : x.may
  · rw [if_pos h, if_pos h]
    obtain ⟨h1, h2⟩ := (aim_is x).2 h
    exact .inr (.inr ⟨h1, h2, (aim_may x h).symm, rfl⟩)
  · rw [if_neg h, if_neg h]
    by_cases hk : isBk (aimK x)
    · have e : kE (aimK x) = 0 := by unfold kE; rw [if_pos hk]
      refine .inr (.inl ⟨e, ?_, rfl, rfl⟩)
      rw [Bool.eq_false_iff]
      exact fun h2 => h ((aim_is x).1 ⟨e, h2⟩)
    · exact .inl ⟨by unfold kE; rw [if_neg hk], rfl, rfl⟩
set_option maxRecDepth 100000 in
set_option maxHeartbeats 1000000 in
theorem rblock_any (x : Wy) (w : World) : Calls Try.prog 18 #[.agg x.cs.toArray] w fun e w' => e = .returned (.tuple #[.int .i64 (bkK x), .int .i64 (bkE x)]) ∧ Below w.heap.size w w' := by
  have hG := guardV
  have hr : Hid ((∀ k, isBk k → (wyK k).same x = true → bkK x = k ∧ bkE x = 0) ∧ ((∀ k, isBk k → (wyK k).same x = false) → bkK x = 0 ∧ bkE x = 2)) := by
    refine ⟨fun k hk h => ?_, fun H => ?_⟩
    · obtain ⟨h1, h2⟩ := (wy_same k x hk).1 h
      unfold bkK bkE; rw [if_pos h1, if_pos h1]; exact ⟨h2.symm, rfl⟩
    · have : ¬ x.may := fun h => by
        have := H (bkN x) (bk_is x h)
        rw [(wy_same _ x (bk_is x h)).2 ⟨h, rfl⟩] at this
        cases this
      unfold bkK bkE; rw [if_neg this, if_neg this]; exact ⟨rfl, rfl⟩
  go_enter Try.func18, Try.ntmps18
  go_wp2_with (first
    | (refine at_boxC 39 (by rfl) _ (by rfl) x.cs (by rfl) x.cs_one ?_; intro g1 W a1 z1 r1 b1))
  go_loopw [4] (fun iv wr => ∃ i : Nat, i ≤ 760 ∧ iv = .int .i64 i ∧ (∀ j : Nat, j < i → (wyK j).same x = false) ∧ Below W.heap.size W wr) (fun iv _ => 760 - (intOf iv).toNat)
  case atStart => exact ⟨0, by omega, rfl, fun j hj => by omega, Below.refl _ _⟩
  case round =>
    obtain ⟨i, hi, rfl, HF, hbr⟩ := hrel
    have hH : Hid (∀ j : Nat, j < i → (wyK j).same x = false) := HF
    clear HF
    have r1' := r1.later hbr
    by_cases hlt : i < 760
    · have hlt' : (i : Int) < 760 := by omega
      have hK : Hid (isBk (i : Int)) := ⟨by omega, by omega⟩
      have hT := fun w => rto_any (i : Int) w
      obtain ⟨Y, hY⟩ : ∃ Y, Hid (wyK i = Y) := ⟨_, rfl⟩
      rw [hY.out] at hT
      have hE := eqV Y x
      obtain ⟨bt, hbt⟩ : ∃ b, Hid (Y.same x = b) := ⟨_, rfl⟩
      rw [hbt.out] at hE
      cases bt
      · have hok : Hid (∀ j : Nat, j < i + 1 → (wyK j).same x = false) := fun j hj => by
          by_cases e : j = i
          · subst e; rw [hY.out, hbt.out]
          · exact hH.out j (by omega)
        go_wp2_with (first
          | (go_at_call 16; refine (hT _).mono ?_; rintro e w3 ⟨rfl, b3⟩; have r3 := r1'.later b3; clear r1')
          | (refine at_newC 39 3 Wy.zero.cs srtV (by rfl) (by rfl) ?_; intro g2 w4 a4 z4 r4 b4)
          | (refine at_putC 39 3 Wy.zero.cs srtV (by rfl) _ _ (by rfl) g2 (by rfl) Y.cs (by rfl) rfl (Wy.cs_one _) _ r4 rfl ?_; intro w5 r5 s5
             have y5 := (r3.later b4).step s5 (by have := r3.lt; omega)
             have S5 : Stp (fun y => W.heap.size ≤ y) W w5 := (Stp.of_below (bnext (bnext hbr b3 (Nat.le_refl _)) b4 (Nat.le_refl _)) _).next s5 (fun y hy => .inl (by subst hy; have := hbr.size; have := b3.size; omega))
             clear r3 r4)
          | (refine at_getC 39 3 Wy.zero.cs srtV (by rfl) _ (by rfl) g2 (by rfl) Y.cs r5 rfl ?_; clear r5)
          | (refine at_getC 39 3 Wy.zero.cs srtV (by rfl) _ (by rfl) g1 (by rfl) x.cs y5 rfl ?_))
        go_roundw
        case rel => exact ⟨i + 1, by omega, by go_num, hok.out, S5.below (Nat.le_refl _) (fun _ h => h)⟩
        case measure => simp [intOf]; omega
      · obtain ⟨e1, e2⟩ := hr.out.1 i hK.out (by rw [hY.out]; exact hbt.out)
        have he : Hid (bkK x = i ∧ bkE x = 0) := ⟨e1, e2⟩
        clear e1 e2
        go_wp2_with (first
          | (go_at_call 16; refine (hT _).mono ?_; rintro e w3 ⟨rfl, b3⟩; have r3 := r1'.later b3; clear r1')
          | (refine at_newC 39 3 Wy.zero.cs srtV (by rfl) (by rfl) ?_; intro g2 w4 a4 z4 r4 b4)
          | (refine at_putC 39 3 Wy.zero.cs srtV (by rfl) _ _ (by rfl) g2 (by rfl) Y.cs (by rfl) rfl (Wy.cs_one _) _ r4 rfl ?_; intro w5 r5 s5
             have y5 := (r3.later b4).step s5 (by have := r3.lt; omega)
             have S5 : Stp (fun y => W.heap.size ≤ y) W w5 := (Stp.of_below (bnext (bnext hbr b3 (Nat.le_refl _)) b4 (Nat.le_refl _)) _).next s5 (fun y hy => .inl (by subst hy; have := hbr.size; have := b3.size; omega))
             clear r3 r4)
          | (refine at_getC 39 3 Wy.zero.cs srtV (by rfl) _ (by rfl) g2 (by rfl) Y.cs r5 rfl ?_; clear r5)
          | (refine at_getC 39 3 Wy.zero.cs srtV (by rfl) _ (by rfl) g1 (by rfl) x.cs y5 rfl ?_))
        go_returns
        rw [he.out.1, he.out.2]
        exact ⟨rfl, bnext b1 (S5.below (Nat.le_refl _) (fun _ h => h)) (Nat.le_refl _)⟩
    · obtain rfl : i = 760 := by omega
      have he : Hid (bkK x = 0 ∧ bkE x = 2) := hr.out.2 (fun k hk => by
        obtain ⟨n, rfl⟩ : ∃ n : Nat, k = n := ⟨k.toNat, by have := hk.1; omega⟩
        exact hH.out n (by have := hk.2; omega))
      go_wp2
      go_returns
      rw [he.out.1, he.out.2]
      exact ⟨rfl, bnext b1 hbr (Nat.le_refl _)⟩
end Go.Proofs.Ytaahljjmofjdmaa
