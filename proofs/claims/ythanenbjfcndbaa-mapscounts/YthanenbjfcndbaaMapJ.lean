/-
  What the document's Clean of layer 9 returns, for every input: no statement is proved here.
-/
import Derived.Test.YthanenbjfcndbaaMapD
import Derived.Test.YthanenbjfcndbaaMapF
namespace Go.Proofs.Ythanenbjfcndbaa
open Go.ChangeShapes Go.WideShapes Go.ChangeAt Go.RowKit
set_option linter.unusedVariables false

/-- How a bit is a shape's, or is none's. -/
theorem inB_ways (s : Gm) (i : Nat) : ((i : Int) < s.d ∧ inB s i = true) ∨ (¬ (i : Int) < s.d ∧ ¬ 128 ≤ (i : Int) ∧ inB s i = false) ∨ (¬ (i : Int) < s.d ∧ 128 ≤ (i : Int) ∧ (i : Int) < 128 + 3 * s.i ∧ inB s i = true) ∨ (¬ (i : Int) < s.d ∧ 128 ≤ (i : Int) ∧ ¬ (i : Int) < 128 + 3 * s.i ∧ inB s i = false) := by
  unfold inB
  by_cases h0 : (i : Int) < s.d
  · exact .inl ⟨h0, by simp [h0]⟩
  · right
    by_cases h1 : 128 ≤ (i : Int)
    · right
      by_cases h2 : (i : Int) < 128 + 3 * s.i
      · exact .inl ⟨h0, h1, h2, by simp; omega⟩
      · exact .inr ⟨h0, h1, h2, by simp; omega⟩
    · exact .inl ⟨h0, h1, by simp; omega⟩
set_option maxRecDepth 100000 in
set_option maxHeartbeats 4000000 in
theorem rmclean_any (p : Ld) (s : Gm) (w : World) :
    Calls Try.prog 24 #[.agg p.cs.toArray, gv s] w fun e w' => e = .returned (.bool (mK p s)) ∧ Below w.heap.size w w' := by
  have hp := p.len
  have hC := rcheck_any s
  by_cases ho : s.ok
  · rw [show s.err = 0 from if_pos ho] at hC
    have hK : Hid _ := mK_ok p s ho
    have hg : 1 ≤ s.i ∧ s.i ≤ 8 ∧ 4 ≤ s.d ∧ s.d ≤ 128 := by unfold Gm.ok at ho; omega
    obtain ⟨g1', g2', g3', g4'⟩ := hg
    clear ho
    go_enter Try.func24, Try.ntmps24
    go_wp2_with (first
      | (refine at_box 23 54 arrL (by rfl) _ (by rfl) p.l (by rfl) hp ?_; intro g0 w0 a0 z0 r0 b0)
      | (refine at_boxG (by rfl) _ (by rfl) s (by rfl) ?_; intro g1 w1 a1 z1 r1 b1)
      | (refine at_getG (by rfl) _ (by rfl) g1 (by rfl) s r1 ?_)
      | (go_at_call 42; refine (hC _).mono ?_; rintro e W ⟨rfl, b2⟩; have rg := r1.later b2; have rp := (r0.later b1).later b2; have B := bnext (bnext b0 b1 (Nat.le_refl _)) b2 (Nat.le_refl _); clear r0 r1 b0 b1 b2 a0 a1 z0 z1))
    go_loopw [5] (fun iv wr => ∃ i : Nat, i ≤ 432 ∧ iv = .int .i64 i ∧ (∀ j, j < i → (bitB (ints p.l) j && !inB s j) = false) ∧ Below W.heap.size W wr) (fun iv _ => 432 - (intOf iv).toNat)
    case atStart => exact ⟨0, by omega, rfl, fun j hj => by omega, Below.refl _ _⟩
    case round =>
      obtain ⟨i, hi, rfl, HF, hbr⟩ := hrel
      have hH : Hid (∀ j, j < i → (bitB (ints p.l) j && !inB s j) = false) := HF
      clear HF
      have rp' := rp.later hbr
      have rg' := rg.later hbr
      have c1 := rg'.c1
      have c2 := rg'.c2
      by_cases hlt : i < 432
      · have hlt' : (i : Int) < 432 := by omega
        have y0 := rp'.bs0 54 54 (by omega) (Nat.le_refl _) (by decide)
        rw [List.take_of_length_le (by omega)] at y0
        have hway := inB_ways s i
        cases hbit : bitB (ints p.l) i
        · have hok : Hid (∀ j, j < i + 1 → (bitB (ints p.l) j && !inB s j) = false) := fun j hj => by
            by_cases e : j = i
            · subst e; rw [hbit]; rfl
            · exact hH.out j (by omega)
          rcases hway with ⟨q0, q⟩ | ⟨q0, q1, q⟩ | ⟨q0, q1, q2, q⟩ | ⟨q0, q1, q2, q⟩
          all_goals
            clear q
            go_wp2_with (go_at_call 31; refine (rbit_ok _ _ _ _ i _ y0 (by omega) (by omega)).mono ?_; rw [hbit]; rintro e w3 ⟨rfl, k3, hw3⟩; have b3 : Below wr.heap.size wr w3 := (by rw [hw3]; exact below_drewN _ _); clear hw3)
            go_roundw
            case rel => exact ⟨i + 1, by omega, by go_num, hok.out, bnext hbr b3 (Nat.le_refl _)⟩
            case measure => simp [intOf]; omega
        · rcases hway with ⟨q0, q⟩ | ⟨q0, q1, q⟩ | ⟨q0, q1, q2, q⟩ | ⟨q0, q1, q2, q⟩
          · have hok : Hid (∀ j, j < i + 1 → (bitB (ints p.l) j && !inB s j) = false) := fun j hj => by
              by_cases e : j = i
              · subst e; rw [q]; simp
              · exact hH.out j (by omega)
            clear q
            go_wp2_with (go_at_call 31; refine (rbit_ok _ _ _ _ i _ y0 (by omega) (by omega)).mono ?_; rw [hbit]; rintro e w3 ⟨rfl, k3, hw3⟩; have b3 : Below wr.heap.size wr w3 := (by rw [hw3]; exact below_drewN _ _); clear hw3)
            go_roundw
            case rel => exact ⟨i + 1, by omega, by go_num, hok.out, bnext hbr b3 (Nat.le_refl _)⟩
            case measure => simp [intOf]; omega
          · have hno : Hid (mK p s = false) := by
              show _ = _
              rw [Bool.eq_false_iff]
              intro h
              have := hK.out.1 h i hlt
              rw [hbit, q] at this; simp at this
            clear q
            go_wp2_with (go_at_call 31; refine (rbit_ok _ _ _ _ i _ y0 (by omega) (by omega)).mono ?_; rw [hbit]; rintro e w3 ⟨rfl, k3, hw3⟩; have b3 : Below wr.heap.size wr w3 := (by rw [hw3]; exact below_drewN _ _); clear hw3)
            go_returns
            exact ⟨ret_bool (by rw [hno.out]), bnext (bnext B hbr (Nat.le_refl _)) b3 (Nat.le_refl _)⟩
          · have hok : Hid (∀ j, j < i + 1 → (bitB (ints p.l) j && !inB s j) = false) := fun j hj => by
              by_cases e : j = i
              · subst e; rw [q]; simp
              · exact hH.out j (by omega)
            clear q
            go_wp2_with (go_at_call 31; refine (rbit_ok _ _ _ _ i _ y0 (by omega) (by omega)).mono ?_; rw [hbit]; rintro e w3 ⟨rfl, k3, hw3⟩; have b3 : Below wr.heap.size wr w3 := (by rw [hw3]; exact below_drewN _ _); clear hw3)
            go_roundw
            case rel => exact ⟨i + 1, by omega, by go_num, hok.out, bnext hbr b3 (Nat.le_refl _)⟩
            case measure => simp [intOf]; omega
          · have hno : Hid (mK p s = false) := by
              show _ = _
              rw [Bool.eq_false_iff]
              intro h
              have := hK.out.1 h i hlt
              rw [hbit, q] at this; simp at this
            clear q
            go_wp2_with (go_at_call 31; refine (rbit_ok _ _ _ _ i _ y0 (by omega) (by omega)).mono ?_; rw [hbit]; rintro e w3 ⟨rfl, k3, hw3⟩; have b3 : Below wr.heap.size wr w3 := (by rw [hw3]; exact below_drewN _ _); clear hw3)
            go_returns
            exact ⟨ret_bool (by rw [hno.out]), bnext (bnext B hbr (Nat.le_refl _)) b3 (Nat.le_refl _)⟩
      · obtain rfl : i = 432 := by omega
        have hyes : Hid (mK p s = true) := hK.out.2 hH.out
        go_wp2
        go_returns
        exact ⟨ret_bool (by rw [hyes.out]), bnext B hbr (Nat.le_refl _)⟩
  · rw [show s.err = 2 from if_neg ho] at hC
    have hK : Hid (mK p s = false) := mK_no p s ho
    clear ho
    go_enter Try.func24, Try.ntmps24
    go_wp2_with (first
      | (refine at_box 23 54 arrL (by rfl) _ (by rfl) p.l (by rfl) hp ?_; intro g0 w0 a0 z0 r0 b0)
      | (refine at_boxG (by rfl) _ (by rfl) s (by rfl) ?_; intro g1 w1 a1 z1 r1 b1)
      | (refine at_getG (by rfl) _ (by rfl) g1 (by rfl) s r1 ?_)
      | (go_at_call 42; refine (hC _).mono ?_; rintro e W ⟨rfl, b2⟩; have B := bnext (bnext b0 b1 (Nat.le_refl _)) b2 (Nat.le_refl _)))
    go_returns
    exact ⟨ret_bool (by rw [hK.out]), B⟩
end Go.Proofs.Ythanenbjfcndbaa
