/-
  What the document's Kind, Next and Same of layer 7 return, each for every input: no statement is proved here.
-/
import Derived.Test.YtjbgcbokffaemaaSealE
import Derived.Test.YtjbgcbokffaemaaSealG
import Derived.Test.YtjbgcbokffaemaaSealI
namespace Go.Proofs.Ytjbgcbokffaemaa
open Go.ChangeShapes Go.WideShapes Go.ChangeAt Go.RowKit
set_option linter.unusedVariables false

theorem gE_yes {b : Blk} {k : Nat} (h1 : 1 ≤ k) (h6 : k ≤ 6) (h : oK b = k) : gE (k : Int) b = 0 := by unfold gE; rw [isK_of h1 h6, if_pos rfl, if_pos (by omega)]
theorem gE_else {b : Blk} {k : Nat} (h1 : 1 ≤ k) (h6 : k ≤ 6) (h : oK b ≠ k) : gE (k : Int) b = 21 := by unfold gE; rw [isK_of h1 h6, if_pos rfl, if_neg (by omega)]
set_option maxRecDepth 100000 in
set_option maxHeartbeats 1000000 in
theorem rkind_any (b : Blk) (w : World) :
    Calls Try.prog 48 #[.agg b.cs.toArray] w fun e w' => e = .returned (.int .i64 (oK b : Nat)) ∧ Below w.heap.size w w' := by
  have hb := b.len
  have hK := oK_lt b
  go_enter Try.func48, Try.ntmps48
  go_wp2_with (first
    | (refine at_box 32 64 arrB (by rfl) _ (by rfl) b.l (by rfl) hb ?_; intro gb w1 a1 z1 r1 b1))
  go_loopw [3] (fun i wr => ∃ k : Nat, 1 ≤ k ∧ k ≤ 7 ∧ i = .int .i64 k ∧ (∀ j, 1 ≤ j → j < k → oK b ≠ j) ∧ Row wr gb b.l ∧ Below w.heap.size w wr) (fun i _ => 7 - (intOf i).toNat)
  case atStart => exact ⟨1, Nat.le_refl _, by omega, rfl, fun j h h' => by omega, r1, b1⟩
  case round =>
    obtain ⟨k, k1, k7, rfl, hno, rk, bk⟩ := hrel
    by_cases hlt : k < 7
    · have hlp := (gP (k : Int) b).len
      by_cases he : oK b = k
      · have hg := gE_yes k1 (by omega) he
        have hE : Hid (oK b = k) := he
        clear he
        go_wp2_with (first
          | (refine at_getB (by rfl) _ (by rfl) gb (by rfl) b rk ?_)
          | (go_at_call 21; refine (rget_any (k : Int) b _).mono ?_; rintro e w2 ⟨rfl, b2⟩)
          | (refine at_new 25 54 arrL (by rfl) (by rfl) ?_; intro gp w3 a3 z3 r3 b3)
          | (refine at_put 25 54 arrL (by rfl) _ _ (by rfl) gp (by rfl) (gP (k : Int) b).l (by rfl) hlp _ r3 (by simp) ?_; intro w9 r9 s9))
        have S3 : Stp (fun x => w.heap.size ≤ x) w w3 := Stp.of_below (bnext (bnext bk b2 (Nat.le_refl _)) b3 (Nat.le_refl _)) _
        have hgp : w.heap.size ≤ gp := by have := bk.size; have := b2.size; omega
        have S9 := S3.next s9 (fun x hx => .inl (by subst hx; exact hgp))
        go_returns
        exact ⟨by rw [hE.out]; rfl, S9.below (Nat.le_refl _) (fun _ h => h)⟩
      · have hg := gE_else k1 (by omega) he
        go_wp2_with (first
          | (refine at_getB (by rfl) _ (by rfl) gb (by rfl) b rk ?_)
          | (go_at_call 21; refine (rget_any (k : Int) b _).mono ?_; rintro e w2 ⟨rfl, b2⟩)
          | (refine at_new 25 54 arrL (by rfl) (by rfl) ?_; intro gp w3 a3 z3 r3 b3)
          | (refine at_put 25 54 arrL (by rfl) _ _ (by rfl) gp (by rfl) (gP (k : Int) b).l (by rfl) hlp _ r3 (by simp) ?_; intro w9 r9 s9))
        have S3 : Stp (fun x => w.heap.size ≤ x) w w3 := Stp.of_below (bnext (bnext bk b2 (Nat.le_refl _)) b3 (Nat.le_refl _)) _
        have hgp : w.heap.size ≤ gp := by have := bk.size; have := b2.size; omega
        have S9 := S3.next s9 (fun x hx => .inl (by subst hx; exact hgp))
        have r8 : Row w9 gb b.l := ((rk.later b2).later b3).step s9 (by have := rk.lt; have := b2.size; omega)
        go_roundw
        case rel =>
          refine ⟨k + 1, by omega, by omega, by go_num, fun j h h' => ?_, r8, S9.below (Nat.le_refl _) (fun _ h => h)⟩
          by_cases e : j = k
          · subst e; exact he
          · exact hno j h (by omega)
        case measure => simp [intOf]; omega
    · obtain rfl : k = 7 := by omega
      have h0 : Hid (oK b = 0) := by
        show oK b = 0
        refine Decidable.byContradiction fun hne => ?_
        exact hno (oK b) (by omega) hK rfl
      go_wp2_with fail
      go_returns
      exact ⟨by rw [h0.out]; rfl, bk⟩
theorem right_of {b : Blk} (h : oK b ≠ 0) : rightB b = true := by
  unfold oK at h
  split at h
  · assumption
  · exact absurd rfl h
theorem oT_none {b : Blk} (h : oK b = 0) : oT b = 0 := by
  unfold oT
  split
  · rename_i hr
    have : oK b = byt b 54 := by unfold oK; rw [hr]; rfl
    unfold rightB isK at hr
    simp at hr; omega
  · rfl
theorem gT_own {b : Blk} (h : oK b ≠ 0) : gT (oK b : Nat) b = oT b := by
  have := oK_lt b
  unfold gT; rw [gE_yes (by omega) (by omega) rfl]; rfl
theorem gP_own {b : Blk} {k : Nat} (h : k ≠ 0) (e : oK b = k) : gP (k : Int) b = oP b := by
  have := oK_lt b
  unfold gP; rw [gE_yes (by omega) (by omega) e]; rfl
theorem rput_one (k : Int) (p : Ld) (w : World) :
    Calls Try.prog 12 #[.int .i64 k, .int .u32 1, .agg p.cs.toArray] w fun e w' => e = .returned (.tuple #[.agg (pB k 1 p).cs.toArray, .int .i64 (pE k)]) ∧ Below w.heap.size w w' := rput_any k 1 p w (by omega)
set_option maxRecDepth 100000 in
set_option maxHeartbeats 1000000 in
theorem rnext_any (k : Int) (b : Blk) (p : Ld) (w : World) :
    Calls Try.prog 35 #[.int .i64 k, .agg b.cs.toArray, .agg p.cs.toArray] w fun e w' => e = .returned (.tuple #[.agg (pB k (nT b) p).cs.toArray, .int .i64 (pE k)]) ∧ Below w.heap.size w w' := by
  have hb := b.len
  have hp := p.len
  have hlq := (pB k (nT b) p).len
  have ht := nT_lt b
  have hw := nT_int b
  by_cases h0 : oK b = 0
  · have hz : Hid (oK b = 0) := h0
    have h1 : nT b = 1 := by unfold nT; rw [oT_none h0]
    have e0 : ((oK b : Int) != 0) = false := by rw [bne_eq_false_iff_eq]; omega
    rw [h1] at hlq ht ⊢
    clear h0 h1 hw
    go_enter Try.func35, Try.ntmps35
    go_wp2_with (first
      | (refine at_box 32 64 arrB (by rfl) _ (by rfl) b.l (by rfl) hb ?_; intro gb w1 a1 z1 r1 b1)
      | (refine at_box 25 54 arrL (by rfl) _ (by rfl) p.l (by rfl) hp ?_; intro gp w2 a2 z2 r2 b2)
      | (refine at_new 32 64 arrB (by rfl) (by rfl) ?_; intro gr w3 a3 z3 r3 b3)
      | (refine at_getB (by rfl) _ (by rfl) gb (by rfl) b ((r1.later b2).later b3) ?_)
      | (go_at_call 48; refine (rkind_any b _).mono ?_; rintro e w4 ⟨rfl, b4⟩)
      | (refine at_getL (by rfl) _ (by rfl) gp (by rfl) p ((r2.later b3).later b4) ?_)
      | (go_at_call 12; refine (rput_one k p _).mono ?_; rintro e w7 ⟨rfl, b7⟩)
      | (refine at_put 32 64 arrB (by rfl) _ _ (by rfl) gr (by rfl) (pB k 1 p).l (by rfl) hlq _ ((r3.later b4).later b7) (by simp) ?_; intro w9 r9 s9))
    have S7 : Stp (fun x => w.heap.size ≤ x) w w7 := Stp.of_below (bnext (bnext (bnext (bnext b1 b2 (Nat.le_refl _)) b3 (Nat.le_refl _)) b4 (Nat.le_refl _)) b7 (Nat.le_refl _)) _
    have hgr : w.heap.size ≤ gr := by have := b1.size; have := b2.size; omega
    refine bodyPost_ret (retAt arrB Try.results35 rfl rfl r9 hlq) rfl ⟨rfl, (S7.next s9 (fun x hx => .inl (by subst hx; exact hgr))).below (Nat.le_refl _) (fun _ h => h)⟩
  · have h1 := gT_own h0
    have e0 : ((oK b : Int) != 0) = true := by rw [bne_iff_ne]; omega
    go_enter Try.func35, Try.ntmps35
    go_wp2_with (first
      | (refine at_box 32 64 arrB (by rfl) _ (by rfl) b.l (by rfl) hb ?_; intro gb w1 a1 z1 r1 b1)
      | (refine at_box 25 54 arrL (by rfl) _ (by rfl) p.l (by rfl) hp ?_; intro gp w2 a2 z2 r2 b2)
      | (refine at_new 32 64 arrB (by rfl) (by rfl) ?_; intro gr w3 a3 z3 r3 b3)
      | (refine at_getB (by rfl) _ (by rfl) gb (by rfl) b (((r1.later b2).later b3).later b4) ?_)
      | (refine at_getB (by rfl) _ (by rfl) gb (by rfl) b ((r1.later b2).later b3) ?_)
      | (go_at_call 48; refine (rkind_any b _).mono ?_; rintro e w4 ⟨rfl, b4⟩)
      | (go_at_call 21; refine (rget_any _ b _).mono ?_; rintro e w5 ⟨rfl, b5⟩; rw [h1])
      | (refine at_getL (by rfl) _ (by rfl) gp (by rfl) p (((r2.later b3).later b4).later b5) ?_)
      | (go_at_call 12; refine (rput_any k (nT b) p _ ht).mono ?_; rintro e w7 ⟨rfl, b7⟩)
      | (refine at_put 32 64 arrB (by rfl) _ _ (by rfl) gr (by rfl) (pB k (nT b) p).l (by rfl) hlq _ (((r3.later b4).later b5).later b7) (by simp) ?_; intro w9 r9 s9))
    have S7 : Stp (fun x => w.heap.size ≤ x) w w7 := Stp.of_below (bnext (bnext (bnext (bnext (bnext b1 b2 (Nat.le_refl _)) b3 (Nat.le_refl _)) b4 (Nat.le_refl _)) b5 (Nat.le_refl _)) b7 (Nat.le_refl _)) _
    have hgr : w.heap.size ≤ gr := by have := b1.size; have := b2.size; omega
    refine bodyPost_ret (retAt arrB Try.results35 rfl rfl r9 hlq) rfl ⟨rfl, (S7.next s9 (fun x hx => .inl (by subst hx; exact hgr))).below (Nat.le_refl _) (fun _ h => h)⟩
end Go.Proofs.Ytjbgcbokffaemaa
