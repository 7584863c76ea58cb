/-
  What the document's Kind, Next and Same of layer 7 return, each for every input: no statement is proved here.
-/
import Derived.Test.YteceapdkgidenaaSealE
import Derived.Test.YteceapdkgidenaaSealG
import Derived.Test.YteceapdkgidenaaSealI
namespace Go.Proofs.Yteceapdkgidenaa
open Go.ChangeShapes Go.WideShapes Go.ChangeAt Go.RowKit
set_option linter.unusedVariables false

theorem gE_yes {b : Blk} {k : Nat} (h1 : 1 ≤ k) (h6 : k ≤ 6) (h : oK b = k) : gE (k : Int) b = 0 := by unfold gE; rw [isK_of h1 h6, if_pos rfl, if_pos (by omega)]
theorem gE_else {b : Blk} {k : Nat} (h1 : 1 ≤ k) (h6 : k ≤ 6) (h : oK b ≠ k) : gE (k : Int) b = 21 := by unfold gE; rw [isK_of h1 h6, if_pos rfl, if_neg (by omega)]
set_option maxRecDepth 100000 in
set_option maxHeartbeats 1000000 in
theorem rkind_any (b : Blk) (w : World) :
    Calls Try.prog 35 #[.agg b.cs.toArray] w fun e w' => e = .returned (.int .i64 (oK b : Nat)) ∧ Below w.heap.size w w' := by
  have hb := b.len
  have hK := oK_lt b
  go_enter Try.func35, Try.ntmps35
  go_wp2_with (first
    | (refine at_box 23 64 arrB (by rfl) _ (by rfl) b.l (by rfl) hb ?_; intro gb w1 a1 z1 r1 b1))
  go_loopw [3] (fun i wr => ∃ k : Nat, 1 ≤ k ∧ k ≤ 7 ∧ i = .int .i64 k ∧ (∀ j, 1 ≤ j → j < k → oK b ≠ j) ∧ Row wr gb b.l ∧ Below w.heap.size w wr) (fun i _ => 7 - (intOf i).toNat)
  case atStart => exact ⟨1, Nat.le_refl _, by omega, rfl, fun j h h' => by omega, r1, b1⟩
  case round =>
    obtain ⟨k, k1, k7, rfl, hno, rk, bk⟩ := hrel
    by_cases hlt : k < 7
    · have hlp := (gP (k : Int) b).len
      by_cases he : oK b = k
      · have hg := gE_yes k1 (by omega) he
        have hE : Hid (oK b = k) := he
        clear he
        go_wp2_with (first
          | (refine at_getB (by rfl) _ (by rfl) gb (by rfl) b rk ?_)
          | (go_at_call 28; refine (rget_any (k : Int) b _).mono ?_; rintro e w2 ⟨rfl, b2⟩)
          | (refine at_new 35 54 arrL (by rfl) (by rfl) ?_; intro gp w3 a3 z3 r3 b3)
          | (refine at_put 35 54 arrL (by rfl) _ _ (by rfl) gp (by rfl) (gP (k : Int) b).l (by rfl) hlp _ r3 (by simp) ?_; intro w9 r9 s9))
        have S3 : Stp (fun x => w.heap.size ≤ x) w w3 := Stp.of_below (bnext (bnext bk b2 (Nat.le_refl _)) b3 (Nat.le_refl _)) _
        have hgp : w.heap.size ≤ gp := by have := bk.size; have := b2.size; omega
        have S9 := S3.next s9 (fun x hx => .inl (by subst hx; exact hgp))
        go_returns
        exact ⟨by rw [hE.out]; rfl, S9.below (Nat.le_refl _) (fun _ h => h)⟩
      · have hg := gE_else k1 (by omega) he
        go_wp2_with (first
          | (refine at_getB (by rfl) _ (by rfl) gb (by rfl) b rk ?_)
          | (go_at_call 28; refine (rget_any (k : Int) b _).mono ?_; rintro e w2 ⟨rfl, b2⟩)
          | (refine at_new 35 54 arrL (by rfl) (by rfl) ?_; intro gp w3 a3 z3 r3 b3)
          | (refine at_put 35 54 arrL (by rfl) _ _ (by rfl) gp (by rfl) (gP (k : Int) b).l (by rfl) hlp _ r3 (by simp) ?_; intro w9 r9 s9))
        have S3 : Stp (fun x => w.heap.size ≤ x) w w3 := Stp.of_below (bnext (bnext bk b2 (Nat.le_refl _)) b3 (Nat.le_refl _)) _
        have hgp : w.heap.size ≤ gp := by have := bk.size; have := b2.size; omega
        have S9 := S3.next s9 (fun x hx => .inl (by subst hx; exact hgp))
        have r8 : Row w9 gb b.l := ((rk.later b2).later b3).step s9 (by have := rk.lt; have := b2.size; omega)
        go_roundw
        case rel =>
          refine ⟨k + 1, by omega, by omega, by go_num, fun j h h' => ?_, r8, S9.below (Nat.le_refl _) (fun _ h => h)⟩
          by_cases e : j = k
          · subst e; exact he
          · exact hno j h (by omega)
        case measure => simp [intOf]; omega
    · obtain rfl : k = 7 := by omega
      have h0 : Hid (oK b = 0) := by
        show oK b = 0
        refine Decidable.byContradiction fun hne => ?_
        exact hno (oK b) (by omega) hK rfl
      go_wp2_with fail
      go_returns
      exact ⟨by rw [h0.out]; rfl, bk⟩
theorem right_of {b : Blk} (h : oK b ≠ 0) : rightB b = true := by
  unfold oK at h
  split at h
  · assumption
  · exact absurd rfl h
theorem oT_none {b : Blk} (h : oK b = 0) : oT b = 0 := by
  unfold oT
  split
  · rename_i hr
    have : oK b = byt b 54 := by unfold oK; rw [hr]; rfl
    unfold rightB isK at hr
    simp at hr; omega
  · rfl
theorem gT_own {b : Blk} (h : oK b ≠ 0) : gT (oK b : Nat) b = oT b := by
  have := oK_lt b
  unfold gT; rw [gE_yes (by omega) (by omega) rfl]; rfl
theorem gP_own {b : Blk} {k : Nat} (h : k ≠ 0) (e : oK b = k) : gP (k : Int) b = oP b := by
  have := oK_lt b
  unfold gP; rw [gE_yes (by omega) (by omega) e]; rfl
theorem rput_one (k : Int) (p : Ld) (w : World) :
    Calls Try.prog 32 #[.int .i64 k, .int .u32 1, .agg p.cs.toArray] w fun e w' => e = .returned (.tuple #[.agg (pB k 1 p).cs.toArray, .int .i64 (pE k)]) ∧ Below w.heap.size w w' := rput_any k 1 p w (by omega)
set_option maxRecDepth 100000 in
set_option maxHeartbeats 1000000 in
theorem rsame_far (x y : Blk) (w : World) (hd : ¬ (oK x = oK y ∧ oK x ≠ 0)) :
    Calls Try.prog 26 #[.agg x.cs.toArray, .agg y.cs.toArray] w fun e w' => e = .returned (.bool (sm2 x y)) ∧ Below w.heap.size w w' := by
  have hx := x.len
  have hy := y.len
  have qB := eqB x y
  have gB := guardB
  have tok : True := trivial
  have tok2 : True := trivial
  have key : ∀ (c : Bool), decide (oK x = oK y) = c → (c = true → oK x = 0) →
    Calls Try.prog 26 #[.agg x.cs.toArray, .agg y.cs.toArray] w fun e w' => e = .returned (.bool (if c then decide (x = y) else false)) ∧ Below w.heap.size w w' := by
    intro c hc h0
    have b0 : ((oK x : Int) != (oK y : Int)) = !c := by
      rw [← hc, Bool.eq_iff_iff]; simp; omega
    cases c
    · clear h0 hc hd
      go_enter Try.func26, Try.ntmps26
      go_wp2_with (first
        | (have _t := tok; refine at_box 23 64 arrB (by rfl) _ (by rfl) x.l (by rfl) hx ?_; intro gx w1 a1 z1 r1 b1; clear _t tok)
        | (refine at_box 23 64 arrB (by rfl) _ (by rfl) y.l (by rfl) hy ?_; intro gy w2 a2 z2 r2 b2)
        | (have _t := tok2; refine at_getB (by rfl) _ (by rfl) gx (by rfl) x (r1.later b2) ?_; clear _t)
        | (have _t := tok2; go_at_call 35; refine (rkind_any x _).mono ?_; rintro e w3 ⟨rfl, b3⟩; clear _t tok2)
        | (refine at_getB (by rfl) _ (by rfl) gy (by rfl) y (r2.later b3) ?_)
        | (go_at_call 35; refine (rkind_any y _).mono ?_; rintro e w4 ⟨rfl, b4⟩))
      go_returns
      exact ⟨rfl, bnext (bnext (bnext b1 b2 (Nat.le_refl _)) b3 (Nat.le_refl _)) b4 (Nat.le_refl _)⟩
    · have b5 : ((oK x : Int) == 0) = true := by rw [beq_iff_eq]; have := h0 rfl; omega
      clear h0 hc hd
      go_enter Try.func26, Try.ntmps26
      go_wp2_with (first
        | (refine at_getB (by rfl) _ (by rfl) gx (by rfl) x x4 ?_)
        | (refine at_getB (by rfl) _ (by rfl) gy (by rfl) y y4 ?_)
        | (have _t := tok; refine at_box 23 64 arrB (by rfl) _ (by rfl) x.l (by rfl) hx ?_; intro gx w1 a1 z1 r1 b1; clear _t tok)
        | (refine at_box 23 64 arrB (by rfl) _ (by rfl) y.l (by rfl) hy ?_; intro gy w2 a2 z2 r2 b2)
        | (have _t := tok2; refine at_getB (by rfl) _ (by rfl) gx (by rfl) x (r1.later b2) ?_; clear _t)
        | (have _t := tok2; go_at_call 35; refine (rkind_any x _).mono ?_; rintro e w3 ⟨rfl, b3⟩; clear _t tok2)
        | (refine at_getB (by rfl) _ (by rfl) gy (by rfl) y (r2.later b3) ?_)
        | (go_at_call 35; refine (rkind_any y _).mono ?_; rintro e w4 ⟨rfl, b4⟩
           have x4 : Row w4 gx x.l := ((r1.later b2).later b3).later b4
           have y4 : Row w4 gy y.l := (r2.later b3).later b4))
      go_returns
      exact ⟨rfl, bnext (bnext (bnext b1 b2 (Nat.le_refl _)) b3 (Nat.le_refl _)) b4 (Nat.le_refl _)⟩
  have := key _ rfl (fun h => by
    have h1 : oK x = oK y := by simpa using h
    refine Decidable.byContradiction fun h0 => hd ⟨h1, h0⟩)
  have e : sm2 x y = (if decide (oK x = oK y) = true then decide (x = y) else false) := by
    unfold sm2
    by_cases h1 : oK x = oK y
    · have h0 : oK x = 0 := Decidable.byContradiction fun h0 => hd ⟨h1, h0⟩
      rw [if_pos h1, if_pos h0, if_pos (by simpa using h1)]
    · rw [if_neg h1, if_neg (by simpa using h1)]
  rw [e]; exact this
set_option maxRecDepth 100000 in
set_option maxHeartbeats 1000000 in
theorem rsame_near (x y : Blk) (w : World) (h1 : oK x = oK y) (h0 : oK x ≠ 0) :
    Calls Try.prog 26 #[.agg x.cs.toArray, .agg y.cs.toArray] w fun e w' => e = .returned (.bool (sm2 x y)) ∧ Below w.heap.size w w' := by
  have hx := x.len
  have hy := y.len
  have hlx := (oP x).len
  have hly := (oP y).len
  have qL := eqL (oP x) (oP y)
  have gL := guardL
  have tok : True := trivial
  have tok2 : True := trivial
  have tok3 : True := trivial
  have e1 : gP (oK x : Nat) x = oP x := gP_own h0 rfl
  have e2 : gP (oK x : Nat) y = oP y := gP_own h0 h1.symm
  have b0 : ((oK x : Int) != (oK y : Int)) = false := by rw [bne_eq_false_iff_eq]; omega
  have b9 : ((oK x : Int) == 0) = false := by rw [beq_eq_false_iff_ne]; omega
  have hE : Hid (sm2 x y = decide (oP x = oP y)) := by show _ = _; unfold sm2; rw [if_pos h1, if_neg h0]
  clear h1 h0
  go_enter Try.func26, Try.ntmps26
  go_wp2_with (first
    | (refine at_getL (by rfl) _ (by rfl) gp (by rfl) (oP x) p8 ?_)
    | (refine at_getL (by rfl) _ (by rfl) gq (by rfl) (oP y) r8 ?_)
    | (have _t := tok; refine at_box 23 64 arrB (by rfl) _ (by rfl) x.l (by rfl) hx ?_; intro gx w1 a1 z1 r1 b1; clear _t tok)
    | (refine at_box 23 64 arrB (by rfl) _ (by rfl) y.l (by rfl) hy ?_; intro gy w2 a2 z2 r2 b2)
    | (have _t := tok2; refine at_getB (by rfl) _ (by rfl) gx (by rfl) x (r1.later b2) ?_; clear _t)
    | (have _t := tok2; go_at_call 35; refine (rkind_any x _).mono ?_; rintro e w3 ⟨rfl, b3⟩; clear _t tok2)
    | (refine at_getB (by rfl) _ (by rfl) gy (by rfl) y (r2.later b3) ?_)
    | (go_at_call 35; refine (rkind_any y _).mono ?_; rintro e w4 ⟨rfl, b4⟩)
    | (have _t := tok3; refine at_getB (by rfl) _ (by rfl) gx (by rfl) x (((r1.later b2).later b3).later b4) ?_; clear _t)
    | (have _t := tok3; go_at_call 28; refine (rget_any _ x _).mono ?_; rintro e w5 ⟨rfl, b5⟩; rw [e1]; clear _t)
    | (have _t := tok3; refine at_new 35 54 arrL (by rfl) (by rfl) ?_; intro gp w6 a6 z6 r6 b6; clear _t)
    | (have _t := tok3; refine at_put 35 54 arrL (by rfl) _ _ (by rfl) gp (by rfl) (oP x).l (by rfl) hlx _ r6 (by simp) ?_; intro w7 r7 s7; clear _t tok3)
    | (refine at_getB (by rfl) _ (by rfl) gy (by rfl) y (((((r2.later b3).later b4).later b5).later b6).step s7 (by have := b3.size; have := b4.size; have := b5.size; omega)) ?_)
    | (go_at_call 28; refine (rget_any _ y _).mono ?_; rintro e w8 ⟨rfl, b8⟩; rw [e2])
    | (refine at_new 35 54 arrL (by rfl) (by rfl) ?_; intro gq w9 a9 z9 r9 b9)
    | (refine at_put 35 54 arrL (by rfl) _ _ (by rfl) gq (by rfl) (oP y).l (by rfl) hly _ r9 (by simp) ?_; intro wz r8 sz
       have p8 : Row wz gp (oP x).l := ((r7.later b8).later b9).step sz (by have := b8.size; have := s7.size; omega)
       have S8 : Below w.heap.size w wz := ((((Stp.of_below (bnext (bnext (bnext (bnext (bnext b1 b2 (Nat.le_refl _)) b3 (Nat.le_refl _)) b4 (Nat.le_refl _)) b5 (Nat.le_refl _)) b6 (Nat.le_refl _)) (fun x => w.heap.size ≤ x)).next s7 (fun x hx => .inl (by subst hx; have := b1.size; have := b2.size; have := b3.size; have := b4.size; have := b5.size; omega))).next (Stp.of_below (bnext b8 b9 (Nat.le_refl _)) (fun _ => False)) (fun _ h => h.elim)).next sz (fun x hx => .inl (by subst hx; have := b1.size; have := b2.size; have := b3.size; have := b4.size; have := b5.size; have := b6.size; have := s7.size; have := b8.size; omega))).below (Nat.le_refl _) (fun _ h => h)
       clear r1 r2 r6 r7 r9 s7 sz b1 b2 b3 b4 b5 b6 b8))
  go_returns
  exact ⟨by rw [hE.out]; rfl, S8⟩
theorem rsame_any (x y : Blk) (w : World) :
    Calls Try.prog 26 #[.agg x.cs.toArray, .agg y.cs.toArray] w fun e w' => e = .returned (.bool (sm2 x y)) ∧ Below w.heap.size w w' := by
  by_cases h : oK x = oK y ∧ oK x ≠ 0
  · exact rsame_near x y w h.1 h.2
  · exact rsame_far x y w h
end Go.Proofs.Yteceapdkgidenaa
