/-
  What the document's Byte, Taken and With of layer 9 return, for every input: no statement is proved here.
-/
import Derived.Test.YthanenbjfcndbaaMapA
namespace Go.Proofs.Ythanenbjfcndbaa
open Go.ChangeShapes Go.WideShapes Go.ChangeAt Go.RowKit
set_option linter.unusedVariables false

theorem rbitOf_yes (k i : Int) (w : World) (hi : (Lit.int .i64 i).wf = true) (h : plc k i) :
    Calls Try.prog 30 #[.int .i64 k, .int .i64 i] w fun e w' => e = .returned (.tuple #[.int .i64 (pb k i : Nat), .bool true]) ∧ w = w' := by
  refine (rbitOf_any k i w hi).mono ?_
  rintro e w' ⟨rfl, rfl⟩
  rw [if_pos h, decide_eq_true h]; exact ⟨rfl, rfl⟩
theorem rbitOf_no (k i : Int) (w : World) (hi : (Lit.int .i64 i).wf = true) (h : ¬ plc k i) :
    Calls Try.prog 30 #[.int .i64 k, .int .i64 i] w fun e w' => e = .returned (.tuple #[.int .i64 0, .bool false]) ∧ w = w' := by
  refine (rbitOf_any k i w hi).mono ?_
  rintro e w' ⟨rfl, rfl⟩
  rw [if_neg h, decide_eq_false h]; exact ⟨rfl, rfl⟩
theorem rbyte_any (k i : Int) (w : World) (hi : (Lit.int .i64 i).wf = true) :
    Calls Try.prog 15 #[.int .i64 k, .int .i64 i] w fun e w' => e = .returned (.tuple #[.int .i64 (mB k i), .int .i64 (mE k i)]) ∧ w = w' := by
  by_cases h : plc k i
  · have hl := pb_lt h
    have hE : Hid (mE k i = 0 ∧ mB k i = (pb k i : Int) / 8) := ⟨if_pos h, by unfold mB; rw [if_pos h]; omega⟩
    have H1 : Hid _ := fun w => rbitOf_yes k i w hi h
    generalize pb k i = n at *
    clear h
    go_enter Try.func15, Try.ntmps15
    go_wp2_with (go_at_call 30; refine (H1.out _).mono ?_; rintro e w' ⟨rfl, rfl⟩)
    go_returns
    refine ⟨?_, rfl⟩
    rw [hE.out.1, hE.out.2]; rfl
  · have hE : Hid (mE k i = 2 ∧ mB k i = 0) := ⟨if_neg h, if_neg h⟩
    have H1 : Hid _ := fun w => rbitOf_no k i w hi h
    clear h
    go_enter Try.func15, Try.ntmps15
    go_wp2_with (go_at_call 30; refine (H1.out _).mono ?_; rintro e w' ⟨rfl, rfl⟩)
    go_returns
    refine ⟨?_, rfl⟩
    rw [hE.out.1, hE.out.2]; rfl
set_option maxRecDepth 100000 in
set_option maxHeartbeats 1000000 in
theorem rtaken_any (p : Ld) (k i : Int) (w : World) (hi : (Lit.int .i64 i).wf = true) :
    Calls Try.prog 11 #[.agg p.cs.toArray, .int .i64 k, .int .i64 i] w fun e w' => e = .returned (.tuple #[.bool (mT p k i), .int .i64 (mE k i)]) ∧ Below w.heap.size w w' := by
  have hp := p.len
  by_cases h : plc k i
  · have hl := pb_lt h
    have hE : Hid (mE k i = 0 ∧ mT p k i = bitB (ints p.l) (pb k i)) := ⟨if_pos h, by unfold mT; rw [decide_eq_true h, Bool.true_and]⟩
    have H1 : Hid _ := fun w => rbitOf_yes k i w hi h
    generalize pb k i = n at *
    clear h
    go_enter Try.func11, Try.ntmps11
    go_wp2_with (first
      | (refine at_box 23 54 arrL (by rfl) _ (by rfl) p.l (by rfl) hp ?_; intro g0 w0 a0 z0 r0 b0
         have y0 := r0.bs0 54 54 (by omega) (Nat.le_refl _) (by decide)
         rw [List.take_of_length_le (by omega)] at y0)
      | (go_at_call 30; refine (H1.out _).mono ?_; rintro e w' ⟨rfl, rfl⟩)
      | (go_at_call 31; refine (rbit_ok _ _ _ _ n _ y0 hl (by omega)).mono ?_; rintro e w6 ⟨rfl, k6, rfl⟩))
    go_returns
    refine ⟨?_, bdrewN b0 _⟩
    rw [hE.out.1, hE.out.2]; rfl
  · have hE : Hid (mE k i = 2 ∧ mT p k i = false) := ⟨if_neg h, mT_no p h⟩
    have H1 : Hid _ := fun w => rbitOf_no k i w hi h
    clear h
    go_enter Try.func11, Try.ntmps11
    go_wp2_with (first
      | (refine at_box 23 54 arrL (by rfl) _ (by rfl) p.l (by rfl) hp ?_; intro g0 w0 a0 z0 r0 b0)
      | (go_at_call 30; refine (H1.out _).mono ?_; rintro e w' ⟨rfl, rfl⟩))
    go_returns
    refine ⟨?_, b0⟩
    rw [hE.out.1, hE.out.2]; rfl
theorem rwithB_any (x : Option Addr) (n c : Nat) (l : List UInt8) (j : Nat) (on : Bool) (w : World) (hb : Bs w x n c (ints l)) (h : j / 8 < n) (hj : j ≤ 1000000) (hn : n ≤ 1000000) :
    Calls Try.prog 33 #[.slice x n c, .int .i64 j, .bool on] w fun e w' => ∃ b off d, e = .returned (.tuple #[.slice (some ⟨b, off, none⟩) n d, .int .i64 0]) ∧ Bs w' (some ⟨b, off, none⟩) n d (ints (wB l j on)) ∧ Below w.heap.size w w' := by
  refine (rwith_ok x n c _ j on w hb h (by omega) (by omega)).mono ?_
  rintro e w' ⟨v, rfl, hown, hbel⟩
  obtain ⟨a', c', rfl, hb'⟩ := own_bs hown (putB_range hb.byte j on)
  obtain ⟨b, off, rfl, _⟩ := hb'.cell (by omega)
  exact ⟨b, off, c', rfl, by rw [show ints (wB l j on) = putB (ints l) j on from ints_wB l j on]; exact hb', hbel⟩
set_option maxRecDepth 100000 in
set_option maxHeartbeats 2000000 in
theorem rmwith_any (p : Ld) (k i : Int) (on : Bool) (w : World) (hi : (Lit.int .i64 i).wf = true) :
    Calls Try.prog 13 #[.agg p.cs.toArray, .int .i64 k, .int .i64 i, .bool on] w fun e w' => e = .returned (.tuple #[.agg (mW p k i on).cs.toArray, .int .i64 (mE k i)]) ∧ Below w.heap.size w w' := by
  have hp := p.len
  by_cases h : plc k i
  · have hl := pb_lt h
    have hW : wB p.l (pb k i) on = (mW p k i on).l := by unfold mW; rw [if_pos h]
    have hq := (mW p k i on).len
    have hE : Hid (mE k i = 0) := if_pos h
    have H1 : Hid _ := fun w => rbitOf_yes k i w hi h
    generalize pb k i = n at *
    generalize mW p k i on = q at *
    clear h
    go_enter Try.func13, Try.ntmps13
    go_wp2_with (first
      | (refine at_box 23 54 arrL (by rfl) _ (by rfl) p.l (by rfl) hp ?_; intro g0 w0 a0 z0 r0 b0)
      | (refine at_new 23 54 arrL (by rfl) (by rfl) ?_; intro gr w00 a00 z00 r00 b00; have rp0 := r0.later b00; have B0 := bnext b0 b00 (Nat.le_refl _); have hgr : w.heap.size ≤ gr := (by have := b0.size; omega)
         have y0 := rp0.bs0 54 54 (by omega) (Nat.le_refl _) (by decide)
         rw [List.take_of_length_le (by omega)] at y0
         clear r0 b0)
      | (go_at_call 30; refine (H1.out _).mono ?_; rintro e w' ⟨rfl, rfl⟩)
      | (go_at_call 33; refine (rwithB_any _ _ _ _ n on _ y0 hl (by omega) (by omega)).mono ?_; rintro e w6 ⟨bx, ox, cx, rfl, y6, b6⟩
         rw [hW] at y6
         have rr6 := r00.later b6)
      | (refine at_arr 23 54 arrL (by rfl) _ (by rfl) _ 54 cx (by rfl) (Nat.le_refl _) ?_)
      | (refine at_getBs 23 54 arrL (by rfl) _ (by rfl) bx ox cx (by rfl) q.l y6 ?_)
      | (refine at_put 23 54 arrL (by rfl) _ _ (by rfl) gr (by rfl) q.l (by rfl) hq _ rr6 (by simp) ?_; intro w8 r8 s8))
    have S6 : Stp (fun x => w.heap.size ≤ x) w w6 := Stp.of_below (bnext B0 b6 (Nat.le_refl _)) _
    have S8 := S6.next s8 (fun x hx => .inl (by subst hx; exact hgr))
    refine bodyPost_ret (retAt arrL Try.results13 rfl rfl r8 hq) rfl ⟨?_, S8.below (Nat.le_refl _) (fun _ h => h)⟩
    rw [hE.out]; rfl
  · have hE : Hid (mE k i = 2 ∧ mW p k i on = Ld.zero) := ⟨if_neg h, if_neg h⟩
    have H1 : Hid _ := fun w => rbitOf_no k i w hi h
    clear h
    go_enter Try.func13, Try.ntmps13
    go_wp2_with (first
      | (refine at_box 23 54 arrL (by rfl) _ (by rfl) p.l (by rfl) hp ?_; intro g0 w0 a0 z0 r0 b0)
      | (refine at_new 23 54 arrL (by rfl) (by rfl) ?_; intro gr w00 a00 z00 r00 b00; have B0 := bnext b0 b00 (Nat.le_refl _); have hgr : w.heap.size ≤ gr := (by have := b0.size; omega))
      | (go_at_call 30; refine (H1.out _).mono ?_; rintro e w' ⟨rfl, rfl⟩)
      | (refine at_bldL (by rfl) (by rfl) ?_)
      | (refine at_put 23 54 arrL (by rfl) _ _ (by rfl) gr (by rfl) Ld.zero.l (by rfl) (by rfl) _ r00 (by simp) ?_; intro w8 r8 s8))
    have S0 : Stp (fun x => w.heap.size ≤ x) w w00 := Stp.of_below B0 _
    have S8 := S0.next s8 (fun x hx => .inl (by subst hx; exact hgr))
    refine bodyPost_ret (retAt arrL Try.results13 rfl rfl r8 (by rfl)) rfl ⟨?_, S8.below (Nat.le_refl _) (fun _ h => h)⟩
    rw [hE.out.1, hE.out.2]; rfl
end Go.Proofs.Ythanenbjfcndbaa
