/-
  What Byte, Taken and With of layer 9, and the document's, return, for every input: no statement is proved here.
-/
import Derived.Test.YthanenbjfcndbaaMapA
namespace Go.Proofs.Ythanenbjfcndbaa
open Go.ChangeShapes Go.WideShapes Go.ChangeAt Go.RowKit
set_option linter.unusedVariables false

theorem mapOf_yes (k i : Int) (w : World) (hk : (Lit.int .i64 k).wf = true) (h : plc k i) :
    Calls Try.prog 27 #[.int .i64 k, .int .i64 i] w fun e w' => e = .returned (.tuple #[.agg (spc (sA k) (sZ k)).toArray, .int .i64 0]) ∧ Below w.heap.size w w' := by
  refine (mapOf_any k i w hk).mono ?_
  rintro e w' ⟨rfl, b⟩
  obtain ⟨e1, e2⟩ := is_plc h
  rw [e1, e2, show mE k i = 0 from if_pos h]; exact ⟨rfl, b⟩
theorem mapOf_no (k i : Int) (w : World) (hk : (Lit.int .i64 k).wf = true) (h : ¬ plc k i) :
    Calls Try.prog 27 #[.int .i64 k, .int .i64 i] w fun e w' => e = .returned (.tuple #[.agg (spc 0 0).toArray, .int .i64 2]) ∧ Below w.heap.size w w' := by
  refine (mapOf_any k i w hk).mono ?_
  rintro e w' ⟨rfl, b⟩
  have hE : mE k i = 2 := if_neg h
  obtain ⟨e1, e2⟩ := not_plc hE
  rw [e1, e2, hE]; exact ⟨rfl, b⟩
set_option maxRecDepth 100000 in
set_option maxHeartbeats 1000000 in
theorem byte_any (k i : Int) (w : World) (hk : (Lit.int .i64 k).wf = true) :
    Calls Try.prog 14 #[.int .i64 k, .int .i64 i] w fun e w' => e = .returned (.tuple #[.int .i64 (mB k i), .int .i64 (mE k i)]) ∧ Below w.heap.size w w' := by
  by_cases h : plc k i
  · have hz := plc_z h
    have hl := s_le k
    obtain ⟨j, rfl⟩ := Int.eq_ofNat_of_zero_le hz.1
    have hE : Hid (mE k j = 0 ∧ mB k j = (sA k : Int) + (j : Int) / 8) := ⟨if_pos h, by unfold mB; rw [if_pos h]; unfold pb; omega⟩
    have hs1 := spc_one (sA k) (sZ k)
    have H1 : Hid _ := fun w => mapOf_yes k j w hk h
    clear h
    go_enter Try.func14, Try.ntmps14
    go_wp2_with (first
      | (go_at_call 27; refine (H1.out _).mono ?_; rintro e w1 ⟨rfl, b1⟩)
      | (refine at_newC 50 2 (spc 0 0) srtS (by rfl) (by rfl) ?_; intro gs w3 a3 z3 r3 b3)
      | (refine at_putC 50 2 (spc 0 0) srtS (by rfl) _ _ (by rfl) gs (by rfl) (spc (sA k) (sZ k)) (by rfl) rfl hs1 _ r3 rfl ?_; intro w4 r4 s4
         have c0 := r4.cell 0 _ rfl))
    go_returns
    have S4 : Stp (fun x => w.heap.size ≤ x) w w4 := (Stp.of_below (bnext b1 b3 (Nat.le_refl _)) (fun x => w.heap.size ≤ x)).next s4 (fun x hx => .inl (by subst hx; have := b1.size; omega))
    refine ⟨?_, S4.below (Nat.le_refl _) (fun _ h => h)⟩
    rw [hE.out.1, hE.out.2]; rfl
  · have hE : Hid (mE k i = 2 ∧ mB k i = 0) := ⟨if_neg h, if_neg h⟩
    have H1 : Hid _ := fun w => mapOf_no k i w hk h
    clear h
    go_enter Try.func14, Try.ntmps14
    go_wp2_with (first
      | (go_at_call 27; refine (H1.out _).mono ?_; rintro e w1 ⟨rfl, b1⟩)
      | (refine at_newC 50 2 (spc 0 0) srtS (by rfl) (by rfl) ?_; intro gs w3 a3 z3 r3 b3)
      | (refine at_putC 50 2 (spc 0 0) srtS (by rfl) _ _ (by rfl) gs (by rfl) (spc 0 0) (by rfl) rfl (spc_one 0 0) _ r3 rfl ?_; intro w4 r4 s4))
    go_returns
    have S4 : Stp (fun x => w.heap.size ≤ x) w w4 := (Stp.of_below (bnext b1 b3 (Nat.le_refl _)) (fun x => w.heap.size ≤ x)).next s4 (fun x hx => .inl (by subst hx; have := b1.size; omega))
    refine ⟨?_, S4.below (Nat.le_refl _) (fun _ h => h)⟩
    rw [hE.out.1, hE.out.2]; rfl
set_option maxRecDepth 100000 in
set_option maxHeartbeats 1000000 in
theorem taken_any (p : Ld) (k i : Int) (w : World) (hk : (Lit.int .i64 k).wf = true) :
    Calls Try.prog 10 #[.agg p.cs.toArray, .int .i64 k, .int .i64 i] w fun e w' => e = .returned (.tuple #[.bool (mT p k i), .int .i64 (mE k i)]) ∧ Below w.heap.size w w' := by
  have hp := p.len
  by_cases h : plc k i
  · have hz := plc_z h
    have hl := s_le k
    obtain ⟨j, rfl⟩ := Int.eq_ofNat_of_zero_le hz.1
    rw [Int.toNat_natCast] at hz
    have hE : Hid (mE k j = 0 ∧ mT p k j = bitB (ints (mS p k)) j) := ⟨if_pos h, by rw [mT_part p h, Int.toNat_natCast]⟩
    have hs1 := spc_one (sA k) (sZ k)
    have H1 : Hid _ := fun w => mapOf_yes k j w hk h
    obtain ⟨_, hz1, hz2⟩ := hz
    clear h
    go_enter Try.func10, Try.ntmps10
    go_wp2_with (first
      | (refine at_box 23 54 arrL (by rfl) _ (by rfl) p.l (by rfl) hp ?_; intro g0 w0 a0 z0 r0 b0)
      | (go_at_call 27; refine (H1.out _).mono ?_; rintro e w1 ⟨rfl, b1⟩)
      | (refine at_newC 50 2 (spc 0 0) srtS (by rfl) (by rfl) ?_; intro gs w3 a3 z3 r3 b3)
      | (refine at_putC 50 2 (spc 0 0) srtS (by rfl) _ _ (by rfl) gs (by rfl) (spc (sA k) (sZ k)) (by rfl) rfl hs1 _ r3 rfl ?_; intro w4 r4 s4
         have rp : Row w4 g0 p.l := ((r0.later b1).later b3).step s4 (by have := r0.lt; have := b1.size; omega))
      | (refine at_getC 50 2 (spc 0 0) srtS (by rfl) _ (by rfl) gs (by rfl) _ r4 rfl ?_)
      | (refine at_getL (by rfl) _ (by rfl) g0 (by rfl) p rp ?_)
      | (go_at_call 29; refine (bits_any k _ _ p _ rfl rfl).mono ?_; rintro e w5 ⟨x5, c5, rfl, y5, b5⟩)
      | (go_at_call 28; refine (bit_ok _ _ _ _ j _ y5 hz1 (by omega)).mono ?_; rintro e w6 ⟨rfl, k6, rfl⟩))
    go_returns
    have S4 : Stp (fun x => w.heap.size ≤ x) w w4 := (Stp.of_below (bnext (bnext b0 b1 (Nat.le_refl _)) b3 (Nat.le_refl _)) (fun x => w.heap.size ≤ x)).next s4 (fun x hx => .inl (by subst hx; have := b0.size; have := b1.size; omega))
    have S5 := S4.next (Stp.of_below b5 (fun _ => False)) (fun _ h => h.elim)
    refine ⟨?_, bdrewN (S5.below (Nat.le_refl _) (fun _ h => h)) _⟩
    rw [hE.out.1, hE.out.2]; rfl
  · have hE : Hid (mE k i = 2 ∧ mT p k i = false) := ⟨if_neg h, mT_no p h⟩
    have H1 : Hid _ := fun w => mapOf_no k i w hk h
    clear h
    go_enter Try.func10, Try.ntmps10
    go_wp2_with (first
      | (refine at_box 23 54 arrL (by rfl) _ (by rfl) p.l (by rfl) hp ?_; intro g0 w0 a0 z0 r0 b0)
      | (go_at_call 27; refine (H1.out _).mono ?_; rintro e w1 ⟨rfl, b1⟩)
      | (refine at_newC 50 2 (spc 0 0) srtS (by rfl) (by rfl) ?_; intro gs w3 a3 z3 r3 b3)
      | (refine at_putC 50 2 (spc 0 0) srtS (by rfl) _ _ (by rfl) gs (by rfl) (spc 0 0) (by rfl) rfl (spc_one 0 0) _ r3 rfl ?_; intro w4 r4 s4))
    go_returns
    have S4 : Stp (fun x => w.heap.size ≤ x) w w4 := (Stp.of_below (bnext (bnext b0 b1 (Nat.le_refl _)) b3 (Nat.le_refl _)) (fun x => w.heap.size ≤ x)).next s4 (fun x hx => .inl (by subst hx; have := b0.size; have := b1.size; omega))
    refine ⟨?_, S4.below (Nat.le_refl _) (fun _ h => h)⟩
    rw [hE.out.1, hE.out.2]; rfl
end Go.Proofs.Ythanenbjfcndbaa
