/-
  What At and With of layer 11, and the document's, return, for every input: no statement is proved here.
-/
import Derived.Test.YtaahljjmofjdmaaInoD
import Derived.Test.YtaahljjmofjdmaaPtrM
namespace Go.Proofs.Ytaahljjmofjdmaa
open Go.ChangeShapes Go.WideShapes Go.ChangeAt Go.RowKit
set_option linter.unusedVariables false

theorem isPlace_any (k : Int) (w : World) : Calls Try.prog 22 #[.int .i64 k] w fun e w' => e = .returned (.bool (decide (isPl k))) ∧ w = w' := by
  by_cases h0 : 0 ≤ k
  · by_cases h1 : k < 27
    · rw [decide_eq_true (show isPl k from ⟨h0, by omega⟩)]
      go_enter Try.func22, Try.ntmps22
      go_wp2
      go_returns
      exact ⟨rfl, rfl⟩
    · rw [decide_eq_false (show ¬ isPl k from fun h => by have := h.2; omega)]
      go_enter Try.func22, Try.ntmps22
      go_wp2
      go_returns
      exact ⟨rfl, rfl⟩
  · rw [decide_eq_false (show ¬ isPl k from fun h => h0 h.1)]
    go_enter Try.func22, Try.ntmps22
    go_wp2
    go_returns
    exact ⟨rfl, rfl⟩
theorem pointer_any (p : Ld) (k : Nat) (w : World) (hk : k ≤ 26) :
    Calls Try.prog 23 #[.agg p.cs.toArray, .int .i64 (k : Int)] w fun e w' => e = .returned (.int .u16 ((pt p.l (2 * k)).toNat : Int)) ∧ Below w.heap.size w w' := by
  have hl := p.len
  have hm : IntKind.i64.wrap ((k : Int) * 2) = ((2 * k : Nat) : Int) := by rw [i64_small (by omega) (by omega)]; omega
  go_enter Try.func23, Try.ntmps23
  go_wp2_with (first
    | (refine at_box 23 54 arrL (by rfl) _ (by rfl) p.l (by rfl) hl ?_; intro g1 w1 a1 z1 r1 b1
       have y1 := r1.bs0 54 54 (by omega) (Nat.le_refl _) (by decide)
       rw [List.take_of_length_le (by omega)] at y1)
    | (go_at_call 29; refine (get16_w _ 54 54 p.l (2 * k) _ y1 (by omega)).mono ?_; rintro e w2 ⟨rfl, rfl⟩))
  go_returns
  exact ⟨rfl, b1⟩
theorem pat_any (p : Ld) (k : Int) (w : World) : Calls Try.prog 7 #[.agg p.cs.toArray, .int .i64 k] w fun e w' => e = .returned (.tuple #[.int .u16 ((pG p k).toNat : Int), .int .i64 (plE k)]) ∧ Below w.heap.size w w' := by
  have hl := p.len
  have H := isPlace_any k
  by_cases h : isPl k
  · rw [decide_eq_true h] at H
    have e1 : pG p k = pt p.l (2 * k.toNat) := by unfold pG; rw [if_pos h]
    have e2 : plE k = 0 := by unfold plE; rw [if_pos h]
    rw [e1, e2]
    obtain ⟨n, rfl⟩ : ∃ n : Nat, k = n := ⟨k.toNat, by omega⟩
    rw [Int.toNat_natCast]
    have hn : n ≤ 26 := by omega
    clear h e1 e2
    go_enter Try.func7, Try.ntmps7
    go_wp2_with (first
      | (refine at_box 23 54 arrL (by rfl) _ (by rfl) p.l (by rfl) hl ?_; intro g1 w1 a1 z1 r1 b1)
      | (go_at_call 22; refine (H _).mono ?_; rintro e w2 ⟨rfl, rfl⟩)
      | (refine at_getL (by rfl) _ (by rfl) g1 (by rfl) p r1 ?_)
      | (go_at_call 23; refine (pointer_any p n _ hn).mono ?_; rintro e w3 ⟨rfl, b3⟩))
    go_returns
    exact ⟨rfl, bnext b1 b3 (Nat.le_refl _)⟩
  · rw [decide_eq_false h] at H
    have e1 : pG p k = 0 := by unfold pG; rw [if_neg h]
    have e2 : plE k = 2 := by unfold plE; rw [if_neg h]
    rw [e1, e2]
    clear h e1 e2
    go_enter Try.func7, Try.ntmps7
    go_wp2_with (first
      | (refine at_box 23 54 arrL (by rfl) _ (by rfl) p.l (by rfl) hl ?_; intro g1 w1 a1 z1 r1 b1)
      | (go_at_call 22; refine (H _).mono ?_; rintro e w2 ⟨rfl, rfl⟩))
    go_returns
    exact ⟨rfl, b1⟩
theorem rpat_any (p : Ld) (k : Int) (w : World) : Calls Try.prog 8 #[.agg p.cs.toArray, .int .i64 k] w fun e w' => e = .returned (.tuple #[.int .u16 ((pG p k).toNat : Int), .int .i64 (plE k)]) ∧ Below w.heap.size w w' := by
  have hl := p.len
  by_cases h : isPl k
  · have e1 : pG p k = pt p.l (2 * k.toNat) := by unfold pG; rw [if_pos h]
    have e2 : plE k = 0 := by unfold plE; rw [if_pos h]
    rw [e1, e2]
    obtain ⟨n, rfl⟩ : ∃ n : Nat, k = n := ⟨k.toNat, by omega⟩
    rw [Int.toNat_natCast]
    have hn : n ≤ 26 := by omega
    have hm : IntKind.i64.wrap (2 * (n : Int)) = ((2 * n : Nat) : Int) := by rw [i64_small (by omega) (by omega)]; omega
    clear h e1 e2
    go_enter Try.func8, Try.ntmps8
    go_wp2_with (first
      | (refine at_box 23 54 arrL (by rfl) _ (by rfl) p.l (by rfl) hl ?_; intro g1 w1 a1 z1 r1 b1
         have y1 := r1.bs0 54 54 (by omega) (Nat.le_refl _) (by decide)
         rw [List.take_of_length_le (by omega)] at y1)
      | (go_at_call 24; refine (rget16_w _ 54 54 p.l (2 * n) _ y1 (by omega)).mono ?_; rintro e w2 ⟨rfl, rfl⟩))
    go_returns
    exact ⟨rfl, b1⟩
  · have e1 : pG p k = 0 := by unfold pG; rw [if_neg h]
    have e2 : plE k = 2 := by unfold plE; rw [if_neg h]
    rw [e1, e2]
    clear e1 e2
    by_cases h0 : k < 0
    · clear h
      go_enter Try.func8, Try.ntmps8
      go_wp2_with (first
        | (refine at_box 23 54 arrL (by rfl) _ (by rfl) p.l (by rfl) hl ?_; intro g1 w1 a1 z1 r1 b1))
      go_returns
      exact ⟨rfl, b1⟩
    · have h1 : 26 < k := by omega
      have h0' : 0 ≤ k := by omega
      clear h h0
      go_enter Try.func8, Try.ntmps8
      go_wp2_with (first
        | (refine at_box 23 54 arrL (by rfl) _ (by rfl) p.l (by rfl) hl ?_; intro g1 w1 a1 z1 r1 b1))
      go_returns
      exact ⟨rfl, b1⟩
end Go.Proofs.Ytaahljjmofjdmaa
