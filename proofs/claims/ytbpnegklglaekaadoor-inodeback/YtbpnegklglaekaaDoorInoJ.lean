/-
  What the document's field and Offset of layer 10 return, for every input: no statement is proved here.
-/
import Derived.Test.YtbpnegklglaekaaDoorInoI
import Derived.BigQuiet
namespace Go.Proofs.YtbpnegklglaekaaDoor
open Go.ChangeShapes Go.WideShapes Go.ChangeAt Go.RowKit
set_option linter.unusedVariables false

set_option maxRecDepth 100000 in
set_option maxHeartbeats 2000000 in
theorem rfield_ok (f : Nat) (w : World) (hf : f ≤ 9) :
    Calls Tryd.prog 35 #[.int .i64 (f : Int)] w fun e w' => e = .returned (.tuple #[.int .i64 (fAt f : Nat), .int .i64 (fSz f : Nat), .bool true]) ∧ Below w.heap.size w w' := by
  have : f = 0 ∨ f = 1 ∨ f = 2 ∨ f = 3 ∨ f = 4 ∨ f = 5 ∨ f = 6 ∨ f = 7 ∨ f = 8 ∨ f = 9 := by omega
  rcases this with rfl | rfl | rfl | rfl | rfl | rfl | rfl | rfl | rfl | rfl
  all_goals
    clear hf
    go_enter Tryd.func35, Tryd.ntmps35
    go_wp2
    go_quiet (fail)
    go_wp2_with fail
    go_returns
    exact ⟨rfl, bdrewN (by go_grown) _⟩
set_option maxRecDepth 100000 in
theorem rfield_no (f : Int) (w : World) (hf : ¬ isF f) :
    Calls Tryd.prog 35 #[.int .i64 f] w fun e w' => e = .returned (.tuple #[.int .i64 0, .int .i64 0, .bool false]) ∧ Below w.heap.size w w' := by
  by_cases h0 : f < 0
  · go_enter Tryd.func35, Tryd.ntmps35
    go_wp2
    go_returns
    exact ⟨rfl, by go_grown⟩
  · have h9 : f > 9 := by unfold isF at hf; omega
    clear hf
    go_enter Tryd.func35, Tryd.ntmps35
    go_wp2
    go_returns
    exact ⟨rfl, by go_grown⟩
theorem roff_ways (k f : Int) : (isF f ∧ k < 0 ∧ oA k f = 0 ∧ oZ k f = 0 ∧ oE k f = 2) ∨ (isF f ∧ ¬ k < 0 ∧ k > 2 ∧ oA k f = 0 ∧ oZ k f = 0 ∧ oE k f = 2) ∨ (isF f ∧ ¬ k < 0 ∧ ¬ k > 2 ∧ oA k f = 18 * k + fAt f.toNat ∧ oZ k f = fSz f.toNat ∧ oE k f = 0) ∨ (¬ isF f ∧ oA k f = 0 ∧ oZ k f = 0 ∧ oE k f = 2) := by
  unfold oA oZ oE
  by_cases hf : isF f
  · by_cases h0 : k < 0
    · have h : ¬ (isSl k ∧ isF f) := fun e => by have := e.1.1; omega
      rw [if_neg h, if_neg h, if_neg h]
      exact .inl ⟨hf, h0, rfl, rfl, rfl⟩
    · by_cases h2 : k > 2
      · have h : ¬ (isSl k ∧ isF f) := fun e => by have := e.1.2; omega
        rw [if_neg h, if_neg h, if_neg h]
        exact .inr (.inl ⟨hf, h0, h2, rfl, rfl, rfl⟩)
      · have h : isSl k ∧ isF f := ⟨⟨by omega, by omega⟩, hf⟩
        rw [if_pos h, if_pos h, if_pos h]
        exact .inr (.inr (.inl ⟨hf, h0, h2, rfl, rfl, rfl⟩))
  · have h : ¬ (isSl k ∧ isF f) := fun e => hf e.2
    rw [if_neg h, if_neg h, if_neg h]
    exact .inr (.inr (.inr ⟨hf, rfl, rfl, rfl⟩))
set_option maxRecDepth 100000 in
theorem rfield_yes (f : Int) (w : World) (hf : isF f) :
    Calls Tryd.prog 35 #[.int .i64 f] w fun e w' => e = .returned (.tuple #[.int .i64 (fAt f.toNat : Nat), .int .i64 (fSz f.toNat : Nat), .bool true]) ∧ Below w.heap.size w w' := by
  obtain ⟨f', rfl⟩ := Int.eq_ofNat_of_zero_le hf.1
  exact rfield_ok f' w (by have := hf.2; omega)
set_option maxRecDepth 100000 in
theorem roffset_any (k f : Int) (w : World) :
    Calls Tryd.prog 21 #[.int .i64 k, .int .i64 f] w fun e w' => e = .returned (.tuple #[.int .i64 (oA k f), .int .i64 (oZ k f), .int .i64 (oE k f)]) ∧ Below w.heap.size w w' := by
  rcases roff_ways k f with ⟨hf, h0, e1, e2, e3⟩ | ⟨hf, h0, h2, e1, e2, e3⟩ | ⟨hf, h0, h2, e1, e2, e3⟩ | ⟨hf, e1, e2, e3⟩
  · have H := fun w => rfield_yes f w hf
    rw [e1, e2, e3]
    clear hf e1 e2 e3
    go_enter Tryd.func21, Tryd.ntmps21
    go_wp2_with (go_at_call 35; refine (H _).mono ?_; rintro e w1 ⟨rfl, b1⟩)
    go_returns
    exact ⟨rfl, b1⟩
  · have H := fun w => rfield_yes f w hf
    rw [e1, e2, e3]
    clear hf e1 e2 e3
    go_enter Tryd.func21, Tryd.ntmps21
    go_wp2_with (go_at_call 35; refine (H _).mono ?_; rintro e w1 ⟨rfl, b1⟩)
    go_returns
    exact ⟨rfl, b1⟩
  · have H := fun w => rfield_yes f w hf
    have hle := f_le f.toNat (by have := hf.2; omega)
    rw [e1, e2, e3]
    clear hf e1 e2 e3
    generalize fAt f.toNat = A at *
    generalize fSz f.toNat = Z at *
    go_enter Tryd.func21, Tryd.ntmps21
    go_wp2_with (go_at_call 35; refine (H _).mono ?_; rintro e w1 ⟨rfl, b1⟩)
    go_returns
    exact ⟨rfl, b1⟩
  · have H := fun w => rfield_no f w hf
    rw [e1, e2, e3]
    clear hf e1 e2 e3
    by_cases h0 : k < 0
    · go_enter Tryd.func21, Tryd.ntmps21
      go_wp2_with (go_at_call 35; refine (H _).mono ?_; rintro e w1 ⟨rfl, b1⟩)
      go_returns
      exact ⟨rfl, b1⟩
    · by_cases h2 : k > 2
      · go_enter Tryd.func21, Tryd.ntmps21
        go_wp2_with (go_at_call 35; refine (H _).mono ?_; rintro e w1 ⟨rfl, b1⟩)
        go_returns
        exact ⟨rfl, b1⟩
      · go_enter Tryd.func21, Tryd.ntmps21
        go_wp2_with (go_at_call 35; refine (H _).mono ?_; rintro e w1 ⟨rfl, b1⟩)
        go_returns
        exact ⟨rfl, b1⟩
end Go.Proofs.YtbpnegklglaekaaDoor
