/-
  What the small functions of layer 10, and the document's, return, for every input: no statement is proved here.
-/
import Derived.Test.YtbpnegklglaekaaDoorInoA
namespace Go.Proofs.YtbpnegklglaekaaDoor
open Go.ChangeShapes Go.WideShapes Go.ChangeAt Go.RowKit
set_option linter.unusedVariables false

theorem isSlot_any (k : Int) (w : World) : Calls Tryd.prog 33 #[.int .i64 k] w fun e w' => e = .returned (.bool (decide (isSl k))) ∧ w = w' := by
  by_cases h0 : 0 ≤ k
  · by_cases h1 : k < 3
    · rw [decide_eq_true (show isSl k from ⟨h0, by omega⟩)]
      go_enter Tryd.func33, Tryd.ntmps33
      go_wp2
      go_returns
      exact ⟨rfl, rfl⟩
    · rw [decide_eq_false (show ¬ isSl k from fun h => by have := h.2; omega)]
      go_enter Tryd.func33, Tryd.ntmps33
      go_wp2
      go_returns
      exact ⟨rfl, rfl⟩
  · rw [decide_eq_false (show ¬ isSl k from fun h => h0 h.1)]
    go_enter Tryd.func33, Tryd.ntmps33
    go_wp2
    go_returns
    exact ⟨rfl, rfl⟩
theorem isField_any (k : Int) (w : World) : Calls Tryd.prog 34 #[.int .i64 k] w fun e w' => e = .returned (.bool (decide (isF k))) ∧ w = w' := by
  by_cases h0 : 0 ≤ k
  · by_cases h1 : k < 10
    · rw [decide_eq_true (show isF k from ⟨h0, by omega⟩)]
      go_enter Tryd.func34, Tryd.ntmps34
      go_wp2
      go_returns
      exact ⟨rfl, rfl⟩
    · rw [decide_eq_false (show ¬ isF k from fun h => by have := h.2; omega)]
      go_enter Tryd.func34, Tryd.ntmps34
      go_wp2
      go_returns
      exact ⟨rfl, rfl⟩
  · rw [decide_eq_false (show ¬ isF k from fun h => h0 h.1)]
    go_enter Tryd.func34, Tryd.ntmps34
    go_wp2
    go_returns
    exact ⟨rfl, rfl⟩
/-- Cells of an inode in its block. -/
theorem Cs.ino {w : World} {g : Nat} {x : Ino} (h : Cs w g x.cs) : w.cell? ⟨g, 0, none⟩ = some (.int .u8 (x.k.toNat : Int)) ∧ w.cell? ⟨g, 1, none⟩ = some (.int .u8 (x.n.toNat : Int)) ∧ w.cell? ⟨g, 2, none⟩ = some (.int .u32 (x.s.toNat : Int)) :=
  ⟨h.cell 0 _ rfl, h.cell 1 _ rfl, h.cell 2 _ rfl⟩
abbrev Ino.lim (x : Ino) : Prop := x.n.toNat ≤ 200 ∧ x.s.toNat ≤ 48640
def Ino.limB (x : Ino) : Bool := decide x.lim
def Ino.mayB (x : Ino) : Bool := decide x.may
theorem lim_eq (x : Ino) : decide x.lim = x.limB := rfl
theorem same_eq (x y : Ino) : decide (x.same y) = x.sameB y := rfl
theorem may_eq (x : Ino) : decide x.may = x.mayB := rfl
theorem limits_any (x : Ino) (w : World) : Calls Tryd.prog 37 #[.agg x.cs.toArray] w fun e w' => e = .returned (.bool x.limB) ∧ Below w.heap.size w w' := by
  rw [← lim_eq]
  by_cases h1 : x.n.toNat ≤ 200
  · have e : decide x.lim = decide ((x.s.toNat : Int) ≤ 48640) := by
      rw [Bool.eq_iff_iff, decide_eq_true_eq, decide_eq_true_eq]; unfold Ino.lim; omega
    rw [e]
    clear e
    go_enter Tryd.func37, Tryd.ntmps37
    go_wp2_with (refine at_boxI (by rfl) _ (by rfl) x (by rfl) ?_; intro g1 w1 a1 z1 r1 b1; obtain ⟨y0, y1, y2⟩ := r1.ino)
    go_returns
    exact ⟨rfl, b1⟩
  · rw [decide_eq_false (show ¬ x.lim from fun h => h1 h.1)]
    go_enter Tryd.func37, Tryd.ntmps37
    go_wp2_with (refine at_boxI (by rfl) _ (by rfl) x (by rfl) ?_; intro g1 w1 a1 z1 r1 b1; obtain ⟨y0, y1, y2⟩ := r1.ino)
    go_returns
    exact ⟨rfl, b1⟩
theorem may_ways0 (x : Ino) : ((x.k.toNat : Int) = 0 ∧ decide x.may = decide (x.same Ino.zero)) ∨ ((x.k.toNat : Int) = 1 ∧ decide x.may = decide x.lim) ∨
    ((x.k.toNat : Int) = 2 ∧ decide x.lim = true ∧ decide x.may = decide ((x.s.toNat : Int) % 64 = 0)) ∨ ((x.k.toNat : Int) = 2 ∧ decide x.lim = false ∧ decide x.may = false) ∨ (¬ (x.k.toNat : Int) = 0 ∧ ¬ (x.k.toNat : Int) = 1 ∧ ¬ (x.k.toNat : Int) = 2 ∧ decide x.may = false) := by
  have hz : x.same Ino.zero ↔ x.nil := Iff.rfl
  by_cases h0 : x.k.toNat = 0
  · refine .inl ⟨by omega, ?_⟩
    rw [Bool.eq_iff_iff, decide_eq_true_eq, decide_eq_true_eq, hz]
    unfold Ino.may
    constructor
    · rintro (⟨_, h⟩ | ⟨h, _⟩ | ⟨h, _⟩)
      · exact h
      · omega
      · omega
    · exact fun h => .inl ⟨h0, h⟩
  · by_cases h1 : x.k.toNat = 1
    · refine .inr (.inl ⟨by omega, ?_⟩)
      rw [Bool.eq_iff_iff, decide_eq_true_eq, decide_eq_true_eq]
      unfold Ino.may Ino.lim
      constructor
      · rintro (⟨h, _⟩ | ⟨_, h⟩ | ⟨h, _⟩)
        · omega
        · exact h
        · omega
      · exact fun h => .inr (.inl ⟨h1, h⟩)
    · by_cases h2 : x.k.toNat = 2
      · by_cases hl : x.lim
        · refine .inr (.inr (.inl ⟨by omega, decide_eq_true hl, ?_⟩))
          rw [Bool.eq_iff_iff, decide_eq_true_eq, decide_eq_true_eq]
          unfold Ino.may
          constructor
          · rintro (⟨h, _⟩ | ⟨h, _⟩ | ⟨_, _, _, h⟩) <;> omega
          · exact fun h => .inr (.inr ⟨h2, hl.1, hl.2, by omega⟩)
        · refine .inr (.inr (.inr (.inl ⟨by omega, decide_eq_false hl, decide_eq_false ?_⟩)))
          rintro (⟨h, _⟩ | ⟨h, _⟩ | ⟨_, h3, h4, _⟩)
          · omega
          · omega
          · exact hl ⟨h3, h4⟩
      · refine .inr (.inr (.inr (.inr ⟨by omega, by omega, by omega, decide_eq_false ?_⟩)))
        rintro (⟨h, _⟩ | ⟨h, _⟩ | ⟨h, _⟩) <;> omega
theorem may_ways (x : Ino) : ((x.k.toNat : Int) = 0 ∧ x.mayB = x.sameB Ino.zero) ∨ ((x.k.toNat : Int) = 1 ∧ x.mayB = x.limB) ∨
    ((x.k.toNat : Int) = 2 ∧ x.limB = true ∧ x.mayB = decide ((x.s.toNat : Int) % 64 = 0)) ∨ ((x.k.toNat : Int) = 2 ∧ x.limB = false ∧ x.mayB = false) ∨ (¬ (x.k.toNat : Int) = 0 ∧ ¬ (x.k.toNat : Int) = 1 ∧ ¬ (x.k.toNat : Int) = 2 ∧ x.mayB = false) := may_ways0 x
set_option maxRecDepth 100000 in
theorem mayBe_any (x : Ino) (w : World) : Calls Tryd.prog 26 #[.agg x.cs.toArray] w fun e w' => e = .returned (.bool x.mayB) ∧ Below w.heap.size w w' := by
  have hlim := limits_any x
  have heq := eqI x Ino.zero
  have hg := guardI
  rcases may_ways x with ⟨hk, hm⟩ | ⟨hk, hm⟩ | ⟨hk, hl, hm⟩ | ⟨hk, hl, hm⟩ | ⟨h0, h1, h2, hm⟩
  all_goals
    rw [hm]
    clear hm
    try rw [hl] at hlim
    try clear hl
    go_enter Tryd.func26, Tryd.ntmps26
    go_wp2_with (first
      | (refine at_boxI (by rfl) _ (by rfl) x (by rfl) ?_; intro g1 w1 a1 z1 r1 b1; obtain ⟨y0, y1, y2⟩ := r1.ino)
      | (refine at_getI (by rfl) _ (by rfl) g1 (by rfl) x r1 ?_)
      | (refine at_bld0 (by rfl) (by rfl) ?_)
      | (go_at_call 37; refine (hlim _).mono ?_; rintro e w2 ⟨rfl, b2⟩; obtain ⟨y0, y1, y2⟩ := (r1.later b2).ino))
    go_returns
    first
      | exact ⟨rfl, bnext b1 b2 (Nat.le_refl _)⟩
      | exact ⟨rfl, b1⟩
end Go.Proofs.YtbpnegklglaekaaDoor
