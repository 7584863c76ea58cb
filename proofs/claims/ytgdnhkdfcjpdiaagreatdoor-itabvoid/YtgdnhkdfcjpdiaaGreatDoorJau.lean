/-
  Texts of my own, joined: no statement is proved here.
-/
import Derived.Test.YtgdnhkdfcjpdiaaGreatDoorJat
set_option linter.unusedSimpArgs false
set_option linter.unusedVariables false
namespace Go.Proofs.YtgdnhkdfcjpdiaaGreatDoor
open Go.ChangeShapes Go.WideShapes Go.ChangeAt Go.RowKit
set_option maxRecDepth 100000
theorem and_all : ∀ a, a < 256 → ∀ k, k < 8 → ((a &&& 2 ^ k) != 0) = a.testBit k := by decide +kernel
theorem or_lt : ∀ a, a < 256 → ∀ k, k < 8 → a ||| 2 ^ k < 256 := by decide +kernel
theorem pow_lt8 {k : Nat} (h : k < 8) : 2 ^ k < 256 := Nat.lt_of_lt_of_le (Nat.pow_lt_pow_right (by decide) h) (by decide)
theorem and_nat {a b : Nat} (ha : a < 4294967296) (hb : b < 4294967296) : bits .and .u32 (a : Int) (b : Int) = ((a &&& b : Nat) : Int) := by
  rw [u32_and (a : Int) (b : Int) (by omega) (by omega) (by omega) (by omega), Int.toNat_natCast, Int.toNat_natCast]
theorem or_nat {a b : Nat} (ha : a < 4294967296) (hb : b < 4294967296) : bits .or .u32 (a : Int) (b : Int) = ((a ||| b : Nat) : Int) := by
  rw [u32_or (a : Int) (b : Int) (by omega) (by omega) (by omega) (by omega), Int.toNat_natCast, Int.toNat_natCast]
theorem marked_any (g n : Nat) (x : WS) (s : Option Nat) (w : World) (h : Ww w g x s) (hn : n < 8) :
    Calls Tryz.prog 97 #[.pointer (some ⟨g, 0, none⟩), .int .i64 n] w fun e w' => e = .returned (.bool (x.says.testBit n)) ∧ Below w.heap.size w w' := by
  have q2 : decide (0 ≤ (n : Int) ∧ (n : Int) < 8) = true := by simp; omega
  have hb := bit_any n hn
  have hz := and_nat (a := x.says) (b := 2 ^ n) (Nat.lt_trans (says_lt x) (by decide)) (Nat.lt_trans (pow_lt8 hn) (by decide))
  rw [← and_all _ (says_lt x) n hn]
  generalize 2 ^ n = z at *
  go_enter Tryz.func97, Tryz.ntmps97
  go_wp2_with (first
    | (go_at_call 98; refine (nsays_any g x s _ h).mono ?_; rintro e u ⟨rfl, b1⟩)
    | (go_at_call 96; refine (isGroup_any _ _).mono ?_; rintro e u' ⟨rfl, rfl⟩; rw [q2])
    | (go_at_call 99; refine (hb _).mono ?_; rintro e u' ⟨rfl, rfl⟩))
  go_returns
  refine ⟨ret_bool ?_, b1⟩
  generalize x.says &&& z = y
  cases y
  · rfl
  · simp; omega
theorem keep_any (g gr : Nat) (x : WS) (s : Option Nat) (p : PS) (w : World) (h : Ww w g x s) (hp : Sp w s p) (ht : Tab w) (ok : p.okk 3) (hgr : gr < 4294967296) (hs : s ≠ some g) (hsl : ∀ y ∈ s.toList, y < w.heap.size) :
    Calls Tryz.prog 46 #[.pointer (some ⟨g, 0, none⟩), .int .u32 gr] w fun e w' => e = .returned (.int .i64 (turnErr p)) ∧ Step (g :: s.toList) w w' ∧ Ww w' g (x.turn (gr % 256) p) s ∧ Sp w' s p.turn := by
  have q := and255 hgr
  have q2 : gr % 256 < 4294967296 := by omega
  generalize gr % 256 = gm at *
  go_enter Tryz.func46, Tryz.ntmps46
  go_wp2_with (first
    | (go_at_call 75; refine (all_anyN _).mono ?_; rintro e w2 ⟨rfl, rfl⟩)
    | (go_at_call 74; refine (turnTo_any g gm x s p _ h hp ht ok q2 hs hsl).mono ?_; rintro e w2 ⟨rfl, k2, h2, p2⟩))
  go_returns
  exact ⟨rfl, k2, h2, p2⟩
theorem clear_any (g : Nat) (x : WS) (s : Option Nat) (p : PS) (w : World) (h : Ww w g x s) (hp : Sp w s p) (ht : Tab w) (ok : p.okk 3) (hs : s ≠ some g) (hsl : ∀ y ∈ s.toList, y < w.heap.size) :
    Calls Tryz.prog 26 #[.pointer (some ⟨g, 0, none⟩)] w fun e w' => e = .returned (.int .i64 (turnErr p)) ∧ Step (g :: s.toList) w w' ∧ Ww w' g (x.turn 0 p) s ∧ Sp w' s p.turn := by
  go_enter Tryz.func26, Tryz.ntmps26
  go_wp2_with (first | (go_at_call 46; refine (keep_any g 0 x s p _ h hp ht ok (by omega) hs hsl).mono ?_; rintro e w2 ⟨rfl, k2, h2, p2⟩))
  go_returns
  exact ⟨rfl, k2, h2, p2⟩
def WS.mark (x : WS) (n : Nat) (p : PS) : WS := if x.says.testBit n then x else x.turn (x.says ||| 2 ^ n) p
def markErr (x : WS) (n : Nat) (p : PS) : Int := if x.says.testBit n then 0 else turnErr p
def markP (x : WS) (n : Nat) (p : PS) : PS := if x.says.testBit n then p else p.turn
theorem mark_any (g n : Nat) (x : WS) (s : Option Nat) (p : PS) (w : World) (h : Ww w g x s) (hp : Sp w s p) (ht : Tab w) (ok : p.okk 3) (hn : n < 8) (hs : s ≠ some g) (hsl : ∀ y ∈ s.toList, y < w.heap.size) :
    Calls Tryz.prog 72 #[.pointer (some ⟨g, 0, none⟩), .int .i64 n] w fun e w' => e = .returned (.int .i64 (markErr x n p)) ∧ Step (g :: s.toList) w w' ∧ Ww w' g (x.mark n p) s ∧ Sp w' s (markP x n p) := by
  have q2 : decide (0 ≤ (n : Int) ∧ (n : Int) < 8) = true := by simp; omega
  have hb := bit_any n hn
  have hz := or_nat (a := x.says) (b := 2 ^ n) (Nat.lt_trans (says_lt x) (by decide)) (Nat.lt_trans (pow_lt8 hn) (by decide))
  have hl : x.says ||| 2 ^ n < 4294967296 := Nat.lt_trans (or_lt _ (says_lt x) n hn) (by decide)
  unfold markErr WS.mark markP
  cases hm : x.says.testBit n
  · simp only [Bool.false_eq_true, if_false]
    generalize 2 ^ n = z at *
    go_enter Tryz.func72, Tryz.ntmps72
    go_wp2_with (first
      | (go_at_call 96; refine (isGroup_any _ _).mono ?_; rintro e u' ⟨rfl, rfl⟩; rw [q2])
      | (go_at_call 97; refine (marked_any g n x s _ h hn).mono ?_; rintro e u1 ⟨rfl, b1⟩; rw [hm])
      | (go_at_call 98; refine (nsays_any g x s _ (h.later b1)).mono ?_; rintro e u2 ⟨rfl, b2⟩)
      | (go_at_call 99; refine (hb _).mono ?_; rintro e u' ⟨rfl, rfl⟩; have k2 : Below w.heap.size w u2 := bnext b1 b2 (Nat.le_refl _))
      | (go_at_call 74; refine (turnTo_any g (x.says ||| z) x s p _ (h.later k2) (hp.step (step_below k2 []) (by simp)) (ht.later k2) ok hl hs (fun y hy => Nat.lt_of_lt_of_le (hsl y hy) k2.size)).mono ?_; rintro e w2 ⟨rfl, k3, h3, p3⟩))
    go_returns
    exact ⟨rfl, (step_below k2 _).trans k3, h3, p3⟩
  · simp only [if_true]
    go_enter Tryz.func72, Tryz.ntmps72
    go_wp2_with (first
      | (go_at_call 96; refine (isGroup_any _ _).mono ?_; rintro e u' ⟨rfl, rfl⟩; rw [q2])
      | (go_at_call 97; refine (marked_any g n x s _ h hn).mono ?_; rintro e u1 ⟨rfl, b1⟩; rw [hm]))
    go_returns
    exact ⟨rfl, step_below b1 _, h.later b1, hp.step (step_below b1 []) (by simp)⟩
end Go.Proofs.YtgdnhkdfcjpdiaaGreatDoor
