/-
  What the numbers' functions of layer 1 and of its reference return, each for every input: no statement is proved here.
-/
import Derived.Test.YtbmfoefapbakmaaNumE
namespace Go.Proofs.Ytbmfoefapbakmaa
open Go.ChangeShapes Go.WideShapes Go.ChangeAt Go.RowKit
set_option linter.unusedVariables false

theorem get16_ok (a : Option Addr) (n c : Nat) (l : List Int) (k : Nat) (w : World) (hb : Bs w a n c l) (h : k + 2 ≤ n) :
    Calls Try.prog 40 #[.slice a n c, .int .i64 k] w fun e w' => e = .returned (.tuple #[.int .u16 (le2 l k), .int .i64 0]) ∧ w = w' := by
  have hr := le2_range hb k
  go_enter Try.func40, Try.ntmps40
  go_wp2_with (go_at_call 41; refine (get2_ok a n c l k w hb h).mono ?_; rintro e w' ⟨rfl, rfl⟩)
  go_returns
  refine ⟨?_, rfl⟩
  exact ret_tup2 (by first | rfl | omega | (rw [IntKind.wrap_u16]; omega)) rfl

theorem get16_no (a : Option Addr) (n c : Nat) (k : Int) (w : World) (hc : n ≤ 9223372036854775807) (h1 : -9223372036854775808 ≤ k) (h2 : k ≤ 9223372036854775807) (h : k < 0 ∨ (n : Int) - k < 2) :
    Calls Try.prog 40 #[.slice a n c, .int .i64 k] w fun e w' => e = .returned (.tuple #[.int .u16 0, .int .i64 7]) ∧ w = w' := by
  have H : Hid (k < 0 ∨ (n : Int) - k < 2) := h
  clear h
  go_enter Try.func40, Try.ntmps40
  go_wp2_with (go_at_call 41; refine (get_short a n c k 2 w hc h1 h2 H.out).mono ?_; rintro e w' ⟨rfl, rfl⟩)
  go_returns
  exact ⟨rfl, rfl⟩

theorem rget16_ok (a : Option Addr) (n c : Nat) (l : List Int) (k : Nat) (w : World) (hb : Bs w a n c l) (h : k + 2 ≤ n) :
    Calls Try.prog 35 #[.slice a n c, .int .i64 k] w fun e w' => e = .returned (.tuple #[.int .u16 (le2 l k), .int .i64 0]) ∧ w = w' := by
  have hr := le2_range hb k
  go_enter Try.func35, Try.ntmps35
  go_wp2_with (go_at_call 39; refine (number2_ok a n c l k w hb h).mono ?_; rintro e w' ⟨rfl, rfl⟩)
  go_returns
  refine ⟨?_, rfl⟩
  exact ret_tup2 (by first | rfl | omega | (rw [IntKind.wrap_u16]; omega)) rfl

theorem rget16_no (a : Option Addr) (n c : Nat) (k : Int) (w : World) (hc : n ≤ 9223372036854775807) (h1 : -9223372036854775808 ≤ k) (h2 : k ≤ 9223372036854775807) (h : k < 0 ∨ (n : Int) - k < 2) :
    Calls Try.prog 35 #[.slice a n c, .int .i64 k] w fun e w' => e = .returned (.tuple #[.int .u16 0, .int .i64 7]) ∧ w = w' := by
  have H : Hid (k < 0 ∨ (n : Int) - k < 2) := h
  clear h
  go_enter Try.func35, Try.ntmps35
  go_wp2_with (go_at_call 39; refine (number_short a n c k 2 w hc h1 h2 (by decide) H.out).mono ?_; rintro e w' ⟨rfl, rfl⟩)
  go_returns
  exact ⟨rfl, rfl⟩

theorem get16_zero (a : Option Addr) (n c : Nat) (l : List Int) (w : World) (hb : Bs w a n c l) (h : 2 ≤ n) :
    Calls Try.prog 40 #[.slice a n c, .int .i64 0] w fun e w' => e = .returned (.tuple #[.int .u16 (le2 l 0), .int .i64 0]) ∧ w = w' := get16_ok a n c l 0 w hb (by omega)
theorem rput16_bs (x : Int) (w : World) (h0 : 0 ≤ x) (h1 : x ≤ 65535) :
    Calls Try.prog 30 #[.int .u16 x] w fun e w' => ∃ a c, e = .returned (.slice a 2 c) ∧ Bs w' a 2 c [x % 256, x / 256] ∧ Below w.heap.size w w' := by
  refine (rput16_any x w h0 h1).mono ?_
  rintro e w' ⟨rfl, rfl⟩
  exact ⟨_, _, rfl, bs_made w _ [x % 256, x / 256] (two_range (by omega) (by omega)) (show 2 ≤ maxLen by decide), by go_grown⟩
theorem sameBytes_yes (a a' : Option Addr) (n c n' c' : Nat) (l : List Int) (w : World) (hb : Bs w a n c l) (hb' : Bs w a' n' c' l) :
    Calls Try.prog 10 #[.slice a n c, .slice a' n' c'] w fun e w' => e = .returned (.bool true) ∧ w = w' := by
  refine (sameBytes_any a a' n c n' c' l l w hb hb').mono ?_
  rintro e w' ⟨rfl, rfl⟩
  exact ⟨by simp, rfl⟩

theorem works1 (w : World) (g : Nat) (hg : w.heap.size = g) : Calls Try.prog 40 #[.slice (some ⟨g, 0, none⟩) 2 2, .int .i64 0] (w.alloc (.cells #[.int .u8 1, .int .u8 2] 5))
    fun e w' => e = .returned (.tuple #[.int .u16 513, .int .i64 0]) ∧ w.alloc (.cells #[.int .u8 1, .int .u8 2] 5) = w' := by
  subst hg; exact get16_ok _ 2 2 [1, 2] 0 _ (bs_made w 5 [1, 2] (by decide) (by decide)) (by decide)
theorem works4 (a : Option Addr) (c : Nat) (w : World) (g : Nat) (hg : w.heap.size = g) (hb : Bs w a 2 c [0, 2]) : Calls Try.prog 10 #[.slice a 2 c, .slice (some ⟨g, 0, none⟩) 2 2] (w.alloc (.cells #[.int .u8 0, .int .u8 2] 5))
    fun e w' => e = .returned (.bool true) ∧ w.alloc (.cells #[.int .u8 0, .int .u8 2] 5) = w' := by
  subst hg; exact sameBytes_any a _ 2 c 2 2 [0, 2] [0, 2] _ (hb.later ((Below.refl _ w).alloc (Nat.le_refl _) _)) (bs_made w 5 [0, 2] (by decide) (by decide))

end Go.Proofs.Ytbmfoefapbakmaa
