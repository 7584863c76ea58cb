/-
  What the numbers' functions of layer 1 and of its reference return, each for every input: no statement is proved here.
-/
import Derived.Test.YteceapdkgidenaaNumE
namespace Go.Proofs.Yteceapdkgidenaa
open Go.ChangeShapes Go.WideShapes Go.ChangeAt Go.RowKit
set_option linter.unusedVariables false

theorem get32_ok (a : Option Addr) (n c : Nat) (l : List Int) (k : Nat) (w : World) (hb : Bs w a n c l) (h : k + 4 ≤ n) :
    Calls Try.prog 59 #[.slice a n c, .int .i64 k] w fun e w' => e = .returned (.tuple #[.int .u32 (le4 l k), .int .i64 0]) ∧ w = w' := by
  go_enter Try.func59, Try.ntmps59
  go_wp2_with (go_at_call 65; refine (get4_ok a n c l k w hb h).mono ?_; rintro e w' ⟨rfl, rfl⟩)
  go_returns
  exact ⟨rfl, rfl⟩

theorem get32_no (a : Option Addr) (n c : Nat) (k : Int) (w : World) (hc : n ≤ 9223372036854775807) (h1 : -9223372036854775808 ≤ k) (h2 : k ≤ 9223372036854775807) (h : k < 0 ∨ (n : Int) - k < 4) :
    Calls Try.prog 59 #[.slice a n c, .int .i64 k] w fun e w' => e = .returned (.tuple #[.int .u32 0, .int .i64 7]) ∧ w = w' := by
  have H : Hid (k < 0 ∨ (n : Int) - k < 4) := h
  clear h
  go_enter Try.func59, Try.ntmps59
  go_wp2_with (go_at_call 65; refine (get_short a n c k 4 w hc h1 h2 H.out).mono ?_; rintro e w' ⟨rfl, rfl⟩)
  go_returns
  exact ⟨rfl, rfl⟩

theorem rget32_ok (a : Option Addr) (n c : Nat) (l : List Int) (k : Nat) (w : World) (hb : Bs w a n c l) (h : k + 4 ≤ n) :
    Calls Try.prog 43 #[.slice a n c, .int .i64 k] w fun e w' => e = .returned (.tuple #[.int .u32 (le4 l k), .int .i64 0]) ∧ w = w' := by
  have hr := le4_range hb k
  go_enter Try.func43, Try.ntmps43
  go_wp2_with (go_at_call 55; refine (number4_ok a n c l k w hb h).mono ?_; rintro e w' ⟨rfl, rfl⟩)
  go_returns
  refine ⟨?_, rfl⟩
  exact ret_tup2 (by first | rfl | omega | (rw [IntKind.wrap_u32']; omega)) rfl

theorem rget32_no (a : Option Addr) (n c : Nat) (k : Int) (w : World) (hc : n ≤ 9223372036854775807) (h1 : -9223372036854775808 ≤ k) (h2 : k ≤ 9223372036854775807) (h : k < 0 ∨ (n : Int) - k < 4) :
    Calls Try.prog 43 #[.slice a n c, .int .i64 k] w fun e w' => e = .returned (.tuple #[.int .u32 0, .int .i64 7]) ∧ w = w' := by
  have H : Hid (k < 0 ∨ (n : Int) - k < 4) := h
  clear h
  go_enter Try.func43, Try.ntmps43
  go_wp2_with (go_at_call 55; refine (number_short a n c k 4 w hc h1 h2 (by decide) H.out).mono ?_; rintro e w' ⟨rfl, rfl⟩)
  go_returns
  exact ⟨rfl, rfl⟩

theorem get32_zero (a : Option Addr) (n c : Nat) (l : List Int) (w : World) (hb : Bs w a n c l) (h : 4 ≤ n) :
    Calls Try.prog 59 #[.slice a n c, .int .i64 0] w fun e w' => e = .returned (.tuple #[.int .u32 (le4 l 0), .int .i64 0]) ∧ w = w' := get32_ok a n c l 0 w hb (by omega)
theorem rput32_bs (x : Int) (w : World) (h0 : 0 ≤ x) (h1 : x ≤ 4294967295) :
    Calls Try.prog 47 #[.int .u32 x] w fun e w' => ∃ a c, e = .returned (.slice a 4 c) ∧ Bs w' a 4 c [x % 256, x / 256 % 256, x / 65536 % 256, x / 16777216] ∧ Below w.heap.size w w' := by
  refine (rput32_any x w h0 h1).mono ?_
  rintro e w' ⟨rfl, rfl⟩
  exact ⟨_, _, rfl, bs_made w _ [x % 256, x / 256 % 256, x / 65536 % 256, x / 16777216] (four_range (by omega) (by omega) (by omega) (by omega)) (show 4 ≤ maxLen by decide), by go_grown⟩
end Go.Proofs.Yteceapdkgidenaa
