/-
  What the numbers' functions of layer 1 and of its reference return, each for every input: no statement is proved here.
-/
import Derived.Test.YtdadajpaobngaaaNumE
namespace Go.Proofs.Ytdadajpaobngaaa
open Go.ChangeShapes Go.WideShapes Go.ChangeAt Go.RowKit
set_option linter.unusedVariables false

theorem get32_ok (a : Option Addr) (n c : Nat) (l : List Int) (k : Nat) (w : World) (hb : Bs w a n c l) (h : k + 4 ≤ n) :
    Calls Try.prog 37 #[.slice a n c, .int .i64 k] w fun e w' => e = .returned (.tuple #[.int .u32 (le4 l k), .int .i64 0]) ∧ w = w' := by
  go_enter Try.func37, Try.ntmps37
  go_wp2_with (go_at_call 40; refine (get4_ok a n c l k w hb h).mono ?_; rintro e w' ⟨rfl, rfl⟩)
  go_returns
  exact ⟨rfl, rfl⟩

theorem get32_no (a : Option Addr) (n c : Nat) (k : Int) (w : World) (hc : n ≤ 9223372036854775807) (h1 : -9223372036854775808 ≤ k) (h2 : k ≤ 9223372036854775807) (h : k < 0 ∨ (n : Int) - k < 4) :
    Calls Try.prog 37 #[.slice a n c, .int .i64 k] w fun e w' => e = .returned (.tuple #[.int .u32 0, .int .i64 7]) ∧ w = w' := by
  have H : Hid (k < 0 ∨ (n : Int) - k < 4) := h
  clear h
  go_enter Try.func37, Try.ntmps37
  go_wp2_with (go_at_call 40; refine (get_short a n c k 4 w hc h1 h2 H.out).mono ?_; rintro e w' ⟨rfl, rfl⟩)
  go_returns
  exact ⟨rfl, rfl⟩

theorem rget32_ok (a : Option Addr) (n c : Nat) (l : List Int) (k : Nat) (w : World) (hb : Bs w a n c l) (h : k + 4 ≤ n) :
    Calls Try.prog 21 #[.slice a n c, .int .i64 k] w fun e w' => e = .returned (.tuple #[.int .u32 (le4 l k), .int .i64 0]) ∧ w = w' := by
  have hr := le4_range hb k
  go_enter Try.func21, Try.ntmps21
  go_wp2_with (go_at_call 31; refine (number4_ok a n c l k w hb h).mono ?_; rintro e w' ⟨rfl, rfl⟩)
  go_returns
  refine ⟨?_, rfl⟩
  exact ret_tup2 (by first | rfl | omega | (rw [IntKind.wrap_u32']; omega)) rfl

theorem rget32_no (a : Option Addr) (n c : Nat) (k : Int) (w : World) (hc : n ≤ 9223372036854775807) (h1 : -9223372036854775808 ≤ k) (h2 : k ≤ 9223372036854775807) (h : k < 0 ∨ (n : Int) - k < 4) :
    Calls Try.prog 21 #[.slice a n c, .int .i64 k] w fun e w' => e = .returned (.tuple #[.int .u32 0, .int .i64 7]) ∧ w = w' := by
  have H : Hid (k < 0 ∨ (n : Int) - k < 4) := h
  clear h
  go_enter Try.func21, Try.ntmps21
  go_wp2_with (go_at_call 31; refine (number_short a n c k 4 w hc h1 h2 (by decide) H.out).mono ?_; rintro e w' ⟨rfl, rfl⟩)
  go_returns
  exact ⟨rfl, rfl⟩

theorem get32_zero (a : Option Addr) (n c : Nat) (l : List Int) (w : World) (hb : Bs w a n c l) (h : 4 ≤ n) :
    Calls Try.prog 37 #[.slice a n c, .int .i64 0] w fun e w' => e = .returned (.tuple #[.int .u32 (le4 l 0), .int .i64 0]) ∧ w = w' := get32_ok a n c l 0 w hb (by omega)
end Go.Proofs.Ytdadajpaobngaaa
