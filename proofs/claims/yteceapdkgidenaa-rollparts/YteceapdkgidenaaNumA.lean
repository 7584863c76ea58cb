/-
  What the small functions of layer 1 and of its reference return, each for every input: no statement is proved here.
-/
import Derived.Test.YteceapdkgidenaaRows
import Derived.Test.YteceapdkgidenaaPlain
namespace Go.Proofs.Yteceapdkgidenaa
open Go.ChangeShapes Go.WideShapes Go.ChangeAt Go.RowKit
set_option linter.unusedVariables false

theorem put32_any (x : Int) (w : World) (h0 : 0 ≤ x) (h1 : x ≤ 4294967295) :
    Calls Try.prog 61 #[.int .u32 x] w fun e w' => e = .returned (.agg #[.int .u8 (x % 256), .int .u8 (x / 256 % 256), .int .u8 (x / 65536 % 256), .int .u8 (x / 16777216)]) ∧ Below w.heap.size w w' := by
  go_enter Try.func61, Try.ntmps61
  go_wp2
  go_rounds 5
  go_returns
  exact ⟨rfl, by go_grown⟩

theorem rput32_any (x : Int) (w : World) (h0 : 0 ≤ x) (h1 : x ≤ 4294967295) :
    Calls Try.prog 47 #[.int .u32 x] w fun e w' => e = .returned (.slice (some ⟨w.heap.size, 0, none⟩) 4 4) ∧
      w' = w.alloc (.cells #[.int .u8 (x % 256), .int .u8 (x / 256 % 256), .int .u8 (x / 65536 % 256), .int .u8 (x / 16777216)] 5) := by
  go_enter Try.func47, Try.ntmps47
  go_wp2
  go_returns
  exact ⟨rfl, rfl⟩

theorem get_short (a : Option Addr) (n c : Nat) (at' size : Int) (w : World) (hc : n ≤ 9223372036854775807) (h1 : -9223372036854775808 ≤ at') (h2 : at' ≤ 9223372036854775807) (h : at' < 0 ∨ (n : Int) - at' < size) :
    Calls Try.prog 65 #[.slice a n c, .int .i64 at', .int .i64 size] w fun e w' => e = .returned (.tuple #[.int .u32 0, .int .i64 7]) ∧ w' = w := by
  by_cases h0 : at' < 0
  · go_enter Try.func65, Try.ntmps65
    go_wp2
    go_returns
    exact ⟨rfl, rfl⟩
  · have h3 : (n : Int) - at' < size := by omega
    go_enter Try.func65, Try.ntmps65
    go_wp2
    go_returns
    exact ⟨rfl, rfl⟩

end Go.Proofs.Yteceapdkgidenaa
