/-
  What scupperbase.Among returns, for every input: no statement is proved here.
-/
import Derived.Test.YtddglkejegmmmaaRows
import Derived.Test.YtddglkejegmmmaaPlain2
namespace Go.Proofs.Ytddglkejegmmmaa
open Go.ChangeShapes Go.WideShapes Go.ChangeAt Go.RowKit
set_option linter.unusedVariables false

/-- Which one of n. -/
def among (x : Int) (n : Nat) : Nat := (x % 18446744073709551616 % n).toNat
theorem among_lt (x : Int) (n : Nat) (h : 0 < n) : among x n < n := by
  unfold among
  have h1 := Int.emod_nonneg (x % 18446744073709551616) (show (n : Int) ≠ 0 by omega)
  have h2 := Int.emod_lt_of_pos (x % 18446744073709551616) (show (0 : Int) < (n : Int) by omega)
  omega
theorem among_any (x : Int) (n : Nat) (w : World) (hn : 0 < n) (hm : n ≤ 1000000000000) :
    Calls Try.prog 8 #[.int .i64 x, .int .i64 (n : Int)] w fun e w' => e = .returned (.int .i64 (among x n : Nat)) ∧ w = w' := by
  have h1 := Int.emod_nonneg x (show (18446744073709551616 : Int) ≠ 0 by omega)
  have h2 := Int.emod_lt_of_pos x (show (0 : Int) < (18446744073709551616 : Int) by omega)
  have h3 := Int.emod_nonneg (x % 18446744073709551616) (show (n : Int) ≠ 0 by omega)
  have h4 := Int.emod_lt_of_pos (x % 18446744073709551616) (show (0 : Int) < (n : Int) by omega)
  have e : Hid ((among x n : Int) = x % 18446744073709551616 % n) := by show _ = _; unfold among; omega
  have e1 : IntKind.u64.wrap x = x % 18446744073709551616 := by first | exact IntKind.wrap_u64 x | exact IntKind.wrap_u64' x
  have e2 : (x % 18446744073709551616).tmod n = x % 18446744073709551616 % n := Int.tmod_eq_emod_of_nonneg h1
  go_enter Try.func8, Try.ntmps8
  go_wp2
  go_returns
  exact ⟨ret_int (by rw [e.out]), rfl⟩
end Go.Proofs.Ytddglkejegmmmaa
