/-
  What the small functions of layer 2 and of its reference return, each for every input: no statement is proved here.
-/
import Derived.Test.YteceapdkgidenaaRows
import Derived.Test.YteceapdkgidenaaPlain2
import Derived.Test.YteceapdkgidenaaCrcM
namespace Go.Proofs.Yteceapdkgidenaa
open Go.ChangeShapes Go.WideShapes Go.ChangeAt Go.RowKit
set_option linter.unusedVariables false

theorem st_int {r : Nat} (h : r < 4294967296) : bits .xor .u32 ((r : Int) / 2) (IntKind.u32.wrap (2197175160 * bits .and .u32 (r : Int) 1)) = (st r : Int) := by
  have e1 : bits .and .u32 (r : Int) 1 = ((r % 2 : Nat) : Int) := by
    have := u32_and_nat r 1 h (by omega)
    rw [Nat.and_one_is_mod] at this
    exact this
  have e2 : IntKind.u32.wrap (2197175160 * ((r % 2 : Nat) : Int)) = ((2197175160 * (r % 2) : Nat) : Int) := by rw [IntKind.wrap_u32']; omega
  have e3 : (r : Int) / 2 = ((r / 2 : Nat) : Int) := by omega
  rw [e1, e2, e3, u32_xor_nat _ _ (by omega) (by omega)]
  rfl

theorem step_any (r : Nat) (w : World) (h : r < 4294967296) :
    Calls Try.prog 67 #[.int .u32 (r : Int)] w fun e w' => e = .returned (.int .u32 (st r : Nat)) ∧ w = w' := by
  have e : Hid _ := st_int h
  go_enter Try.func67, Try.ntmps67
  go_wp2
  go_returns
  exact ⟨ret_int (by rw [← e.out]; try rfl), rfl⟩

theorem xor_int {r x : Nat} (h : r < 4294967296) (hx : x < 256) : bits .xor .u32 (r : Int) (x : Int) = ((r ^^^ x : Nat) : Int) := u32_xor_nat r x h (by omega)
theorem xor_lt {r x : Nat} (h : r < 4294967296) (hx : x < 4294967296) : r ^^^ x < 4294967296 := Nat.xor_lt_two_pow (n := 32) h hx

theorem enter_any (r x : Nat) (w : World) (h : r < 4294967296) (hx : x < 256) :
    Calls Try.prog 66 #[.int .u32 (r : Int), .int .u8 (x : Int)] w fun e w' => e = .returned (.int .u32 (en r x : Nat)) ∧ w = w' := by
  have e := xor_int h hx
  have hl := xor_lt h (show x < 4294967296 by omega)
  go_enter Try.func66, Try.ntmps66
  go_wp2
  go_loop [0, 9] (fun v i => ∃ k : Nat, k ≤ 8 ∧ i = .int .i64 k ∧ v = .int .u32 (sts k (r ^^^ x) : Nat)) (fun _ i => 8 - (intOf i).toNat)
  case atStart => exact ⟨0, Nat.zero_le _, rfl, rfl⟩
  case round =>
    obtain ⟨k, hk, rfl, rfl⟩ := hrel
    have hL := sts_lt k hl
    by_cases hlt : k < 8
    · go_wp2_with (go_at_call 67; refine (step_any _ w hL).mono ?_; rintro e w' ⟨rfl, rfl⟩)
      go_round
      case rel => exact ⟨k + 1, by omega, by go_num, by rw [sts_succ]⟩
      case measure => simp [intOf]; omega
    · obtain rfl : k = 8 := by omega
      go_wp2
      go_returns
      exact ⟨rfl, rfl⟩

theorem poly_int {r : Nat} (h : r < 4294967296) : bits .xor .u32 (r : Int) 2197175160 = ((r ^^^ 2197175160 : Nat) : Int) := u32_xor_nat r 2197175160 h (by omega)
theorem st_odd {r : Nat} (h : r % 2 = 1) : st r = (r / 2) ^^^ 2197175160 := by unfold st; rw [h]
theorem st_even {r : Nat} (h : r % 2 = 0) : st r = r / 2 := by unfold st; rw [h]; simp

theorem rstep_any (r n : Nat) (w : World) (h : r < 4294967296) (hn : n ≤ 1000000000000) :
    Calls Try.prog 60 #[.int .u32 (r : Int), .int .i64 (n : Int)] w fun e w' => e = .returned (.int .u32 (sts n r : Nat)) ∧ w = w' := by
  go_enter Try.func60, Try.ntmps60
  go_wp2
  go_loop [0, 5] (fun v i => ∃ k : Nat, k ≤ n ∧ i = .int .i64 k ∧ v = .int .u32 (sts k r : Nat)) (fun _ i => n - (intOf i).toNat)
  case atStart => exact ⟨0, Nat.zero_le _, rfl, rfl⟩
  case round =>
    obtain ⟨k, hk, rfl, rfl⟩ := hrel
    have hL := sts_lt k h
    have hS : Hid (sts (k + 1) r = st (sts k r)) := sts_succ k r
    by_cases hlt : k < n
    · generalize sts k r = q at *
      have hm : (q : Int).tmod 2 = ((q % 2 : Nat) : Int) := by rw [Int.tmod_eq_emod_of_nonneg (by omega)]; omega
      have hd : (q : Int).tdiv 2 = ((q / 2 : Nat) : Int) := by rw [Int.tdiv_eq_ediv_of_nonneg (by omega)]; omega
      have hx : Hid _ := poly_int (show q / 2 < 4294967296 by omega)
      by_cases ho : q % 2 = 1
      · go_wp2
        go_round
        case rel => exact ⟨k + 1, by omega, by go_num, by rw [hS.out, st_odd ho, ← hx.out]; try rfl⟩
        case measure => simp [intOf]; omega
      · have ho2 : q % 2 = 0 := by omega
        go_wp2
        go_round
        case rel => exact ⟨k + 1, by omega, by go_num, by rw [hS.out, st_even ho2]; try rfl⟩
        case measure => simp [intOf]; omega
    · obtain rfl : k = n := by omega
      go_wp2
      go_returns
      exact ⟨rfl, rfl⟩
end Go.Proofs.Yteceapdkgidenaa
