/-
  What the functions of layer 1 and of its reference that go over bytes return, each for every input: no statement is proved here.
-/
import Derived.Test.YteceapdkgidenaaNumA
import Derived.Test.YteceapdkgidenaaNumB
namespace Go.Proofs.Yteceapdkgidenaa
open Go.ChangeShapes Go.WideShapes Go.ChangeAt Go.RowKit
set_option linter.unusedVariables false

theorem number_short (a : Option Addr) (n c : Nat) (at' size : Int) (w : World) (hc : n ≤ 9223372036854775807) (h1 : -9223372036854775808 ≤ at') (h2 : at' ≤ 9223372036854775807) (h5 : 0 ≤ size) (h : at' < 0 ∨ (n : Int) - at' < size) :
    Calls Try.prog 55 #[.slice a n c, .int .i64 at', .int .i64 size] w fun e w' => e = .returned (.tuple #[.int .u64 0, .int .i64 7]) ∧ w = w' := by
  by_cases h0 : at' < 0
  · go_enter Try.func55, Try.ntmps55
    go_wp2
    go_returns
    exact ⟨rfl, rfl⟩
  · have h3 : (n : Int) - at' < size := by omega
    by_cases h6 : (n : Int) < at'
    · go_enter Try.func55, Try.ntmps55
      go_wp2
      go_returns
      exact ⟨rfl, rfl⟩
    · go_enter Try.func55, Try.ntmps55
      go_wp2
      go_returns
      exact ⟨rfl, rfl⟩

theorem number2_ok (a : Option Addr) (n c : Nat) (l : List Int) (k : Nat) (w : World) (hb : Bs w a n c l) (h : k + 2 ≤ n) :
    Calls Try.prog 55 #[.slice a n c, .int .i64 k, .int .i64 2] w fun e w' => e = .returned (.tuple #[.int .u64 (le2 l k), .int .i64 0]) ∧ w = w' := by
  obtain ⟨b, o, rfl, hc⟩ := hb.cell (by omega)
  have hm := hb.cap; have hle := hb.le; unfold maxLen at hm
  have r0 := hb.range' k; have r1 := hb.range' (k + 1)
  have c0 := hc k (by omega); have c1 := hc (k + 1) (by omega)
  unfold le2
  rw [List.getD_eq_getElem?_getD] at c0 c1
  rw [List.getD_eq_getElem?_getD, List.getD_eq_getElem?_getD]
  clear hc hb
  go_enter Try.func55, Try.ntmps55
  go_wp2
  go_rounds 3
  go_returns
  exact ⟨ret_tup2 (by omega) rfl, rfl⟩

theorem number4_ok (a : Option Addr) (n c : Nat) (l : List Int) (k : Nat) (w : World) (hb : Bs w a n c l) (h : k + 4 ≤ n) :
    Calls Try.prog 55 #[.slice a n c, .int .i64 k, .int .i64 4] w fun e w' => e = .returned (.tuple #[.int .u64 (le4 l k), .int .i64 0]) ∧ w = w' := by
  obtain ⟨b, o, rfl, hc⟩ := hb.cell (by omega)
  have hm := hb.cap; have hle := hb.le; unfold maxLen at hm
  have r0 := hb.range' k; have r1 := hb.range' (k + 1); have r2 := hb.range' (k + 2); have r3 := hb.range' (k + 3)
  have c0 := hc k (by omega); have c1 := hc (k + 1) (by omega); have c2 := hc (k + 2) (by omega); have c3 := hc (k + 3) (by omega)
  unfold le4
  rw [List.getD_eq_getElem?_getD] at c0 c1 c2 c3
  rw [List.getD_eq_getElem?_getD, List.getD_eq_getElem?_getD, List.getD_eq_getElem?_getD, List.getD_eq_getElem?_getD]
  clear hc hb
  go_enter Try.func55, Try.ntmps55
  go_wp2
  go_rounds 5
  go_returns
  exact ⟨ret_tup2 (by omega) rfl, rfl⟩
end Go.Proofs.Yteceapdkgidenaa
