/-
  What the small functions of layer 1 and of its reference return, each for every input: no statement is proved here.
-/
import Derived.Test.YteceapdkgidenaaRows
import Derived.Test.YteceapdkgidenaaPlain
namespace Go.Proofs.Yteceapdkgidenaa
open Go.ChangeShapes Go.WideShapes Go.ChangeAt Go.RowKit
set_option linter.unusedVariables false

theorem get2_ok (a : Option Addr) (n c : Nat) (l : List Int) (k : Nat) (w : World) (hb : Bs w a n c l) (h : k + 2 ≤ n) :
    Calls Try.prog 65 #[.slice a n c, .int .i64 k, .int .i64 2] w fun e w' => e = .returned (.tuple #[.int .u32 (le2 l k), .int .i64 0]) ∧ w' = w := by
  obtain ⟨b, o, rfl, hc⟩ := hb.cell (by omega)
  have hm := hb.cap; have hle := hb.le; unfold maxLen at hm
  have r0 := hb.range' k; have r1 := hb.range' (k + 1)
  have c0 := hc k (by omega); have c1 := hc (k + 1) (by omega)
  have e := or_le2 _ _ r0 r1
  unfold le2
  rw [List.getD_eq_getElem?_getD] at c0 c1
  rw [List.getD_eq_getElem?_getD, List.getD_eq_getElem?_getD]
  clear hc hb
  go_enter Try.func65, Try.ntmps65
  go_wp2
  go_rounds 3
  go_returns
  exact ⟨by rw [← e]; rfl, rfl⟩

theorem get4_ok (a : Option Addr) (n c : Nat) (l : List Int) (k : Nat) (w : World) (hb : Bs w a n c l) (h : k + 4 ≤ n) :
    Calls Try.prog 65 #[.slice a n c, .int .i64 k, .int .i64 4] w fun e w' => e = .returned (.tuple #[.int .u32 (le4 l k), .int .i64 0]) ∧ w' = w := by
  obtain ⟨b, o, rfl, hc⟩ := hb.cell (by omega)
  have hm := hb.cap; have hle := hb.le; unfold maxLen at hm
  have r0 := hb.range' k; have r1 := hb.range' (k + 1); have r2 := hb.range' (k + 2); have r3 := hb.range' (k + 3)
  have c0 := hc k (by omega); have c1 := hc (k + 1) (by omega); have c2 := hc (k + 2) (by omega); have c3 := hc (k + 3) (by omega)
  have e : Hid _ := or_le4 _ _ _ _ r0 r1 r2 r3
  unfold le4
  rw [List.getD_eq_getElem?_getD] at c0 c1 c2 c3
  rw [List.getD_eq_getElem?_getD, List.getD_eq_getElem?_getD, List.getD_eq_getElem?_getD, List.getD_eq_getElem?_getD]
  clear hc hb
  go_enter Try.func65, Try.ntmps65
  go_wp2
  go_rounds 5
  go_returns
  exact ⟨by rw [← e.out]; rfl, rfl⟩

end Go.Proofs.Yteceapdkgidenaa
