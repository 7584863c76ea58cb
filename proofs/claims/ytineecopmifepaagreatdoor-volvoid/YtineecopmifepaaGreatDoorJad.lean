/-
  Texts of my own, joined: no statement is proved here.
-/
import Derived.Test.YtineecopmifepaaGreatDoorRows
import Derived.Laws.AppendOwnNone
import Derived.Test.YtineecopmifepaaGreatDoorJaa
set_option linter.unusedSimpArgs false
set_option linter.unusedVariables false
namespace Go.Proofs.YtineecopmifepaaGreatDoor
open Go.ChangeShapes Go.WideShapes Go.ChangeAt Go.RowKit
set_option linter.unusedVariables false
theorem put16_any (x : Int) (w : World) (h0 : 0 ≤ x) (h1 : x ≤ 65535) :
    Calls Tryz.prog 320 #[.int .u16 x] w fun e w' => e = .returned (.agg #[.int .u8 (x % 256), .int .u8 (x / 256)]) ∧ Below w.heap.size w w' := by
  go_enter Tryz.func320, Tryz.ntmps320
  go_wp2
  go_rounds 3
  go_returns
  exact ⟨rfl, by go_grown⟩
theorem put32_any (x : Int) (w : World) (h0 : 0 ≤ x) (h1 : x ≤ 4294967295) :
    Calls Tryz.prog 140 #[.int .u32 x] w fun e w' => e = .returned (.agg #[.int .u8 (x % 256), .int .u8 (x / 256 % 256), .int .u8 (x / 65536 % 256), .int .u8 (x / 16777216)]) ∧ Below w.heap.size w w' := by
  go_enter Tryz.func140, Tryz.ntmps140
  go_wp2
  go_rounds 5
  go_returns
  exact ⟨rfl, by go_grown⟩
theorem rput16_any (x : Int) (w : World) (h0 : 0 ≤ x) (h1 : x ≤ 65535) :
    Calls Tryz.prog 100 #[.int .u16 x] w fun e w' => e = .returned (.slice (some ⟨w.heap.size, 0, none⟩) 2 2) ∧ w' = w.alloc (.cells #[.int .u8 (x % 256), .int .u8 (x / 256)] 5) := by
  have hd : IntKind.u16.wrap (x.tdiv 256) % 256 = x / 256 := by
    rw [Int.tdiv_eq_ediv_of_nonneg h0, IntKind.wrap_u16]; omega
  go_enter Tryz.func100, Tryz.ntmps100
  go_wp2
  go_returns
  exact ⟨rfl, rfl⟩
theorem rput32_any (x : Int) (w : World) (h0 : 0 ≤ x) (h1 : x ≤ 4294967295) :
    Calls Tryz.prog 102 #[.int .u32 x] w fun e w' => e = .returned (.slice (some ⟨w.heap.size, 0, none⟩) 4 4) ∧
      w' = w.alloc (.cells #[.int .u8 (x % 256), .int .u8 (x / 256 % 256), .int .u8 (x / 65536 % 256), .int .u8 (x / 16777216)] 5) := by
  go_enter Tryz.func102, Tryz.ntmps102
  go_wp2
  go_returns
  exact ⟨rfl, rfl⟩
end Go.Proofs.YtineecopmifepaaGreatDoor
namespace Go.Proofs.YtineecopmifepaaGreatDoor
open Go.ChangeShapes Go.WideShapes Go.ChangeAt Go.RowKit
set_option linter.unusedVariables false
theorem get2_ok (a : Option Addr) (n c : Nat) (l : List Int) (k : Nat) (w : World) (hb : Bs w a n c l) (h : k + 2 ≤ n) :
    Calls Tryz.prog 250 #[.slice a n c, .int .i64 k, .int .i64 2] w fun e w' => e = .returned (.tuple #[.int .u32 (le2 l k), .int .i64 0]) ∧ w' = w := by
  obtain ⟨b, o, rfl, hc⟩ := hb.cell (by omega)
  have hm := hb.cap; have hle := hb.le; unfold maxLen at hm
  have r0 := hb.range' k; have r1 := hb.range' (k + 1)
  have c0 := hc k (by omega); have c1 := hc (k + 1) (by omega)
  have e := or_le2 _ _ r0 r1
  unfold le2
  rw [List.getD_eq_getElem?_getD] at c0 c1
  rw [List.getD_eq_getElem?_getD, List.getD_eq_getElem?_getD]
  clear hc hb
  go_enter Tryz.func250, Tryz.ntmps250
  go_wp2
  go_rounds 3
  go_returns
  exact ⟨by rw [← e]; rfl, rfl⟩
theorem get4_ok (a : Option Addr) (n c : Nat) (l : List Int) (k : Nat) (w : World) (hb : Bs w a n c l) (h : k + 4 ≤ n) :
    Calls Tryz.prog 250 #[.slice a n c, .int .i64 k, .int .i64 4] w fun e w' => e = .returned (.tuple #[.int .u32 (le4 l k), .int .i64 0]) ∧ w' = w := by
  obtain ⟨b, o, rfl, hc⟩ := hb.cell (by omega)
  have hm := hb.cap; have hle := hb.le; unfold maxLen at hm
  have r0 := hb.range' k; have r1 := hb.range' (k + 1); have r2 := hb.range' (k + 2); have r3 := hb.range' (k + 3)
  have c0 := hc k (by omega); have c1 := hc (k + 1) (by omega); have c2 := hc (k + 2) (by omega); have c3 := hc (k + 3) (by omega)
  have e : Hid _ := or_le4 _ _ _ _ r0 r1 r2 r3
  unfold le4
  rw [List.getD_eq_getElem?_getD] at c0 c1 c2 c3
  rw [List.getD_eq_getElem?_getD, List.getD_eq_getElem?_getD, List.getD_eq_getElem?_getD, List.getD_eq_getElem?_getD]
  clear hc hb
  go_enter Tryz.func250, Tryz.ntmps250
  go_wp2
  go_rounds 5
  go_returns
  exact ⟨by rw [← e.out]; rfl, rfl⟩
end Go.Proofs.YtineecopmifepaaGreatDoor
namespace Go.Proofs.YtineecopmifepaaGreatDoor
open Go.ChangeShapes Go.WideShapes Go.ChangeAt Go.RowKit
set_option linter.unusedVariables false
theorem number2_ok (a : Option Addr) (n c : Nat) (l : List Int) (k : Nat) (w : World) (hb : Bs w a n c l) (h : k + 2 ≤ n) :
    Calls Tryz.prog 185 #[.slice a n c, .int .i64 k, .int .i64 2] w fun e w' => e = .returned (.tuple #[.int .u64 (le2 l k), .int .i64 0]) ∧ w = w' := by
  obtain ⟨b, o, rfl, hc⟩ := hb.cell (by omega)
  have hm := hb.cap; have hle := hb.le; unfold maxLen at hm
  have r0 := hb.range' k; have r1 := hb.range' (k + 1)
  have c0 := hc k (by omega); have c1 := hc (k + 1) (by omega)
  unfold le2
  rw [List.getD_eq_getElem?_getD] at c0 c1
  rw [List.getD_eq_getElem?_getD, List.getD_eq_getElem?_getD]
  clear hc hb
  go_enter Tryz.func185, Tryz.ntmps185
  go_wp2
  go_rounds 3
  go_returns
  exact ⟨ret_tup2 (by omega) rfl, rfl⟩
theorem number4_ok (a : Option Addr) (n c : Nat) (l : List Int) (k : Nat) (w : World) (hb : Bs w a n c l) (h : k + 4 ≤ n) :
    Calls Tryz.prog 185 #[.slice a n c, .int .i64 k, .int .i64 4] w fun e w' => e = .returned (.tuple #[.int .u64 (le4 l k), .int .i64 0]) ∧ w = w' := by
  obtain ⟨b, o, rfl, hc⟩ := hb.cell (by omega)
  have hm := hb.cap; have hle := hb.le; unfold maxLen at hm
  have r0 := hb.range' k; have r1 := hb.range' (k + 1); have r2 := hb.range' (k + 2); have r3 := hb.range' (k + 3)
  have c0 := hc k (by omega); have c1 := hc (k + 1) (by omega); have c2 := hc (k + 2) (by omega); have c3 := hc (k + 3) (by omega)
  unfold le4
  rw [List.getD_eq_getElem?_getD] at c0 c1 c2 c3
  rw [List.getD_eq_getElem?_getD, List.getD_eq_getElem?_getD, List.getD_eq_getElem?_getD, List.getD_eq_getElem?_getD]
  clear hc hb
  go_enter Tryz.func185, Tryz.ntmps185
  go_wp2
  go_rounds 5
  go_returns
  exact ⟨ret_tup2 (by omega) rfl, rfl⟩
end Go.Proofs.YtineecopmifepaaGreatDoor
namespace Go.Proofs.YtineecopmifepaaGreatDoor
open Go.ChangeShapes Go.WideShapes Go.ChangeAt Go.RowKit
set_option maxRecDepth 100000
set_option linter.unusedVariables false
theorem get16_ok (a : Option Addr) (n c : Nat) (l : List Int) (k : Nat) (w : World) (hb : Bs w a n c l) (h : k + 2 ≤ n) :
    Calls Tryz.prog 296 #[.slice a n c, .int .i64 k] w fun e w' => e = .returned (.tuple #[.int .u16 (le2 l k), .int .i64 0]) ∧ w = w' := by
  have hr := le2_range hb k
  go_enter Tryz.func296, Tryz.ntmps296
  go_wp2_with (go_at_call 250; refine (get2_ok a n c l k w hb h).mono ?_; rintro e w' ⟨rfl, rfl⟩)
  go_returns
  refine ⟨?_, rfl⟩
  exact ret_tup2 (by first | rfl | omega | (rw [IntKind.wrap_u16]; omega)) rfl
theorem get32_ok (a : Option Addr) (n c : Nat) (l : List Int) (k : Nat) (w : World) (hb : Bs w a n c l) (h : k + 4 ≤ n) :
    Calls Tryz.prog 183 #[.slice a n c, .int .i64 k] w fun e w' => e = .returned (.tuple #[.int .u32 (le4 l k), .int .i64 0]) ∧ w = w' := by
  go_enter Tryz.func183, Tryz.ntmps183
  go_wp2_with (go_at_call 250; refine (get4_ok a n c l k w hb h).mono ?_; rintro e w' ⟨rfl, rfl⟩)
  go_returns
  exact ⟨rfl, rfl⟩
theorem rget16_ok (a : Option Addr) (n c : Nat) (l : List Int) (k : Nat) (w : World) (hb : Bs w a n c l) (h : k + 2 ≤ n) :
    Calls Tryz.prog 281 #[.slice a n c, .int .i64 k] w fun e w' => e = .returned (.tuple #[.int .u16 (le2 l k), .int .i64 0]) ∧ w = w' := by
  have hr := le2_range hb k
  go_enter Tryz.func281, Tryz.ntmps281
  go_wp2_with (go_at_call 185; refine (number2_ok a n c l k w hb h).mono ?_; rintro e w' ⟨rfl, rfl⟩)
  go_returns
  refine ⟨?_, rfl⟩
  exact ret_tup2 (by first | rfl | omega | (rw [IntKind.wrap_u16]; omega)) rfl
theorem rget32_ok (a : Option Addr) (n c : Nat) (l : List Int) (k : Nat) (w : World) (hb : Bs w a n c l) (h : k + 4 ≤ n) :
    Calls Tryz.prog 134 #[.slice a n c, .int .i64 k] w fun e w' => e = .returned (.tuple #[.int .u32 (le4 l k), .int .i64 0]) ∧ w = w' := by
  have hr := le4_range hb k
  go_enter Tryz.func134, Tryz.ntmps134
  go_wp2_with (go_at_call 185; refine (number4_ok a n c l k w hb h).mono ?_; rintro e w' ⟨rfl, rfl⟩)
  go_returns
  refine ⟨?_, rfl⟩
  exact ret_tup2 (by first | rfl | omega | (rw [IntKind.wrap_u32']; omega)) rfl
end Go.Proofs.YtineecopmifepaaGreatDoor
namespace Go.Proofs.YtineecopmifepaaGreatDoor
open Go.ChangeShapes Go.WideShapes Go.ChangeAt Go.RowKit
set_option linter.unusedVariables false
def v2 (l : List Int) (n : Nat) (k : Int) : Int := if 0 ≤ k ∧ k + 2 ≤ n then le2 l k.toNat else 0
def e2 (n : Nat) (k : Int) : Int := if 0 ≤ k ∧ k + 2 ≤ n then 0 else 7
def v4 (l : List Int) (n : Nat) (k : Int) : Int := if 0 ≤ k ∧ k + 4 ≤ n then le4 l k.toNat else 0
def e4 (n : Nat) (k : Int) : Int := if 0 ≤ k ∧ k + 4 ≤ n then 0 else 7
/-- What is told of a bit: is it 1 (false, where there is none)? And the error. -/
def vb (l : List Int) (n : Nat) (i : Int) : Bool := decide (0 ≤ i ∧ i / 8 < n) && bitB l i.toNat
def nw (n : Nat) (i : Int) : Nat := if 0 ≤ i ∧ i / 8 < n then n else 0
end Go.Proofs.YtineecopmifepaaGreatDoor
