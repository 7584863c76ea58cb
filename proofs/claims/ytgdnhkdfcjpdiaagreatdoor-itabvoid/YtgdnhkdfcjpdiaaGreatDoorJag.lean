/-
  Texts of my own, joined: no statement is proved here.
-/
import Derived.Test.YtgdnhkdfcjpdiaaGreatDoorRows
import Derived.Laws.AppendOwnNone
import Derived.Test.YtgdnhkdfcjpdiaaGreatDoorJaa
set_option linter.unusedSimpArgs false
set_option linter.unusedVariables false
namespace Go.Proofs.YtgdnhkdfcjpdiaaGreatDoor
open Go.ChangeShapes Go.WideShapes Go.ChangeAt Go.RowKit
theorem put16_any (x : Int) (w : World) (h0 : 0 ≤ x) (h1 : x ≤ 65535) :
    Calls Tryz.prog 130 #[.int .u16 x] w fun e w' => e = .returned (.agg #[.int .u8 (x % 256), .int .u8 (x / 256)]) ∧ Below w.heap.size w w' := by
  go_enter Tryz.func130, Tryz.ntmps130
  go_wp2
  go_rounds 3
  go_returns
  exact ⟨rfl, by go_grown⟩
theorem put32_any (x : Int) (w : World) (h0 : 0 ≤ x) (h1 : x ≤ 4294967295) :
    Calls Tryz.prog 100 #[.int .u32 x] w fun e w' => e = .returned (.agg #[.int .u8 (x % 256), .int .u8 (x / 256 % 256), .int .u8 (x / 65536 % 256), .int .u8 (x / 16777216)]) ∧ Below w.heap.size w w' := by
  go_enter Tryz.func100, Tryz.ntmps100
  go_wp2
  go_rounds 5
  go_returns
  exact ⟨rfl, by go_grown⟩
theorem rput16_any (x : Int) (w : World) (h0 : 0 ≤ x) (h1 : x ≤ 65535) :
    Calls Tryz.prog 57 #[.int .u16 x] w fun e w' => e = .returned (.slice (some ⟨w.heap.size, 0, none⟩) 2 2) ∧ w' = w.alloc (.cells #[.int .u8 (x % 256), .int .u8 (x / 256)] 5) := by
  have hd : IntKind.u16.wrap (x.tdiv 256) % 256 = x / 256 := by
    rw [Int.tdiv_eq_ediv_of_nonneg h0, IntKind.wrap_u16]; omega
  go_enter Tryz.func57, Tryz.ntmps57
  go_wp2
  go_returns
  exact ⟨rfl, rfl⟩
theorem rput32_any (x : Int) (w : World) (h0 : 0 ≤ x) (h1 : x ≤ 4294967295) :
    Calls Tryz.prog 59 #[.int .u32 x] w fun e w' => e = .returned (.slice (some ⟨w.heap.size, 0, none⟩) 4 4) ∧
      w' = w.alloc (.cells #[.int .u8 (x % 256), .int .u8 (x / 256 % 256), .int .u8 (x / 65536 % 256), .int .u8 (x / 16777216)] 5) := by
  go_enter Tryz.func59, Tryz.ntmps59
  go_wp2
  go_returns
  exact ⟨rfl, rfl⟩
theorem get2_ok (a : Option Addr) (n c : Nat) (l : List Int) (k : Nat) (w : World) (hb : Bs w a n c l) (h : k + 2 ≤ n) :
    Calls Tryz.prog 91 #[.slice a n c, .int .i64 k, .int .i64 2] w fun e w' => e = .returned (.tuple #[.int .u32 (le2 l k), .int .i64 0]) ∧ w' = w := by
  obtain ⟨b, o, rfl, hc⟩ := hb.cell (by omega)
  have hm := hb.cap; have hle := hb.le; unfold maxLen at hm
  have r0 := hb.range' k; have r1 := hb.range' (k + 1)
  have c0 := hc k (by omega); have c1 := hc (k + 1) (by omega)
  have e := or_le2 _ _ r0 r1
  unfold le2
  rw [List.getD_eq_getElem?_getD] at c0 c1
  rw [List.getD_eq_getElem?_getD, List.getD_eq_getElem?_getD]
  clear hc hb
  go_enter Tryz.func91, Tryz.ntmps91
  go_wp2
  go_rounds 3
  go_returns
  exact ⟨by rw [← e]; rfl, rfl⟩
theorem get4_ok (a : Option Addr) (n c : Nat) (l : List Int) (k : Nat) (w : World) (hb : Bs w a n c l) (h : k + 4 ≤ n) :
    Calls Tryz.prog 91 #[.slice a n c, .int .i64 k, .int .i64 4] w fun e w' => e = .returned (.tuple #[.int .u32 (le4 l k), .int .i64 0]) ∧ w' = w := by
  obtain ⟨b, o, rfl, hc⟩ := hb.cell (by omega)
  have hm := hb.cap; have hle := hb.le; unfold maxLen at hm
  have r0 := hb.range' k; have r1 := hb.range' (k + 1); have r2 := hb.range' (k + 2); have r3 := hb.range' (k + 3)
  have c0 := hc k (by omega); have c1 := hc (k + 1) (by omega); have c2 := hc (k + 2) (by omega); have c3 := hc (k + 3) (by omega)
  have e : Hid _ := or_le4 _ _ _ _ r0 r1 r2 r3
  unfold le4
  rw [List.getD_eq_getElem?_getD] at c0 c1 c2 c3
  rw [List.getD_eq_getElem?_getD, List.getD_eq_getElem?_getD, List.getD_eq_getElem?_getD, List.getD_eq_getElem?_getD]
  clear hc hb
  go_enter Tryz.func91, Tryz.ntmps91
  go_wp2
  go_rounds 5
  go_returns
  exact ⟨by rw [← e.out]; rfl, rfl⟩
theorem number2_ok (a : Option Addr) (n c : Nat) (l : List Int) (k : Nat) (w : World) (hb : Bs w a n c l) (h : k + 2 ≤ n) :
    Calls Tryz.prog 149 #[.slice a n c, .int .i64 k, .int .i64 2] w fun e w' => e = .returned (.tuple #[.int .u64 (le2 l k), .int .i64 0]) ∧ w = w' := by
  obtain ⟨b, o, rfl, hc⟩ := hb.cell (by omega)
  have hm := hb.cap; have hle := hb.le; unfold maxLen at hm
  have r0 := hb.range' k; have r1 := hb.range' (k + 1)
  have c0 := hc k (by omega); have c1 := hc (k + 1) (by omega)
  unfold le2
  rw [List.getD_eq_getElem?_getD] at c0 c1
  rw [List.getD_eq_getElem?_getD, List.getD_eq_getElem?_getD]
  clear hc hb
  go_enter Tryz.func149, Tryz.ntmps149
  go_wp2
  go_rounds 3
  go_returns
  exact ⟨ret_tup2 (by omega) rfl, rfl⟩
theorem number4_ok (a : Option Addr) (n c : Nat) (l : List Int) (k : Nat) (w : World) (hb : Bs w a n c l) (h : k + 4 ≤ n) :
    Calls Tryz.prog 149 #[.slice a n c, .int .i64 k, .int .i64 4] w fun e w' => e = .returned (.tuple #[.int .u64 (le4 l k), .int .i64 0]) ∧ w = w' := by
  obtain ⟨b, o, rfl, hc⟩ := hb.cell (by omega)
  have hm := hb.cap; have hle := hb.le; unfold maxLen at hm
  have r0 := hb.range' k; have r1 := hb.range' (k + 1); have r2 := hb.range' (k + 2); have r3 := hb.range' (k + 3)
  have c0 := hc k (by omega); have c1 := hc (k + 1) (by omega); have c2 := hc (k + 2) (by omega); have c3 := hc (k + 3) (by omega)
  unfold le4
  rw [List.getD_eq_getElem?_getD] at c0 c1 c2 c3
  rw [List.getD_eq_getElem?_getD, List.getD_eq_getElem?_getD, List.getD_eq_getElem?_getD, List.getD_eq_getElem?_getD]
  clear hc hb
  go_enter Tryz.func149, Tryz.ntmps149
  go_wp2
  go_rounds 5
  go_returns
  exact ⟨ret_tup2 (by omega) rfl, rfl⟩
set_option maxRecDepth 100000
theorem get16_ok (a : Option Addr) (n c : Nat) (l : List Int) (k : Nat) (w : World) (hb : Bs w a n c l) (h : k + 2 ≤ n) :
    Calls Tryz.prog 92 #[.slice a n c, .int .i64 k] w fun e w' => e = .returned (.tuple #[.int .u16 (le2 l k), .int .i64 0]) ∧ w = w' := by
  have hr := le2_range hb k
  go_enter Tryz.func92, Tryz.ntmps92
  go_wp2_with (go_at_call 91; refine (get2_ok a n c l k w hb h).mono ?_; rintro e w' ⟨rfl, rfl⟩)
  go_returns
  refine ⟨?_, rfl⟩
  exact ret_tup2 (by first | rfl | omega | (rw [IntKind.wrap_u16]; omega)) rfl
theorem get32_ok (a : Option Addr) (n c : Nat) (l : List Int) (k : Nat) (w : World) (hb : Bs w a n c l) (h : k + 4 ≤ n) :
    Calls Tryz.prog 67 #[.slice a n c, .int .i64 k] w fun e w' => e = .returned (.tuple #[.int .u32 (le4 l k), .int .i64 0]) ∧ w = w' := by
  go_enter Tryz.func67, Tryz.ntmps67
  go_wp2_with (go_at_call 91; refine (get4_ok a n c l k w hb h).mono ?_; rintro e w' ⟨rfl, rfl⟩)
  go_returns
  exact ⟨rfl, rfl⟩
theorem rget16_ok (a : Option Addr) (n c : Nat) (l : List Int) (k : Nat) (w : World) (hb : Bs w a n c l) (h : k + 2 ≤ n) :
    Calls Tryz.prog 137 #[.slice a n c, .int .i64 k] w fun e w' => e = .returned (.tuple #[.int .u16 (le2 l k), .int .i64 0]) ∧ w = w' := by
  have hr := le2_range hb k
  go_enter Tryz.func137, Tryz.ntmps137
  go_wp2_with (go_at_call 149; refine (number2_ok a n c l k w hb h).mono ?_; rintro e w' ⟨rfl, rfl⟩)
  go_returns
  refine ⟨?_, rfl⟩
  exact ret_tup2 (by first | rfl | omega | (rw [IntKind.wrap_u16]; omega)) rfl
theorem rget32_ok (a : Option Addr) (n c : Nat) (l : List Int) (k : Nat) (w : World) (hb : Bs w a n c l) (h : k + 4 ≤ n) :
    Calls Tryz.prog 136 #[.slice a n c, .int .i64 k] w fun e w' => e = .returned (.tuple #[.int .u32 (le4 l k), .int .i64 0]) ∧ w = w' := by
  have hr := le4_range hb k
  go_enter Tryz.func136, Tryz.ntmps136
  go_wp2_with (go_at_call 149; refine (number4_ok a n c l k w hb h).mono ?_; rintro e w' ⟨rfl, rfl⟩)
  go_returns
  refine ⟨?_, rfl⟩
  exact ret_tup2 (by first | rfl | omega | (rw [IntKind.wrap_u32']; omega)) rfl
def v2 (l : List Int) (n : Nat) (k : Int) : Int := if 0 ≤ k ∧ k + 2 ≤ n then le2 l k.toNat else 0
def e2 (n : Nat) (k : Int) : Int := if 0 ≤ k ∧ k + 2 ≤ n then 0 else 7
def v4 (l : List Int) (n : Nat) (k : Int) : Int := if 0 ≤ k ∧ k + 4 ≤ n then le4 l k.toNat else 0
def e4 (n : Nat) (k : Int) : Int := if 0 ≤ k ∧ k + 4 ≤ n then 0 else 7
def vb (l : List Int) (n : Nat) (i : Int) : Bool := decide (0 ≤ i ∧ i / 8 < n) && bitB l i.toNat
def nw (n : Nat) (i : Int) : Nat := if 0 ≤ i ∧ i / 8 < n then n else 0
end Go.Proofs.YtgdnhkdfcjpdiaaGreatDoor
