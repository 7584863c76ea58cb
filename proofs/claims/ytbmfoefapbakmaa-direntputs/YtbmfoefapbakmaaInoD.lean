/-
  What putPointer and pointerAt of layer 10 do, for every input: no statement is proved here.
-/
import Derived.Test.YtbmfoefapbakmaaInoA
namespace Go.Proofs.Ytbmfoefapbakmaa
open Go.ChangeShapes Go.WideShapes Go.ChangeAt Go.RowKit
set_option linter.unusedVariables false

theorem cells_lo2 {x : Nat} (h : x < 65536) : cells (lo2 x) = [.int .u8 ((x : Int) % 256), .int .u8 ((x : Int) / 256)] := by
  have e : cells (lo2 x) = (ints (lo2 x)).map (Value.int .u8) := by unfold cells ints; rw [List.map_map]; rfl
  rw [e, ints_lo2 h]; rfl
theorem cells_w4 {x : Nat} (h : x < 4294967296) : cells (u4 x) = [.int .u8 ((x : Int) % 256), .int .u8 ((x : Int) / 256 % 256), .int .u8 ((x : Int) / 65536 % 256), .int .u8 ((x : Int) / 16777216)] := by
  have e : cells (u4 x) = (ints (u4 x)).map (Value.int .u8) := by unfold cells ints; rw [List.map_map]; rfl
  rw [e, ints_u4 h]; rfl
theorem le2_at2 (l : List UInt8) (k : Nat) : le2 (ints l) k = ((at2 l k : Nat) : Int) := by
  unfold le2 at2
  rw [ints_getD, ints_getD]; omega
theorem le4_get4 (l : List UInt8) (k : Nat) : le4 (ints l) k = ((get4 l k : Nat) : Int) := by
  unfold le4 get4 num4
  rw [ints_getD, ints_getD, ints_getD, ints_getD]; omega
theorem put16_w (x : UInt16) (w : World) : Calls Try.prog 29 #[.int .u16 (x.toNat : Int)] w fun e w' => e = .returned (.agg (cells (lo2 x.toNat)).toArray) ∧ Below w.heap.size w w' := by
  have := x.toNat_lt
  rw [cells_lo2 (by omega)]
  exact put16_any _ w (by omega) (by omega)
theorem of16 {n : Nat} (h : n < 65536) : ((UInt16.ofNat n).toNat : Int) = (n : Int) := by
  rw [UInt16.toNat_ofNat']; omega
theorem of32 {n : Nat} (h : n < 4294967296) : ((UInt32.ofNat n).toNat : Int) = (n : Int) := by
  rw [UInt32.toNat_ofNat']; omega
theorem get16_w (a : Option Addr) (n c : Nat) (l : List UInt8) (k : Nat) (w : World) (hb : Bs w a n c (ints l)) (h : k + 2 ≤ n) :
    Calls Try.prog 40 #[.slice a n c, .int .i64 (k : Int)] w fun e w' => e = .returned (.tuple #[.int .u16 ((pt l k).toNat : Int), .int .i64 0]) ∧ w = w' := by
  rw [pt, of16 (at2_lt l k), ← le2_at2]
  exact get16_ok a n c _ k w hb h
theorem rget16_w (a : Option Addr) (n c : Nat) (l : List UInt8) (k : Nat) (w : World) (hb : Bs w a n c (ints l)) (h : k + 2 ≤ n) :
    Calls Try.prog 35 #[.slice a n c, .int .i64 (k : Int)] w fun e w' => e = .returned (.tuple #[.int .u16 ((pt l k).toNat : Int), .int .i64 0]) ∧ w = w' := by
  rw [pt, of16 (at2_lt l k), ← le2_at2]
  exact rget16_ok a n c _ k w hb h
end Go.Proofs.Ytbmfoefapbakmaa
