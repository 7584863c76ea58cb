/-
  What putPointer and pointerAt of layer 10 do, for every input: no statement is proved here.
-/
import Derived.Test.YtbpnegklglaekaaDoorInoA
namespace Go.Proofs.YtbpnegklglaekaaDoor
open Go.ChangeShapes Go.WideShapes Go.ChangeAt Go.RowKit
set_option linter.unusedVariables false

theorem cells_lo2 {x : Nat} (h : x < 65536) : cells (lo2 x) = [.int .u8 ((x : Int) % 256), .int .u8 ((x : Int) / 256)] := by
  have e : cells (lo2 x) = (ints (lo2 x)).map (Value.int .u8) := by unfold cells ints; rw [List.map_map]; rfl
  rw [e, ints_lo2 h]; rfl
theorem cells_w4 {x : Nat} (h : x < 4294967296) : cells (u4 x) = [.int .u8 ((x : Int) % 256), .int .u8 ((x : Int) / 256 % 256), .int .u8 ((x : Int) / 65536 % 256), .int .u8 ((x : Int) / 16777216)] := by
  have e : cells (u4 x) = (ints (u4 x)).map (Value.int .u8) := by unfold cells ints; rw [List.map_map]; rfl
  rw [e, ints_u4 h]; rfl
theorem le2_at2 (l : List UInt8) (k : Nat) : le2 (ints l) k = ((at2 l k : Nat) : Int) := by
  unfold le2 at2
  rw [ints_getD, ints_getD]; omega
theorem le4_get4 (l : List UInt8) (k : Nat) : le4 (ints l) k = ((get4 l k : Nat) : Int) := by
  unfold le4 get4 num4
  rw [ints_getD, ints_getD, ints_getD, ints_getD]; omega
theorem put16_w (x : UInt16) (w : World) : Calls Tryd.prog 36 #[.int .u16 (x.toNat : Int)] w fun e w' => e = .returned (.agg (cells (lo2 x.toNat)).toArray) ∧ Below w.heap.size w w' := by
  have := x.toNat_lt
  rw [cells_lo2 (by omega)]
  exact put16_any _ w (by omega) (by omega)
theorem put32_w (x : UInt32) (w : World) : Calls Tryd.prog 24 #[.int .u32 (x.toNat : Int)] w fun e w' => e = .returned (.agg (cells (u4 x.toNat)).toArray) ∧ Below w.heap.size w w' := by
  have := x.toNat_lt
  rw [cells_w4 (by omega)]
  exact put32_any _ w (by omega) (by omega)
theorem of16 {n : Nat} (h : n < 65536) : ((UInt16.ofNat n).toNat : Int) = (n : Int) := by
  rw [UInt16.toNat_ofNat']; omega
theorem of32 {n : Nat} (h : n < 4294967296) : ((UInt32.ofNat n).toNat : Int) = (n : Int) := by
  rw [UInt32.toNat_ofNat']; omega
theorem get16_w (a : Option Addr) (n c : Nat) (l : List UInt8) (k : Nat) (w : World) (hb : Bs w a n c (ints l)) (h : k + 2 ≤ n) :
    Calls Tryd.prog 39 #[.slice a n c, .int .i64 (k : Int)] w fun e w' => e = .returned (.tuple #[.int .u16 ((pt l k).toNat : Int), .int .i64 0]) ∧ w = w' := by
  rw [pt, of16 (at2_lt l k), ← le2_at2]
  exact get16_ok a n c _ k w hb h
theorem get32_w (a : Option Addr) (n c : Nat) (l : List UInt8) (k : Nat) (w : World) (hb : Bs w a n c (ints l)) (h : k + 4 ≤ n) :
    Calls Tryd.prog 29 #[.slice a n c, .int .i64 (k : Int)] w fun e w' => e = .returned (.tuple #[.int .u32 ((qt l k).toNat : Int), .int .i64 0]) ∧ w = w' := by
  rw [qt, of32 (get4_lt l k), ← le4_get4]
  exact get32_ok a n c _ k w hb h
theorem rget16_w (a : Option Addr) (n c : Nat) (l : List UInt8) (k : Nat) (w : World) (hb : Bs w a n c (ints l)) (h : k + 2 ≤ n) :
    Calls Tryd.prog 32 #[.slice a n c, .int .i64 (k : Int)] w fun e w' => e = .returned (.tuple #[.int .u16 ((pt l k).toNat : Int), .int .i64 0]) ∧ w = w' := by
  rw [pt, of16 (at2_lt l k), ← le2_at2]
  exact rget16_ok a n c _ k w hb h
theorem rget32_w (a : Option Addr) (n c : Nat) (l : List UInt8) (k : Nat) (w : World) (hb : Bs w a n c (ints l)) (h : k + 4 ≤ n) :
    Calls Tryd.prog 31 #[.slice a n c, .int .i64 (k : Int)] w fun e w' => e = .returned (.tuple #[.int .u32 ((qt l k).toNat : Int), .int .i64 0]) ∧ w = w' := by
  rw [qt, of32 (get4_lt l k), ← le4_get4]
  exact rget32_ok a n c _ k w hb h
set_option maxRecDepth 100000 in
theorem putPointer_any (g k : Nat) (x : UInt16) (l : List UInt8) (w : World) (hR : Row w g l) (hl : l.length = 18) (hk : k + 2 ≤ 18) :
    Calls Tryd.prog 25 #[.pointer (some ⟨g, 0, none⟩), .int .i64 (k : Int), .int .u16 (x.toNat : Int)] w fun e w' => e = .returned (.tuple #[]) ∧ Row w' g (splice l k (lo2 x.toNat)) ∧ Stp (fun y => y = g) w w' := by
  have hsub := fun w => run_subL ar18 w g k (by omega)
  have hl2 : (lo2 x.toNat).length = 2 := rfl
  go_enter Tryd.func25, Tryd.ntmps25
  go_wp2_with (first
    | (go_at_call 36; refine (put16_w x _).mono ?_; rintro e w1 ⟨rfl, b1⟩)
    | (refine at_new 72 2 ar2 (by rfl) (by rfl) ?_; intro g2 w2 a2 z2 r2 b2)
    | (refine at_put 72 2 ar2 (by rfl) _ _ (by rfl) g2 (by rfl) (lo2 x.toNat) (by rfl) hl2 _ r2 (by simp) ?_; intro w3 r3 s3))
  have B2 := bnext b1 b2 (Nat.le_refl _)
  have hg2 : w.heap.size ≤ g2 := by have := b1.size; omega
  have hRg : Row w3 g l := (hR.later B2).step s3 (by have := hR.lt; omega)
  have S3 : Stp (fun y => y = g) w w3 := (Stp.of_below B2 _).next s3 (fun y hy => .inr (by subst hy; exact hg2))
  go_region_law (refine step_copyR rfl (.tmp 12) (.tmp 13) rfl g k (18 - k) (18 - k) g2 2 2 (by simp [Act.eval, Act.put]) (by simp [Act.eval, Act.put]) l (lo2 x.toNat) (hRg.later (by go_grown)) (r3.later (by go_grown)) (by omega) (by omega) (Nat.le_refl 2) ?_; intro w4 r4 s4)
  go_wp2
  go_returns
  exact ⟨rfl, r4, S3.drew.next s4 (fun _ h => .inl h)⟩
theorem pointerAt_any (l : List UInt8) (k : Nat) (w : World) (hl : l.length = 18) (hk : k + 2 ≤ 18) :
    Calls Tryd.prog 30 #[.agg (cells l).toArray, .int .i64 (k : Int)] w fun e w' => e = .returned (.int .u16 ((pt l k).toNat : Int)) ∧ Below w.heap.size w w' := by
  go_enter Tryd.func30, Tryd.ntmps30
  go_wp2_with (first
    | (refine at_box 27 18 ar18 (by rfl) _ (by rfl) l (by rfl) hl ?_; intro g1 w1 a1 z1 r1 b1
       have y1 := r1.bs0 18 18 (by omega) (Nat.le_refl _) (by decide)
       rw [List.take_of_length_le (by omega)] at y1)
    | (go_at_call 39; refine (get16_w _ 18 18 l k _ y1 hk).mono ?_; rintro e w2 ⟨rfl, rfl⟩))
  go_returns
  exact ⟨rfl, b1⟩
end Go.Proofs.YtbpnegklglaekaaDoor
