/-
  What putAt, getAt and Put of layer 8 return, and the document's Put: no statement is proved here.
-/
import Derived.Test.YtjbgcbokffaemaaSupA
import Derived.Test.YtjbgcbokffaemaaGeoB
namespace Go.Proofs.Ytjbgcbokffaemaa
open Go.ChangeShapes Go.WideShapes Go.ChangeAt Go.RowKit
set_option linter.unusedVariables false

theorem sputAt_4 (g x : Nat) (l : List UInt8) (w : World) (hR : Row w g l) (hl : l.length = 54) (hx : x < 65536) :
    Calls Try.prog 22 #[.pointer (some ⟨g, 0, none⟩), .int .i64 4, .int .i64 (x : Int)] w fun e w' => e = .returned (.tuple #[]) ∧ Row w' g (splice l 4 (u2 x)) ∧ Stp (fun y => y = g) w w' := by
  have hW : IntKind.u16.wrap (x : Int) = (x : Int) := by rw [IntKind.wrap_u16]; omega
  go_enter Try.func22, Try.ntmps22
  go_wp2_with (go_at_call 39; refine (put16_any (x : Int) w (by omega) (by omega)).mono ?_; rintro e w1 ⟨rfl, b1⟩)
  have r2 := Row.made w1 (u2 x) 78
  rw [cells_u2 hx] at r2
  have b2 : Below w.heap.size w (w1.alloc (Obj.cells #[Value.int IntKind.u8 ((x : Int) % 256), Value.int IntKind.u8 ((x : Int) / 256)] 78)) := b1.alloc b1.size _
  have hG : g < w1.heap.size := Nat.lt_of_lt_of_le hR.lt b1.size
  have hR2 := hR.later b2
  generalize w1.alloc (Obj.cells #[Value.int IntKind.u8 ((x : Int) % 256), Value.int IntKind.u8 ((x : Int) / 256)] 78) = w2 at *
  generalize w1.heap.size = g2 at *
  go_region_law (refine step_copyR rfl (.tmp 13) (.tmp 14) rfl g 4 50 50 g2 2 2 (by simp [Act.eval, Act.put]) (by simp [Act.eval, Act.put]) l (u2 x) (hR2.later (by go_grown)) (r2.later (by go_grown)) (by omega) (by omega) (Nat.le_refl 2) ?_; intro w3 r3 s3)
  go_wp2
  go_returns
  exact ⟨rfl, r3, (Stp.of_below b2 _).drew.next s3 (fun _ h => .inl h)⟩
theorem sputAt_6 (g x : Nat) (l : List UInt8) (w : World) (hR : Row w g l) (hl : l.length = 54) (hx : x < 65536) :
    Calls Try.prog 22 #[.pointer (some ⟨g, 0, none⟩), .int .i64 6, .int .i64 (x : Int)] w fun e w' => e = .returned (.tuple #[]) ∧ Row w' g (splice l 6 (u2 x)) ∧ Stp (fun y => y = g) w w' := by
  have hW : IntKind.u16.wrap (x : Int) = (x : Int) := by rw [IntKind.wrap_u16]; omega
  go_enter Try.func22, Try.ntmps22
  go_wp2_with (go_at_call 39; refine (put16_any (x : Int) w (by omega) (by omega)).mono ?_; rintro e w1 ⟨rfl, b1⟩)
  have r2 := Row.made w1 (u2 x) 78
  rw [cells_u2 hx] at r2
  have b2 : Below w.heap.size w (w1.alloc (Obj.cells #[Value.int IntKind.u8 ((x : Int) % 256), Value.int IntKind.u8 ((x : Int) / 256)] 78)) := b1.alloc b1.size _
  have hG : g < w1.heap.size := Nat.lt_of_lt_of_le hR.lt b1.size
  have hR2 := hR.later b2
  generalize w1.alloc (Obj.cells #[Value.int IntKind.u8 ((x : Int) % 256), Value.int IntKind.u8 ((x : Int) / 256)] 78) = w2 at *
  generalize w1.heap.size = g2 at *
  go_region_law (refine step_copyR rfl (.tmp 13) (.tmp 14) rfl g 6 48 48 g2 2 2 (by simp [Act.eval, Act.put]) (by simp [Act.eval, Act.put]) l (u2 x) (hR2.later (by go_grown)) (r2.later (by go_grown)) (by omega) (by omega) (Nat.le_refl 2) ?_; intro w3 r3 s3)
  go_wp2
  go_returns
  exact ⟨rfl, r3, (Stp.of_below b2 _).drew.next s3 (fun _ h => .inl h)⟩
theorem sputAt_8 (g x : Nat) (l : List UInt8) (w : World) (hR : Row w g l) (hl : l.length = 54) (hx : x < 65536) :
    Calls Try.prog 22 #[.pointer (some ⟨g, 0, none⟩), .int .i64 8, .int .i64 (x : Int)] w fun e w' => e = .returned (.tuple #[]) ∧ Row w' g (splice l 8 (u2 x)) ∧ Stp (fun y => y = g) w w' := by
  have hW : IntKind.u16.wrap (x : Int) = (x : Int) := by rw [IntKind.wrap_u16]; omega
  go_enter Try.func22, Try.ntmps22
  go_wp2_with (go_at_call 39; refine (put16_any (x : Int) w (by omega) (by omega)).mono ?_; rintro e w1 ⟨rfl, b1⟩)
  have r2 := Row.made w1 (u2 x) 78
  rw [cells_u2 hx] at r2
  have b2 : Below w.heap.size w (w1.alloc (Obj.cells #[Value.int IntKind.u8 ((x : Int) % 256), Value.int IntKind.u8 ((x : Int) / 256)] 78)) := b1.alloc b1.size _
  have hG : g < w1.heap.size := Nat.lt_of_lt_of_le hR.lt b1.size
  have hR2 := hR.later b2
  generalize w1.alloc (Obj.cells #[Value.int IntKind.u8 ((x : Int) % 256), Value.int IntKind.u8 ((x : Int) / 256)] 78) = w2 at *
  generalize w1.heap.size = g2 at *
  go_region_law (refine step_copyR rfl (.tmp 13) (.tmp 14) rfl g 8 46 46 g2 2 2 (by simp [Act.eval, Act.put]) (by simp [Act.eval, Act.put]) l (u2 x) (hR2.later (by go_grown)) (r2.later (by go_grown)) (by omega) (by omega) (Nat.le_refl 2) ?_; intro w3 r3 s3)
  go_wp2
  go_returns
  exact ⟨rfl, r3, (Stp.of_below b2 _).drew.next s3 (fun _ h => .inl h)⟩
theorem le2_ints (l : List UInt8) (k : Nat) : le2 (ints l) k = ((get2 l k : Nat) : Int) := by
  unfold le2 get2
  rw [ints_getD, ints_getD]; omega
theorem get16_at (g : Nat) (l : List UInt8) (k : Nat) (w : World) (h : Row w g l) (hl : l.length = 54) (hk : k + 2 ≤ 54) :
    Calls Try.prog 40 #[.slice (some ⟨g, 0, none⟩) 54 54, .int .i64 (k : Int)] w fun e w' => e = .returned (.tuple #[.int .u16 (get2 l k : Nat), .int .i64 0]) ∧ w = w' := by
  have hb := h.bs0 54 54 (by omega) (Nat.le_refl _) (by decide)
  rw [List.take_of_length_le (by omega)] at hb
  rw [← le2_ints]
  exact get16_ok _ 54 54 _ k w hb hk
theorem rget16_at (g : Nat) (l : List UInt8) (k : Nat) (w : World) (h : Row w g l) (hl : l.length = 54) (hk : k + 2 ≤ 54) :
    Calls Try.prog 26 #[.slice (some ⟨g, 0, none⟩) 54 54, .int .i64 (k : Int)] w fun e w' => e = .returned (.tuple #[.int .u16 (get2 l k : Nat), .int .i64 0]) ∧ w = w' := by
  have hb := h.bs0 54 54 (by omega) (Nat.le_refl _) (by decide)
  rw [List.take_of_length_le (by omega)] at hb
  rw [← le2_ints]
  exact rget16_ok _ 54 54 _ k w hb hk
theorem getAt_any (p : Ld) (k : Nat) (w : World) (hk : k + 2 ≤ 54) :
    Calls Try.prog 25 #[.agg p.cs.toArray, .int .i64 (k : Int)] w fun e w' => e = .returned (.int .i64 (get2 p.l k : Nat)) ∧ Below w.heap.size w w' := by
  have hp := p.len
  have hx := get2_lt p.l k
  go_enter Try.func25, Try.ntmps25
  go_wp2_with (first
    | (refine at_box 25 54 arrL (by rfl) _ (by rfl) p.l (by rfl) hp ?_; intro g1 w1 a1 z1 r1 b1)
    | (go_at_call 40; refine (get16_at g1 p.l k _ r1 hp hk).mono ?_; rintro e w2 ⟨rfl, rfl⟩))
  go_returns
  exact ⟨rfl, b1⟩
end Go.Proofs.Ytjbgcbokffaemaa
