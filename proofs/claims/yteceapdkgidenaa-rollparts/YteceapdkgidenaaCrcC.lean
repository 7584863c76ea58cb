/-
  What the sums of layer 2 return, each for every input: no statement is proved here.
-/
import Derived.Test.YteceapdkgidenaaCrcB
import Derived.Test.YteceapdkgidenaaPlain3
namespace Go.Proofs.Yteceapdkgidenaa
open Go.ChangeShapes Go.WideShapes Go.ChangeAt Go.RowKit
set_option linter.unusedVariables false

theorem begin_any (w : World) :
    Calls Try.prog 62 #[] w fun e w' => e = .returned (.agg #[.int .u32 4294967295, .int .i64 0]) ∧ Below w.heap.size w w' := by
  go_enter Try.func62, Try.ntmps62
  go_wp2
  exact bodyPost_ret (v := .agg #[.int .u32 4294967295, .int .i64 0]) (by simp [results, Try.results62, go_sem]) rfl ⟨rfl, by go_grown⟩

theorem value_any (r : Nat) (n : Int) (w : World) (h : r < 4294967296) :
    Calls Try.prog 64 #[.agg #[.int .u32 (r : Int), .int .i64 n]] w fun e w' => e = .returned (.int .u32 (4294967295 - r : Nat)) ∧ Below w.heap.size w w' := by
  have e : Hid (bits .xor .u32 IntKind.u32.max (r : Int) = ((4294967295 - r : Nat) : Int)) := by
    show _ = _
    rw [not_eq h]; exact u32_xor_nat 4294967295 r (by omega) h
  go_enter Try.func64, Try.ntmps64
  go_wp2
  go_returns
  exact ⟨ret_int e.out, by go_grown⟩

theorem add_any (r : Nat) (N : Int) (a : Option Addr) (n c : Nat) (l : List Int) (w : World) (h : r < 4294967296) (hb : Bs w a n c l) (hN : 0 ≤ N) (hNn : N + n ≤ 9223372036854775807) :
    Calls Try.prog 63 #[.agg #[.int .u32 (r : Int), .int .i64 N], .slice a n c] w fun e w' => e = .returned (.agg #[.int .u32 (adds r l : Nat), .int .i64 (N + n)]) ∧ Below w.heap.size w w' := by
  have hm := hb.cap; have hle := hb.le; unfold maxLen at hm
  have hlen := hb.len
  go_enter Try.func63, Try.ntmps63
  go_wp2
  go_loopw [9] (fun i wr => ∃ k : Nat, k ≤ n ∧ i = .int .i64 k ∧ wr = (w.alloc (Obj.cells #[.int .u32 (adds r (l.take k) : Nat), .int .i64 N] 89)).alloc (Obj.cells #[.int .u32 0, .int .i64 0] 89)) (fun i _ => n - (intOf i).toNat)
  case atStart => exact ⟨0, Nat.zero_le _, rfl, rfl⟩
  case round =>
    obtain ⟨k, hk, rfl, rfl⟩ := hrel
    have hL := adds_lt (l.take k) h (fun x hx => hb.byte x (List.mem_of_mem_take hx))
    by_cases hlt : k < n
    · have hB := hb.later (((Below.refl w.heap.size w).alloc (Nat.le_refl _) (Obj.cells #[.int .u32 (adds r (l.take k) : Nat), .int .i64 N] 89)).alloc (by simp) (Obj.cells #[.int .u32 0, .int .i64 0] 89))
      obtain ⟨b, o, rfl, hc⟩ := hB.cell (by omega)
      have hS : Hid _ := adds_take r l k (by omega)
      have r0 := hb.range k
      have c0 := hc k hlt
      generalize adds r (l.take k) = q at *
      obtain ⟨x, hx⟩ : ∃ x : Nat, l.getD k 0 = (x : Int) := ⟨(l.getD k 0).toNat, by omega⟩
      rw [hx] at c0 r0 hS
      rw [Int.toNat_natCast] at hS
      clear hc hx hB
      go_wp2_with (go_at_call 66; refine (enter_any q x _ hL (by omega)).mono ?_; rintro e w' ⟨rfl, rfl⟩)
      go_roundw
      case rel => exact ⟨k + 1, by omega, by go_num, by rw [hS.out]⟩
      case measure => simp [intOf]; omega
    · obtain rfl : k = n := by omega
      have hT : l.take k = l := List.take_of_length_le (by omega)
      go_wp2
      exact bodyPost_ret (v := .agg #[.int .u32 (adds r l : Nat), .int .i64 (N + k)]) (by simp [results, Try.results63, go_sem]) rfl ⟨rfl, by go_grown⟩

/-- A sum lies in the block g: its register and its number. -/
structure Sm (w : World) (g : Nat) (r N : Int) : Prop where
  reg : w.cell? ⟨g, 0, none⟩ = some (.int .u32 r)
  num : w.cell? ⟨g, 1, none⟩ = some (.int .i64 N)
  fr0 : w.frozen? ⟨g, 0, none⟩ = false
  fr1 : w.frozen? ⟨g, 1, none⟩ = false
theorem Sm.lt {w : World} {g : Nat} {r N : Int} (h : Sm w g r N) : g < w.heap.size := World.block_lt_of_cell? w ⟨g, 0, none⟩ h.reg
theorem Sm.later {w w' : World} {g : Nat} {r N : Int} (h : Sm w g r N) (hb : Below w.heap.size w w') : Sm w' g r N :=
  ⟨by rw [hb.cell (p := ⟨g, 0, none⟩) h.lt]; exact h.reg, by rw [hb.cell (p := ⟨g, 1, none⟩) h.lt]; exact h.num,
   by rw [hb.frozen (p := ⟨g, 0, none⟩) h.lt]; exact h.fr0, by rw [hb.frozen (p := ⟨g, 1, none⟩) h.lt]; exact h.fr1⟩
theorem Sm.keep {B : List Nat} {w w' : World} {g : Nat} {r N : Int} (h : Sm w g r N) (hk : Keep B w w') (hg : g ∉ B) : Sm w' g r N :=
  ⟨hk.cell h.reg hg, hk.cell h.num hg, by rw [hk.frozen (p := ⟨g, 0, none⟩) h.lt hg]; exact h.fr0, by rw [hk.frozen (p := ⟨g, 1, none⟩) h.lt hg]; exact h.fr1⟩
theorem Sm.made (w : World) (r N : Int) : Sm (w.alloc (Obj.cells #[.int .u32 r, .int .i64 N] 89)) w.heap.size r N := by
  constructor <;> simp [go_sem]
theorem Sm.stored {w : World} {g : Nat} {r N : Int} (h : Sm w g r N) (r' N' : Int) : Sm ((w.setCell ⟨g, 0, none⟩ (.int .u32 r')).setCell ⟨g, 1, none⟩ (.int .i64 N')) g r' N' := by
  have h1 := h.reg; have h2 := h.num
  refine ⟨?_, ?_, by simpa using h.fr0, by simpa using h.fr1⟩
  · rw [World.cell?_setCell_other _ _ _ _ (by simp), World.cell?_setCell_same _ _ _ h1]
  · rw [World.cell?_setCell_same _ _ _ (by rw [World.cell?_setCell_other _ _ _ _ (by simp)]; exact h2)]

theorem of_any (a : Option Addr) (n c : Nat) (L : List (List Int)) (w : World) (hb : Bss w a n c L) (hs : L.flatten.length ≤ 1000000000000) :
    Calls Try.prog 58 #[.slice a n c] w fun e w' => e = .returned (.int .u32 (sumOf L.flatten : Nat)) ∧ Below w.heap.size w w' := by
  have hm := hb.cap; have hle := hb.le; unfold maxLen at hm
  have hlen := hb.len
  have hby := hb.byte
  go_enter Try.func58, Try.ntmps58
  go_wp2_with (go_at_call 62; refine (begin_any w).mono ?_; rintro e w1 ⟨rfl, h1⟩)
  have hsz := h1.size
  go_loopw [9] (fun i wr => ∃ k : Nat, k ≤ n ∧ i = .int .i64 k ∧ Below w.heap.size w wr ∧ Sm wr w1.heap.size (adds 4294967295 (L.take k).flatten : Nat) (L.take k).flatten.length) (fun i _ => n - (intOf i).toNat)
  case atStart => exact ⟨0, Nat.zero_le _, rfl, h1.alloc hsz _, Sm.made w1 _ _⟩
  case round =>
    obtain ⟨k, hk, rfl, hB, hM⟩ := hrel
    have hL := adds_lt (L.take k).flatten (r := 4294967295) (by omega) (flat_byte hby k)
    have hN : (L.take k).flatten.length ≤ 1000000000000 := by
      have : L.flatten = (L.take k).flatten ++ (L.drop k).flatten := by rw [← List.flatten_append, List.take_append_drop]
      rw [this, List.length_append] at hs; omega
    have m1 := hM.reg
    have m2 := hM.num
    have m3 := hM.fr0
    have m4 := hM.fr1
    have m5 := hM.lt
    by_cases hlt : k < n
    · obtain ⟨b, o, rfl, hc⟩ := (hb.later hB).cell (by omega)
      obtain ⟨x, y, z, c1, c2⟩ := hc k hlt
      have hS : Hid _ := flat_take L k (by omega)
      have hy := c2.len
      have hy1 := c2.le
      have hy2 := c2.cap
      unfold maxLen at hy2
      have hN2 : (L.take k).flatten.length + y ≤ 1000000000000 := by
        have e : L.flatten = (L.take (k + 1)).flatten ++ (L.drop (k + 1)).flatten := by rw [← List.flatten_append, List.take_append_drop]
        rw [e, List.length_append, hS.out, List.length_append, hy] at hs; omega
      generalize L.getD k [] = lk at *
      generalize hP : (L.take k).flatten = P at *
      go_wp2_with (go_at_call 63; refine (add_any _ _ _ _ _ _ _ hL c2 (by omega) (by omega)).mono ?_; rintro e w2 ⟨rfl, h2⟩; obtain ⟨hc2, hf2⟩ := (⟨fun b o h => h2.cell (p := ⟨b, o, none⟩) h, fun b o h => h2.frozen (p := ⟨b, o, none⟩) h⟩ : (∀ b o, b < _ → w2.cell? ⟨b, o, none⟩ = _) ∧ (∀ b o, b < _ → w2.frozen? ⟨b, o, none⟩ = _)))
      go_roundw
      case rel =>
        refine ⟨k + 1, by omega, by go_num, ((bnext hB h2 (Nat.le_refl _)).setCell (by simpa using hsz) _).setCell (by simpa using hsz) _, ?_⟩
        rw [hS.out, adds_append, List.length_append, hy]
        have := (hM.later h2).stored (adds (adds 4294967295 P) lk : Nat) ((P.length : Int) + (y : Int))
        simpa using this
      case measure => simp [intOf]; omega
    · obtain rfl : k = n := by omega
      have hT : L.take k = L := List.take_of_length_le (by omega)
      rw [hT] at m1 m2 hL hN
      have hE : Hid (4294967295 - adds 4294967295 L.flatten = sumOf L.flatten) := rfl
      clear hT
      go_wp2_with (go_at_call 64; refine (value_any _ _ _ hL).mono ?_; rintro e w2 ⟨rfl, h2⟩)
      go_returns
      exact ⟨rfl, bnext hB h2 (Nat.le_refl _)⟩
end Go.Proofs.Yteceapdkgidenaa
