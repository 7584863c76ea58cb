/-
  Sums of parts that a call lays, and that the fixed whole of layer 2 works: no statement is proved here.
-/
import Derived.Test.YtlmhelkpcifcnaaCrcC
import Derived.Test.YtlmhelkpcifcnaaBaseB
import Derived.Lib.SmallJoins
namespace Go.Proofs.Ytlmhelkpcifcnaa
open Go.ChangeShapes Go.WideShapes Go.ChangeAt Go.RowKit
set_option linter.unusedVariables false

theorem of_lit1 {a : Option Addr} {n c : Nat} {l : List Int} (w : World) (g : Nat) (hg : w.heap.size = g) (h : Bs w a n c l) (hs : n ≤ 1000000) :
    Calls Try.prog 16 #[.slice (some ⟨g, 0, none⟩) 1 1] (w.alloc (.cells #[.slice a n c] 23)) fun e w' => e = .returned (.int .u32 (sumOf l : Nat)) ∧ Below w.heap.size w w' := by
  subst hg
  have hb := bss_alloc w 23 [.slice a n c] [l] rfl (show 1 ≤ maxLen by decide) (fun i hi => by
    match i, hi with
    | 0, _ => exact ⟨_, _, _, rfl, h⟩)
  have := h.len
  refine (of_any _ _ _ _ _ hb (by simp; omega)).mono ?_
  rintro e w' ⟨rfl, hbel⟩
  refine ⟨by simp, bstep ((Below.refl _ w).alloc (Nat.le_refl _) _) hbel (by simp)⟩

theorem of_lit2 {a a' : Option Addr} {n c n' c' : Nat} {l l' : List Int} (w : World) (g : Nat) (hg : w.heap.size = g) (h : Bs w a n c l) (h' : Bs w a' n' c' l') (hs : n ≤ 1000000) (hs' : n' ≤ 1000000) :
    Calls Try.prog 16 #[.slice (some ⟨g, 0, none⟩) 2 2] (w.alloc (.cells #[.slice a n c, .slice a' n' c'] 23)) fun e w' => e = .returned (.int .u32 (sumOf (l ++ l') : Nat)) ∧ Below w.heap.size w w' := by
  subst hg
  have hb := bss_alloc w 23 [.slice a n c, .slice a' n' c'] [l, l'] rfl (show 2 ≤ maxLen by decide) (fun i hi => by
    match i, hi with
    | 0, _ => exact ⟨_, _, _, rfl, h⟩
    | 1, _ => exact ⟨_, _, _, rfl, h'⟩)
  have := h.len; have := h'.len
  refine (of_any _ _ _ _ _ hb (by simp; omega)).mono ?_
  rintro e w' ⟨rfl, hbel⟩
  refine ⟨by simp, bstep ((Below.refl _ w).alloc (Nat.le_refl _) _) hbel (by simp)⟩

theorem of_lit3 {a a' a2 : Option Addr} {n c n' c' n2 c2 : Nat} {l l' l2 : List Int} (w : World) (g : Nat) (hg : w.heap.size = g) (h : Bs w a n c l) (h' : Bs w a' n' c' l') (h2 : Bs w a2 n2 c2 l2) (hs : n ≤ 1000000) (hs' : n' ≤ 1000000) (hs2 : n2 ≤ 1000000) :
    Calls Try.prog 16 #[.slice (some ⟨g, 0, none⟩) 3 3] (w.alloc (.cells #[.slice a n c, .slice a' n' c', .slice a2 n2 c2] 23)) fun e w' => e = .returned (.int .u32 (sumOf (l ++ (l' ++ l2)) : Nat)) ∧ Below w.heap.size w w' := by
  subst hg
  have hb := bss_alloc w 23 [.slice a n c, .slice a' n' c', .slice a2 n2 c2] [l, l', l2] rfl (show 3 ≤ maxLen by decide) (fun i hi => by
    match i, hi with
    | 0, _ => exact ⟨_, _, _, rfl, h⟩
    | 1, _ => exact ⟨_, _, _, rfl, h'⟩
    | 2, _ => exact ⟨_, _, _, rfl, h2⟩)
  have := h.len; have := h'.len; have := h2.len
  refine (of_any _ _ _ _ _ hb (by simp; omega)).mono ?_
  rintro e w' ⟨rfl, hbel⟩
  refine ⟨by simp, bstep ((Below.refl _ w).alloc (Nat.le_refl _) _) hbel (by simp)⟩

theorem of_none (w : World) :
    Calls Try.prog 16 #[.slice none 0 0] w fun e w' => e = .returned (.int .u32 0) ∧ Below w.heap.size w w' := by
  have hb : Bss w none 0 0 [] := ⟨rfl, Nat.le_refl _, by decide, fun h => absurd h (by omega)⟩
  refine (of_any _ _ _ _ _ hb (by simp)).mono ?_
  rintro e w' ⟨rfl, hbel⟩
  exact ⟨by rw [show ([] : List (List Int)).flatten = [] from rfl, sum_nil]; rfl, hbel⟩

theorem digits : sumOf [49, 50, 51, 52, 53, 54, 55, 56, 57] = 3808858755 := by decide +kernel

def five : Obj := .cells #[.int .u8 49, .int .u8 50, .int .u8 51, .int .u8 52, .int .u8 53] 5 (5, 6)
def four : Obj := .cells #[.int .u8 54, .int .u8 55, .int .u8 56, .int .u8 57] 5 (4, 5)

theorem works_any (w : World) : Calls Try.prog 17 #[] w fun e w' => e = .returned (.bool true) ∧ Below w.heap.size w w' := by
  have hA : Bs (w.alloc five) (some ⟨w.heap.size, 0, none⟩) 5 5 [49, 50, 51, 52, 53] := bs_marked w 5 (5, 6) [49, 50, 51, 52, 53] (small_range (by decide)) (by decide)
  have hB : Bs ((w.alloc five).alloc four) (some ⟨(w.alloc five).heap.size, 0, none⟩) 4 4 [54, 55, 56, 57] := bs_marked (w.alloc five) 5 (4, 5) [54, 55, 56, 57] (small_range (by decide)) (by decide)
  have h1 : Hid _ := hA.later ((Below.refl _ _).alloc (Nat.le_refl _) four)
  have h2 : Hid _ := hB
  have cA : (convert 23 23 (.slice (some ⟨w.heap.size, 0, none⟩) 5 5)).run Try.prog (w.alloc (.cells #[.int .u8 49, .int .u8 50, .int .u8 51, .int .u8 52, .int .u8 53] 5)) = .ok (.slice (some ⟨w.heap.size, 0, none⟩) 5 5) (w.alloc five) :=
    Lib.run_convert_bytes_const w 23 5 _ 5 5 Try.underlying23 Try.underlying5
  have cB : (convert 23 23 (.slice (some ⟨w.heap.size + 1, 0, none⟩) 4 4)).run Try.prog ((w.alloc five).alloc (.cells #[.int .u8 54, .int .u8 55, .int .u8 56, .int .u8 57] 5)) = .ok (.slice (some ⟨w.heap.size + 1, 0, none⟩) 4 4) ((w.alloc five).alloc four) :=
    Go.Joins.run_convert_bytes_const_at (w.alloc five) 23 5 _ 4 4 (w.heap.size + 1) (by simp) Try.underlying23 Try.underlying5
  clear hA hB
  go_enter Try.func17, Try.ntmps17
  go_wp2_with (go_at_call 16; refine (of_lit2 _ _ (by simp) h1.out (by simpa using h2.out) (by omega) (by omega)).mono ?_; rintro e w' ⟨rfl, hbel⟩)
  go_returns
  exact ⟨ret_bool (by rw [digits]; rfl), bstep (((Below.refl _ w).alloc (Nat.le_refl _) five).alloc (by simp) four) hbel (by simp; omega)⟩
end Go.Proofs.Ytlmhelkpcifcnaa
