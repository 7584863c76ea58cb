/-
  What the small functions of layer 1 and of its reference return, each for every input: no statement is proved here.
-/
import Derived.Test.YthanenbjfcndbaaRows
import Derived.Test.YthanenbjfcndbaaPlain
namespace Go.Proofs.Ythanenbjfcndbaa
open Go.ChangeShapes Go.WideShapes Go.ChangeAt Go.RowKit
set_option linter.unusedVariables false

theorem mask_any (i : Nat) (w : World) (h1 : i ≤ 9223372036854775807) :
    Calls Try.prog 47 #[.int .i64 i] w fun e w' => e = .returned (.int .u8 (p2 i)) ∧ w' = w := by
  have e : Hid ((2 : Int) ^ (i % 8) % 256 = p2 i) := by
    have hp := p2_range i
    show _ % 256 = _
    unfold p2 at *; omega
  go_enter Try.func47, Try.ntmps47
  go_wp2
  go_returns
  exact ⟨by rw [← e.out]; rfl, rfl⟩

theorem has_yes (a : Option Addr) (n c : Nat) (i : Nat) (w : World) (hc : n ≤ 9223372036854775807) (h2 : i ≤ 9223372036854775807) (h3 : i / 8 < n) :
    Calls Try.prog 43 #[.slice a n c, .int .i64 i] w fun e w' => e = .returned (.bool true) ∧ w = w' := by
  have h0 : 0 ≤ (i : Int) := by omega
  have h4 : (i : Int) / 8 < n := by omega
  go_enter Try.func43, Try.ntmps43
  go_wp2
  go_returns
  exact ⟨rfl, rfl⟩

theorem has_no (a : Option Addr) (n c : Nat) (i : Int) (w : World) (hc : n ≤ 9223372036854775807) (h1 : -9223372036854775808 ≤ i) (h2 : i ≤ 9223372036854775807) (h : ¬ (0 ≤ i ∧ i / 8 < n)) :
    Calls Try.prog 43 #[.slice a n c, .int .i64 i] w fun e w' => e = .returned (.bool false) ∧ w = w' := by
  by_cases h0 : 0 ≤ i
  · have h3 : ¬ i / 8 < n := fun h' => h ⟨h0, h'⟩
    clear h
    go_enter Try.func43, Try.ntmps43
    go_wp2
    go_returns
    exact ⟨rfl, rfl⟩
  · clear h
    go_enter Try.func43, Try.ntmps43
    go_wp2
    go_returns
    exact ⟨rfl, rfl⟩

theorem isSet_any (a : Option Addr) (n c : Nat) (l : List Int) (i : Nat) (w : World) (hb : Bs w a n c l) (h : i / 8 < n) (hi' : i ≤ 9223372036854775807) :
    Calls Try.prog 44 #[.slice a n c, .int .i64 i] w fun e w' => e = .returned (.bool (bitB l i)) ∧ ∃ k, w' = w.drewN k := by
  obtain ⟨b, o, rfl, hc⟩ := hb.cell (by omega)
  have hm := hb.cap; have hle := hb.le; unfold maxLen at hm
  have r0 := hb.range' (i / 8)
  have c0 := hc (i / 8) (by omega)
  have hi : (i : Int) / 8 < n := by omega
  have e : Hid ((bits .and .u8 (l[i / 8]?.getD 0) (p2 i) != 0) = bitB l i) := by
    show (_ != _) = _
    rw [and_bit _ _ r0]; unfold bitB; rw [List.getD_eq_getElem?_getD]; exact bit_ne _ _
  rw [List.getD_eq_getElem?_getD] at c0
  clear hc hb
  go_enter Try.func44, Try.ntmps44
  go_wp2
  go_quiet ((go_at_call 47; exact Calls.quiet_of_same (mask_any _ _ hi')))
  go_wp2
  go_returns
  exact ⟨by rw [← e.out]; rfl, _, rfl⟩

theorem isSet_at (a : Option Addr) (n c : Nat) (l : List Int) (I : Int) (i : Nat) (w : World) (hb : Bs w a n c l) (hI : I = i) (h : i / 8 < n) (hi' : i ≤ 9223372036854775807) :
    Calls Try.prog 44 #[.slice a n c, .int .i64 I] w fun e w' => e = .returned (.bool (bitB l i)) ∧ ∃ k, w' = w.drewN k := by
  subst hI; exact isSet_any a n c l i w hb h hi'

theorem bit_ok (a : Option Addr) (n c : Nat) (l : List Int) (i : Nat) (w : World) (hb : Bs w a n c l) (h : i / 8 < n) (hi' : i ≤ 9223372036854775807) :
    Calls Try.prog 28 #[.slice a n c, .int .i64 i] w fun e w' => e = .returned (.tuple #[.bool (bitB l i), .int .i64 0]) ∧ ∃ k, w' = w.drewN k := by
  have hm := hb.cap; have hle := hb.le; unfold maxLen at hm
  go_enter Try.func28, Try.ntmps28
  go_wp2_with (first
    | (go_at_call 43; refine (has_yes a n c i w (by omega) (by omega) (by omega)).mono ?_; rintro e w' ⟨rfl, rfl⟩)
    | (go_at_call 44; refine (isSet_any a n c l i _ hb h hi').mono ?_; rintro e w' ⟨rfl, k, rfl⟩))
  go_returns
  exact ⟨rfl, _, rfl⟩

theorem bit_no (a : Option Addr) (n c : Nat) (i : Int) (w : World) (hc : n ≤ 9223372036854775807) (h1 : -9223372036854775808 ≤ i) (h2 : i ≤ 9223372036854775807) (h : ¬ (0 ≤ i ∧ i / 8 < n)) :
    Calls Try.prog 28 #[.slice a n c, .int .i64 i] w fun e w' => e = .returned (.tuple #[.bool false, .int .i64 2]) ∧ w = w' := by
  have H : Hid (¬ (0 ≤ i ∧ i / 8 < n)) := h
  clear h
  go_enter Try.func28, Try.ntmps28
  go_wp2_with (go_at_call 43; refine (has_no a n c i w (by omega) (by omega) (by omega) H.out).mono ?_; rintro e w' ⟨rfl, rfl⟩)
  go_returns
  exact ⟨rfl, rfl⟩

theorem bound_any (a : Option Addr) (n c : Nat) (m : Int) (w : World) (hc : n ≤ 1000000000000000000) (h1 : -9223372036854775808 ≤ m) (h2 : m ≤ 9223372036854775807) :
    Calls Try.prog 49 #[.slice a n c, .int .i64 m] w fun e w' => e = .returned (.int .i64 (bnd n m)) ∧ w = w' := by
  go_enter Try.func49, Try.ntmps49
  go_wp2
  all_goals (go_returns; exact ⟨ret_int (by unfold bnd; omega), rfl⟩)

theorem count_any (a : Option Addr) (n c : Nat) (l : List Int) (m : Int) (w : World) (hb : Bs w a n c l) (hc : n ≤ 1000000000000000000) (h1 : -9223372036854775808 ≤ m) (h2 : m ≤ 9223372036854775807) :
    Calls Try.prog 41 #[.slice a n c, .int .i64 m] w fun e w' => e = .returned (.int .i64 (cnt l (bnd n m))) ∧ ∃ k, w' = w.drewN k := by
  have hB : bnd n m ≤ 8 * n := bnd_le n m
  have hbound := bound_any a n c m w hc h1 h2
  obtain ⟨B, HB⟩ : ∃ B, B = bnd n m := ⟨_, rfl⟩
  rw [← HB] at hB hbound ⊢
  clear HB
  go_enter Try.func41, Try.ntmps41
  go_wp2_with (go_at_call 49; refine hbound.mono ?_; rintro e w' ⟨rfl, rfl⟩)
  go_loopw [5, 10] (fun v i wr => ∃ k : Nat, k ≤ B ∧ i = .int .i64 k ∧ v = .int .i64 (cnt l k) ∧ ∃ q, wr = w.drewN q) (fun _ i _ => B - (intOf i).toNat)
  case atStart => exact ⟨0, Nat.zero_le _, rfl, rfl, 0, rfl⟩
  case round =>
    obtain ⟨k, hk, rfl, rfl, q, rfl⟩ := hrel
    have hr := cnt_range l k
    by_cases hlt : k < B
    · have hb' : Bs (w.drewN q) a n c l := hb.drewN q
      by_cases hbit : bitB l k = true
      · go_wp2_with (go_at_call 44; refine (isSet_any a n c l k _ hb' (by omega) (by omega)).mono ?_; rintro e w' ⟨rfl, k', rfl⟩)
        go_roundw
        case rel => exact ⟨k + 1, by omega, by go_num, by simp [cnt, hbit], _, rfl⟩
        case measure => simp [intOf]; omega
      · go_wp2_with (go_at_call 44; refine (isSet_any a n c l k _ hb' (by omega) (by omega)).mono ?_; rintro e w' ⟨rfl, k', rfl⟩)
        go_roundw
        case rel => exact ⟨k + 1, by omega, by go_num, by simp [cnt, hbit], _, rfl⟩
        case measure => simp [intOf]; omega
    · obtain rfl : k = B := by omega
      go_wp2
      go_returns
      exact ⟨rfl, _, rfl⟩
end Go.Proofs.Ythanenbjfcndbaa
