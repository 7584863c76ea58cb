/-
  What the functions of layer 2 without memory of their own, and its reference, return, each for every input: no statement is proved here.
-/
import Derived.Test.YteceapdkgidenaaCrcA
namespace Go.Proofs.Yteceapdkgidenaa
open Go.ChangeShapes Go.WideShapes Go.ChangeAt Go.RowKit
set_option linter.unusedVariables false

theorem radd_any (r : Nat) (a : Option Addr) (n c : Nat) (l : List Int) (w : World) (h : r < 4294967296) (hb : Bs w a n c l) :
    Calls Try.prog 56 #[.int .u32 (r : Int), .slice a n c] w fun e w' => e = .returned (.int .u32 (adds r l : Nat)) ∧ w = w' := by
  have hm := hb.cap; have hle := hb.le; unfold maxLen at hm
  have hlen := hb.len
  go_enter Try.func56, Try.ntmps56
  go_wp2
  go_loop [0, 5] (fun v i => ∃ k : Nat, k ≤ n ∧ i = .int .i64 k ∧ v = .int .u32 (adds r (l.take k) : Nat)) (fun _ i => n - (intOf i).toNat)
  case atStart => exact ⟨0, Nat.zero_le _, rfl, rfl⟩
  case round =>
    obtain ⟨k, hk, rfl, rfl⟩ := hrel
    have hL := adds_lt (l.take k) h (fun x hx => hb.byte x (List.mem_of_mem_take hx))
    by_cases hlt : k < n
    · obtain ⟨b, o, rfl, hc⟩ := hb.cell (by omega)
      have hS : Hid _ := adds_take r l k (by omega)
      have r0 := hb.range k
      have c0 := hc k hlt
      generalize adds r (l.take k) = q at *
      obtain ⟨x, hx⟩ : ∃ x : Nat, l.getD k 0 = (x : Int) := ⟨(l.getD k 0).toNat, by omega⟩
      rw [hx] at c0 r0 hS
      rw [Int.toNat_natCast] at hS
      have e := xor_int hL (show x < 256 by omega)
      have hl := xor_lt hL (show x < 4294967296 by omega)
      clear hc hb hx
      go_wp2_with (go_at_call 60; refine (rstep_any _ 8 w hl (by omega)).mono ?_; rintro e w' ⟨rfl, rfl⟩)
      go_round
      case rel => exact ⟨k + 1, by omega, by go_num, by rw [hS.out]; try rfl⟩
      case measure => simp [intOf]; omega
    · obtain rfl : k = n := by omega
      have hT : Hid (l.take k = l) := List.take_of_length_le (by omega)
      go_wp2
      go_returns
      exact ⟨by rw [hT.out]; rfl, rfl⟩

theorem rof_any (a : Option Addr) (n c : Nat) (l : List Int) (w : World) (hb : Bs w a n c l) :
    Calls Try.prog 44 #[.slice a n c] w fun e w' => e = .returned (.int .u32 (sumOf l : Nat)) ∧ w = w' := by
  have hL := adds_lt l (r := 4294967295) (by omega) hb.byte
  have hE : Hid ((sumOf l : Int) = 4294967295 - (adds 4294967295 l : Nat)) := by show _ = _; unfold sumOf; omega
  go_enter Try.func44, Try.ntmps44
  go_wp2_with (go_at_call 56; refine (radd_any 4294967295 _ _ _ _ _ (by omega) hb).mono ?_; rintro e w' ⟨rfl, rfl⟩)
  go_returns
  exact ⟨ret_int hE.out.symm, rfl⟩

theorem rstep_at (r n : Nat) (N : Int) (w : World) (h : r < 4294967296) (hn : n ≤ 1000000000000) (hN : N = (n : Int)) :
    Calls Try.prog 60 #[.int .u32 (r : Int), .int .i64 N] w fun e w' => e = .returned (.int .u32 (sts n r : Nat)) ∧ w = w' := by
  subst hN; exact rstep_any r n w h hn

end Go.Proofs.Yteceapdkgidenaa
