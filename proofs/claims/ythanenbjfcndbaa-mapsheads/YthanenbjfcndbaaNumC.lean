/-
  What the functions of layer 1 and of its reference that go over bytes return, each for every input: no statement is proved here.
-/
import Derived.Test.YthanenbjfcndbaaNumA
import Derived.Test.YthanenbjfcndbaaNumB
namespace Go.Proofs.Ythanenbjfcndbaa
open Go.ChangeShapes Go.WideShapes Go.ChangeAt Go.RowKit
set_option linter.unusedVariables false

theorem first_any (a : Option Addr) (n c : Nat) (l : List Int) (f m : Int) (w : World) (hb : Bs w a n c l) (hc : n ≤ 1000000000000000000) (h1 : -9223372036854775808 ≤ m) (h2 : m ≤ 9223372036854775807)
    (h3 : -9223372036854775808 ≤ f) (h4 : f ≤ 9223372036854775807) :
    Calls Try.prog 37 #[.slice a n c, .int .i64 f, .int .i64 m] w fun e w' => e = .returned (.int .i64 (fz l (bnd n m - f.toNat) f.toNat)) ∧ ∃ k, w' = w.drewN k := by
  have hB : bnd n m ≤ 8 * n := bnd_le n m
  have hbound := bound_any a n c m w hc h1 h2
  obtain ⟨B, HB⟩ : ∃ B, B = bnd n m := ⟨_, rfl⟩
  obtain ⟨g, hg, hg'⟩ : ∃ g : Nat, f.toNat = g ∧ (if f < 0 then 0 else f) = (g : Int) := ⟨f.toNat, rfl, by split <;> omega⟩
  have hg2 : g ≤ 9223372036854775807 := by omega
  rw [← HB] at hB hbound ⊢
  rw [hg]
  clear HB
  by_cases hf : f < 0
  · have hg0 : g = 0 := by omega
    clear hg hg'
    subst hg0
    rw [Nat.sub_zero]
    go_enter Try.func37, Try.ntmps37
    go_wp2_with (go_at_call 49; refine hbound.mono ?_; rintro e w' ⟨rfl, rfl⟩)
    go_loopw [15] (fun i wr => ∃ k : Nat, k ≤ B ∧ i = .int .i64 k ∧ fz l (B) 0 = fz l (B - k) k ∧ ∃ q, wr = w.drewN q) (fun i _ => B - (intOf i).toNat)
    case atStart => exact ⟨0, Nat.zero_le _, rfl, rfl, 0, rfl⟩
    case round =>
      obtain ⟨k, hk, rfl, HF, q, rfl⟩ := hrel
      have hH : Hid (fz l (B) 0 = fz l (B - k) k) := HF
      clear HF
      by_cases hlt : k < B
      · have hb' : Bs (w.drewN q) a n c l := hb.drewN q
        have hst : Hid (fz l (B - k) k = if bitB l k then fz l (B - (k + 1)) (k + 1) else ((k : Nat) : Int)) := by
          show _ = _
          rw [show B - k = (B - (k + 1)) + 1 by omega]; rfl
        by_cases hbit : bitB l k = true
        · go_wp2_with (go_at_call 44; refine (isSet_at a n c l _ k _ hb' (by omega) (by omega) (by omega)).mono ?_; rintro e w' ⟨rfl, k', rfl⟩)
          go_roundw
          case rel => exact ⟨k + 1, by omega, by go_num, by rw [hH.out, hst.out, if_pos hbit], _, rfl⟩
          case measure => simp [intOf]; omega
        · go_wp2_with (go_at_call 44; refine (isSet_at a n c l _ k _ hb' (by omega) (by omega) (by omega)).mono ?_; rintro e w' ⟨rfl, k', rfl⟩)
          go_returns
          exact ⟨ret_int (by rw [hH.out, hst.out, if_neg hbit]; try omega), _, rfl⟩
      · have hk' : B - k = 0 := by omega
        have hst : Hid (fz l (B - k) k = -1) := by show _ = _; rw [hk']; rfl
        clear hk'
        go_wp2
        go_returns
        exact ⟨ret_int (by rw [hH.out, hst.out]), _, rfl⟩
  · obtain rfl : f = (g : Int) := by omega
    clear hg hg'
    go_enter Try.func37, Try.ntmps37
    go_wp2_with (go_at_call 49; refine hbound.mono ?_; rintro e w' ⟨rfl, rfl⟩)
    go_loopw [15] (fun i wr => ∃ k : Nat, k ≤ B - g ∧ i = .int .i64 k ∧ fz l (B - g) g = fz l (B - g - k) (g + k) ∧ ∃ q, wr = w.drewN q) (fun i _ => B - (intOf i).toNat)
    case atStart => exact ⟨0, Nat.zero_le _, rfl, rfl, 0, rfl⟩
    case round =>
      obtain ⟨k, hk, rfl, HF, q, rfl⟩ := hrel
      have hH : Hid (fz l (B - g) g = fz l (B - g - k) (g + k)) := HF
      clear HF
      by_cases hlt : k < B - g
      · have hb' : Bs (w.drewN q) a n c l := hb.drewN q
        have hst : Hid (fz l (B - g - k) (g + k) = if bitB l (g + k) then fz l (B - g - (k + 1)) (g + (k + 1)) else ((g + k : Nat) : Int)) := by
          show _ = _
          rw [show B - g - k = (B - g - (k + 1)) + 1 by omega]; rfl
        by_cases hbit : bitB l (g + k) = true
        · go_wp2_with (go_at_call 44; refine (isSet_at a n c l _ (g + k) _ hb' (by omega) (by omega) (by omega)).mono ?_; rintro e w' ⟨rfl, k', rfl⟩)
          go_roundw
          case rel => exact ⟨k + 1, by omega, by go_num, by rw [hH.out, hst.out, if_pos hbit], _, rfl⟩
          case measure => simp [intOf]; omega
        · go_wp2_with (go_at_call 44; refine (isSet_at a n c l _ (g + k) _ hb' (by omega) (by omega) (by omega)).mono ?_; rintro e w' ⟨rfl, k', rfl⟩)
          go_returns
          exact ⟨ret_int (by rw [hH.out, hst.out, if_neg hbit]; try omega), _, rfl⟩
      · have hk' : B - g - k = 0 := by omega
        have hst : Hid (fz l (B - g - k) (g + k) = -1) := by show _ = _; rw [hk']; rfl
        clear hk'
        go_wp2
        go_returns
        exact ⟨ret_int (by rw [hH.out, hst.out]), _, rfl⟩

theorem power_any (n : Nat) (w : World) (h : n ≤ 60) :
    Calls Try.prog 45 #[.int .i64 n] w fun e w' => e = .returned (.int .i64 (2 ^ n)) ∧ w = w' := by
  go_enter Try.func45, Try.ntmps45
  go_wp2
  go_loop [3, 4] (fun p i => ∃ k : Nat, k ≤ n ∧ i = .int .i64 k ∧ p = .int .i64 (2 ^ k)) (fun _ i => n - (intOf i).toNat)
  case atStart => exact ⟨0, Nat.zero_le _, rfl, rfl⟩
  case round =>
    obtain ⟨k, hk, rfl, rfl⟩ := hrel
    by_cases hlt : k < n
    · have hr := pow_range k (by omega)
      have hs : Hid ((2 : Int) ^ (k + 1) = 2 * 2 ^ k) := by show _ = _; rw [Int.pow_succ]; omega
      go_wp2
      go_round
      case rel => exact ⟨k + 1, by omega, by go_num, by rw [hs.out]⟩
      case measure => simp [intOf]; omega
    · obtain rfl : k = n := by omega
      go_wp2
      go_returns
      exact ⟨rfl, rfl⟩

theorem power_p2 (i : Nat) (w : World) :
    Calls Try.prog 45 #[.int .i64 ((i : Int) % 8)] w fun e w' => e = .returned (.int .i64 (p2 i)) ∧ w' = w := by
  have e : (i : Int) % 8 = ((i % 8 : Nat) : Int) := by omega
  rw [e]
  refine (power_any (i % 8) w (by omega)).mono ?_
  rintro e w' ⟨rfl, rfl⟩
  exact ⟨rfl, rfl⟩

end Go.Proofs.Ythanenbjfcndbaa
