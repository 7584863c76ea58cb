/-
  What the numbers' functions of layer 1 and of its reference return, each for every input, and that the fixed whole works: no statement is proved here.
-/
import Derived.Test.YtccooigblgnndaaNumE
namespace Go.Proofs.Ytccooigblgnndaa
open Go.ChangeShapes Go.WideShapes Go.ChangeAt Go.RowKit
set_option linter.unusedVariables false

theorem rfirst_any (a : Option Addr) (n c : Nat) (l : List Int) (f m : Int) (w : World) (hb : Bs w a n c l) (hc : n ≤ 1000000000000000000) (h1 : -9223372036854775808 ≤ m) (h2 : m ≤ 9223372036854775807)
    (h3 : -9223372036854775808 ≤ f) (h4 : f ≤ 9223372036854775807) :
    Calls Try.prog 27 #[.slice a n c, .int .i64 f, .int .i64 m] w fun e w' => e = .returned (.int .i64 (fz l (bnd n m - f.toNat) f.toNat)) ∧ ∃ k, w' = w.drewN k := by
  have hB : bnd n m ≤ 8 * n := bnd_le n m
  obtain ⟨B, HB⟩ : ∃ B, B = bnd n m := ⟨_, rfl⟩
  have hB1 : Hid (∀ k : Nat, k < B → (k : Int) < m ∧ (k : Int) / 8 < n) := fun k hk => by unfold bnd at HB; omega
  have hB2 : Hid (∀ k : Nat, B ≤ k → ¬ ((k : Int) < m ∧ (k : Int) / 8 < n)) := fun k hk => by unfold bnd at HB; omega
  rw [← HB] at hB ⊢
  clear HB
  obtain ⟨g, hg⟩ : ∃ g : Nat, f.toNat = g := ⟨_, rfl⟩
  rw [hg]
  have hmax : (f < 0 ∧ g = 0) ∨ f = (g : Int) := by omega
  clear hg
  rcases hmax with ⟨hf, rfl⟩ | rfl
  · rw [Nat.sub_zero]
    go_enter Try.func27, Try.ntmps27
    go_wp2
    go_loopw [7] (fun i wr => ∃ k : Nat, i = .int .i64 k ∧ (k : Int) ≤ 9223372036854775807 ∧ fz l B 0 = fz l (B - k) k ∧ ∃ q, wr = w.drewN q) (fun i _ => B - (intOf i).toNat)
    case atStart => exact ⟨0, rfl, by decide, rfl, 0, rfl⟩
    case round =>
      obtain ⟨k, rfl, hk, HF, q, rfl⟩ := hrel
      have hH : Hid (fz l B 0 = fz l (B - k) k) := HF
      clear HF
      by_cases hlt : k < B
      · have hb' : Bs (w.drewN q) a n c l := hb.drewN q
        obtain ⟨g1, g2⟩ := hB1.out k hlt
        have hst : Hid (fz l (B - k) k = if bitB l k then fz l (B - (k + 1)) (k + 1) else (k : Int)) := by
          show _ = _
          rw [show B - k = (B - (k + 1)) + 1 by omega]; rfl
        by_cases hbit : bitB l k = true
        · go_wp2_with (go_at_call 21; refine (rbit_ok a n c l k _ hb' (by omega) (by omega)).mono ?_; rintro e w' ⟨rfl, k', rfl⟩)
          go_roundw
          case rel => exact ⟨k + 1, by go_num, by omega, by rw [hH.out, hst.out, if_pos hbit], _, rfl⟩
          case measure => simp [intOf]; omega
        · go_wp2_with (go_at_call 21; refine (rbit_ok a n c l k _ hb' (by omega) (by omega)).mono ?_; rintro e w' ⟨rfl, k', rfl⟩)
          go_returns
          exact ⟨ret_int (by rw [hH.out, hst.out, if_neg hbit]), _, rfl⟩
      · have hk' : B - k = 0 := by omega
        have hst : Hid (fz l (B - k) k = -1) := by show _ = _; rw [hk']; rfl
        clear hk'
        have hg := hB2.out k (by omega)
        by_cases g1 : (k : Int) < m
        · have g2 : ¬ (k : Int) / 8 < n := fun h => hg ⟨g1, h⟩
          clear hg
          go_wp2
          go_returns
          exact ⟨ret_int (by rw [hH.out, hst.out]), _, rfl⟩
        · clear hg
          go_wp2
          go_returns
          exact ⟨ret_int (by rw [hH.out, hst.out]), _, rfl⟩
  · go_enter Try.func27, Try.ntmps27
    go_wp2
    go_loopw [7] (fun i wr => ∃ k : Nat, i = .int .i64 k ∧ (k : Int) ≤ 9223372036854775807 ∧ fz l (B - g) g = fz l (B - k) k ∧ ∃ q, wr = w.drewN q) (fun i _ => B - (intOf i).toNat)
    case atStart => exact ⟨g, rfl, by omega, rfl, 0, rfl⟩
    case round =>
      obtain ⟨k, rfl, hk, HF, q, rfl⟩ := hrel
      have hH : Hid (fz l (B - g) g = fz l (B - k) k) := HF
      clear HF
      by_cases hlt : k < B
      · have hb' : Bs (w.drewN q) a n c l := hb.drewN q
        obtain ⟨g1, g2⟩ := hB1.out k hlt
        have hst : Hid (fz l (B - k) k = if bitB l k then fz l (B - (k + 1)) (k + 1) else (k : Int)) := by
          show _ = _
          rw [show B - k = (B - (k + 1)) + 1 by omega]; rfl
        by_cases hbit : bitB l k = true
        · go_wp2_with (go_at_call 21; refine (rbit_ok a n c l k _ hb' (by omega) (by omega)).mono ?_; rintro e w' ⟨rfl, k', rfl⟩)
          go_roundw
          case rel => exact ⟨k + 1, by go_num, by omega, by rw [hH.out, hst.out, if_pos hbit], _, rfl⟩
          case measure => simp [intOf]; omega
        · go_wp2_with (go_at_call 21; refine (rbit_ok a n c l k _ hb' (by omega) (by omega)).mono ?_; rintro e w' ⟨rfl, k', rfl⟩)
          go_returns
          exact ⟨ret_int (by rw [hH.out, hst.out, if_neg hbit]), _, rfl⟩
      · have hk' : B - k = 0 := by omega
        have hst : Hid (fz l (B - k) k = -1) := by show _ = _; rw [hk']; rfl
        clear hk'
        have hg := hB2.out k (by omega)
        by_cases g1 : (k : Int) < m
        · have g2 : ¬ (k : Int) / 8 < n := fun h => hg ⟨g1, h⟩
          clear hg
          go_wp2
          go_returns
          exact ⟨ret_int (by rw [hH.out, hst.out]), _, rfl⟩
        · clear hg
          go_wp2
          go_returns
          exact ⟨ret_int (by rw [hH.out, hst.out]), _, rfl⟩
end Go.Proofs.Ytccooigblgnndaa
