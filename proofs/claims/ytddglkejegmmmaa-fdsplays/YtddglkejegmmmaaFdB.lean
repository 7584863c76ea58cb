/-
  What New, free and at of layer 24 return: no statement is proved here.
-/
import Derived.Test.YtddglkejegmmmaaFdA
namespace Go.Proofs.Ytddglkejegmmmaa
open Go.ChangeShapes Go.WideShapes Go.ChangeAt Go.RowKit
set_option linter.unusedVariables false
set_option linter.unusedSimpArgs false

theorem fnew_any (w : World) :
    Calls Try.prog 6 #[] w fun e w' => ∃ g U, e = .returned (.pointer (some ⟨g, 0, none⟩)) ∧ w.heap.size ≤ g ∧ Below w.heap.size w w' ∧ Fd w' U g fdNew ∧ ∀ x, U x → w.heap.size ≤ x := by
  have hz : ∀ u : World, (Instr.build 52 #[]).run Try.prog u = .ok (.agg (List.replicate 8 (Value.pointer none)).toArray) u := fun u => by kernel_rfl
  go_enter Try.func6, Try.ntmps6
  go_wp2
  go_returns
  exact ⟨_, _, rfl, Nat.le_refl _, by go_grown, Fd.made w _, fun x e => by rw [e]; exact Nat.le_refl _⟩
theorem ffree_any {w : World} {U : Nat → Prop} {g : Nat} {t : FT} (h : Fd w U g t) :
    Calls Try.prog 25 #[.pointer (some ⟨g, 0, none⟩)] w fun e w' => e = .returned (.int .i64 (fdFr t : Int)) ∧ w = w' := by
  obtain ⟨q, h⟩ := h
  go_enter Try.func25, Try.ntmps25
  go_wp2
  go_loopw [3] (fun x wr => ∃ k : Nat, k ≤ 8 ∧ x = .int .i64 (k : Int) ∧ w = wr ∧ ∀ i, i < k → (t i).isSome = true) (fun x _ => 8 - (intOf x).toNat)
  case atStart => exact ⟨0, Nat.zero_le _, rfl, rfl, fun i hi => by omega⟩
  case round =>
    obtain ⟨k, hk, rfl, rfl, hs⟩ := hrel
    by_cases hlt : (k : Int) < 8
    · cases ht : t k with
      | none =>
        have c0 := h.at0 (i := k) (by omega) ht
        have hf : (fdFr t : Int) = (k : Int) := by rw [fdFr_eq (by omega) hs (.inr ht)]
        have hf' : Hid ((fdFr t : Int) = (k : Int)) := hf
        clear hf
        have a0 : (0 : Int) ≤ (k : Int) := by omega
        go_wp2
        go_returns
        exact ⟨by rw [hf'.out]; simp, rfl⟩
      | some f =>
        have c0 := h.at1 (i := k) (by omega) ht
        have a0 : (0 : Int) ≤ (k : Int) := by omega
        have hs' : ∀ i, i < k + 1 → (t i).isSome = true := fun i hi => by
          by_cases e : i = k
          · subst e; rw [ht]; rfl
          · exact hs i (by omega)
        clear hs
        go_wp2
        go_roundw
        case rel => exact ⟨k + 1, by omega, by go_num, by simp, hs'⟩
        case measure => simp [intOf]; omega
    · have hk8 : k = 8 := by omega
      subst hk8
      have hf : (fdFr t : Int) = 8 := by rw [fdFr_eq (Nat.le_refl _) hs (.inl rfl)]; rfl
      have hf' : Hid ((fdFr t : Int) = 8) := hf
      clear hf
      go_wp2
      go_returns
      exact ⟨by rw [hf'.out]; simp, rfl⟩
theorem fat_nil (x : Int) (w : World) :
    Calls Try.prog 26 #[.pointer none, .int .i64 x] w fun e w' => e = .returned (.tuple #[.pointer none, .int .i64 1]) ∧ w = w' := by
  go_enter Try.func26, Try.ntmps26
  go_wp2
  go_returns
  exact ⟨rfl, rfl⟩
theorem fat_no {w : World} {U : Nat → Prop} {g : Nat} {q : Nat → Nat} {t : FT} (h : Fx w U g q t) (x : Int) (hx : fdHas t x = none) :
    Calls Try.prog 26 #[.pointer (some ⟨g, 0, none⟩), .int .i64 x] w fun e w' => e = .returned (.tuple #[.pointer none, .int .i64 46]) ∧ w = w' := by
  by_cases h1 : x < 0
  · go_enter Try.func26, Try.ntmps26
    go_wp2
    go_returns
    exact ⟨rfl, rfl⟩
  · by_cases h2 : x ≥ 8
    · have h3 : ¬ x < 0 := h1
      go_enter Try.func26, Try.ntmps26
      go_wp2
      go_returns
      exact ⟨rfl, rfl⟩
    · obtain ⟨k, rfl⟩ : ∃ k : Nat, x = (k : Int) := ⟨x.toNat, by omega⟩
      have hk : k < 8 := by omega
      rw [fdHas_in hk] at hx
      have c0 := h.at0 hk hx
      have a0 : (0 : Int) ≤ (k : Int) := by omega
      have a1 : (k : Int) < 8 := by omega
      have a2 : ¬ (8 : Int) ≤ (k : Int) := by omega
      have a3 : ¬ (k : Int) < 0 := by omega
      clear hx h1 h2
      go_enter Try.func26, Try.ntmps26
      go_wp2
      go_returns
      exact ⟨rfl, rfl⟩
theorem fat_yes {w : World} {U : Nat → Prop} {g : Nat} {q : Nat → Nat} {t : FT} (h : Fx w U g q t) (k : Nat) (hk : k < 8) {f : Fl} (hx : t k = some f) :
    Calls Try.prog 26 #[.pointer (some ⟨g, 0, none⟩), .int .i64 (k : Int)] w fun e w' => e = .returned (.tuple #[.pointer (some ⟨q k, 0, none⟩), .int .i64 0]) ∧ w = w' := by
  have c0 := h.at1 hk hx
  have a0 : (0 : Int) ≤ (k : Int) := by omega
  have a1 : (k : Int) < 8 := by omega
  have a2 : ¬ (8 : Int) ≤ (k : Int) := by omega
  have a3 : ¬ (k : Int) < 0 := by omega
  clear hx
  go_enter Try.func26, Try.ntmps26
  go_wp2
  go_returns
  exact ⟨rfl, rfl⟩
end Go.Proofs.Ytddglkejegmmmaa
