/-
  What the calls of layer 5 that ask return, and how words are turned: no statement is proved here.
-/
import Derived.Test.YteaaipkfggnjgaaDoorNvA
namespace Go.Proofs.YteaaipkfggnjgaaDoor
open Go.ChangeShapes Go.WideShapes Go.ChangeAt Go.RowKit
set_option linter.unusedVariables false

def WS.right (x : WS) : Bool := x.c == sm x.a x.b
def WS.says (x : WS) : Nat := if x.right then x.b % 256 else 255
theorem says_lt (x : WS) : x.says < 256 := by unfold WS.says; split <;> omega
theorem and255 {b : Nat} (h : b < 4294967296) : bits .and .u32 (b : Int) 255 = ((b % 256 : Nat) : Int) := by
  rw [u32_and (b : Int) 255 (by omega) (by omega) (by omega) (by omega)]
  have := Nat.and_two_pow_sub_one_eq_mod b 8
  have e : ((b : Int).toNat &&& (255 : Int).toNat) = b % 256 := this
  rw [e]
theorem all_any (w : World) : Calls Tryd.prog 18 #[] w fun e w' => e = .returned (.int .u32 255) ∧ w = w' := by
  go_enter Tryd.func18, Tryd.ntmps18
  go_wp2
  go_returns
  exact ⟨rfl, rfl⟩
theorem isGroup_any (n : Int) (w : World) : Calls Tryd.prog 19 #[.int .i64 n] w fun e w' => e = .returned (.bool (decide (0 ≤ n ∧ n < 8))) ∧ w = w' := by
  by_cases h : 0 ≤ n
  · by_cases h' : n < 8
    all_goals
      go_enter Tryd.func19, Tryd.ntmps19
      go_wp2
      go_returns
      refine ⟨ret_bool ?_, rfl⟩
      simp; omega
  · go_enter Tryd.func19, Tryd.ntmps19
    go_wp2
    go_returns
    refine ⟨ret_bool ?_, rfl⟩
    simp; omega
theorem bit_any (n : Nat) (h : n < 8) (w : World) : Calls Tryd.prog 21 #[.int .i64 n] w fun e w' => e = .returned (.int .u32 ((2 ^ n : Nat) : Int)) ∧ w = w' := by
  have : n = 0 ∨ n = 1 ∨ n = 2 ∨ n = 3 ∨ n = 4 ∨ n = 5 ∨ n = 6 ∨ n = 7 := by omega
  rcases this with rfl | rfl | rfl | rfl | rfl | rfl | rfl | rfl
  all_goals
    go_enter Tryd.func21, Tryd.ntmps21
    go_wp2
    go_returns
    exact ⟨rfl, rfl⟩
theorem nsays_nil (w : World) : Calls Tryd.prog 11 #[.pointer none] w fun e w' => e = .returned (.tuple #[.int .u32 0, .bool false]) ∧ w = w' := by
  go_enter Tryd.func11, Tryd.ntmps11
  go_wp2
  go_returns
  exact ⟨rfl, rfl⟩
theorem nsays_any (g : Nat) (x : WS) (s : Option Nat) (w : World) (h : Ww w g x s) :
    Calls Tryd.prog 11 #[.pointer (some ⟨g, 0, none⟩)] w fun e w' => e = .returned (.tuple #[.int .u32 (x.says : Nat), .bool x.right]) ∧ Below w.heap.size w w' := by
  have m2 := h.c2; have l0 := h.l0; have l1 := h.l1; have l2 := h.l2; have hlt := h.lt
  have hK : ∀ w', Below w.heap.size w w' → (Below w.heap.size w w' ∧ w'.cell? ⟨g, 2, none⟩ = some (.int .u32 x.c)) := fun w' hb => ⟨hb, (h.later hb).c2⟩
  have hD := hK _ (Below.refl w.heap.size w).drew
  have q := and255 l1
  have hsl := sm_lt x.a x.b
  by_cases e : x.c = sm x.a x.b
  · have e' : (x.c : Int) = (sm x.a x.b : Int) := by omega
    have er : x.right = true := by unfold WS.right; simp [e]
    have es : x.says = x.b % 256 := by unfold WS.says; rw [er]; rfl
    rw [er, es]; clear er es
    go_enter Tryd.func11, Tryd.ntmps11
    go_wp2_with fail
    go_region_held3 (fun w' => Below w.heap.size w w' ∧ w'.cell? ⟨g, 2, none⟩ = some (.int .u32 x.c))
      (first | assumption | exact hK _ k1)
      (first
        | (go_at_call 22; refine (nsum_any g x s _ (h.later (And.left (by assumption)))).mono ?_; rintro e w1 ⟨rfl, b1⟩; have k1 : Below w.heap.size w w1 := bnext (And.left (by assumption)) b1 (Nat.le_refl _)))
    clear hK hD b1
    have h1 := h.later k1
    have hK : ∀ w', Below w1.heap.size w1 w' → (Below w1.heap.size w1 w' ∧ w'.cell? ⟨g, 1, none⟩ = some (.int .u32 x.b)) := fun w' hb => ⟨hb, (h1.later hb).c1⟩
    have hD := hK _ (Below.refl w1.heap.size w1).drew
    go_wp2_with fail
    go_region_held3 (fun w' => Below w1.heap.size w1 w' ∧ w'.cell? ⟨g, 1, none⟩ = some (.int .u32 x.b))
      (first | assumption)
      (first
        | (go_at_call 18; refine (all_any _).mono ?_; rintro e w2 ⟨rfl, rfl⟩))
    go_wp2_with fail
    go_returns
    exact ⟨rfl, k1.drew⟩
  · have e' : ¬ (x.c : Int) = (sm x.a x.b : Int) := by omega
    have er : x.right = false := by unfold WS.right; simp [e]
    have es : x.says = 255 := by unfold WS.says; rw [er]; rfl
    rw [er, es]; clear er es
    go_enter Tryd.func11, Tryd.ntmps11
    go_wp2_with fail
    go_region_held3 (fun w' => Below w.heap.size w w' ∧ w'.cell? ⟨g, 2, none⟩ = some (.int .u32 x.c))
      (first | assumption | exact hK _ k1)
      (first
        | (go_at_call 22; refine (nsum_any g x s _ (h.later (And.left (by assumption)))).mono ?_; rintro e w1 ⟨rfl, b1⟩; have k1 : Below w.heap.size w w1 := bnext (And.left (by assumption)) b1 (Nat.le_refl _)))
    clear hK hD b1
    go_wp2_with (first
        | (go_at_call 18; refine (all_any _).mono ?_; rintro e w2 ⟨rfl, rfl⟩))
    go_returns
    exact ⟨rfl, k1⟩
end Go.Proofs.YteaaipkfggnjgaaDoor
