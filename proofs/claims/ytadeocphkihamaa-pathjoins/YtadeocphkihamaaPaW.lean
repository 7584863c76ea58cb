/-
  What works of the statements of layer 23 returns: no statement is proved here.
-/
import Derived.Test.YtadeocphkihamaaPaE
import Derived.ChangeMaps5
namespace Go.Proofs.Ytadeocphkihamaa
open Go.ChangeShapes Go.WideShapes Go.ChangeAt Go.RowKit
set_option linter.unusedVariables false
set_option linter.unusedSimpArgs false

theorem build_t2 (x y : List UInt8) (w : World) : (Instr.buildSlice 22 2 #[(0, .string (str x)), (1, .string (str y))]).run Try.prog w = .ok (.slice (some ⟨w.heap.size, 0, none⟩) 2 2) (w.alloc (.cells #[.string (str x), .string (str y)] 9)) := by kernel_rfl
theorem sts_new2 (w : World) (x y : List UInt8) : Sts (w.alloc (.cells #[.string (str x), .string (str y)] 9)) (some ⟨w.heap.size, 0, none⟩) 2 2 [x, y] := by
  refine ⟨rfl, Nat.le_refl _, by decide, (fun e => by cases e), fun _ => ⟨_, 0, rfl, fun i hi => ?_⟩⟩
  rcases i with _ | _ | i
  · simp
  · simp
  · omega
theorem at_bs2T {ops : Array Oper} {rest : List Oper} {o : Oper} {a : Act} {w : World} {Q : Exit → Act → World → Prop} (hw : Region.wanted o (yielded ops a.tmps) = true) (x1 x2 : Operand) (ho : o.op = .buildSlice 22 2 #[(0, x1), (1, x2)]) (y1 y2 : List UInt8) (hx1 : a.eval x1 = .string (str y1)) (hx2 : a.eval x2 = .string (str y2))
    (h : ∀ g w', w.heap.size ≤ g → Sts w' (some ⟨g, 0, none⟩) 2 2 [y1, y2] → Below w.heap.size w w' → wpList Try.prog ops Q rest (a.put o.dst (.slice (some ⟨g, 0, none⟩) 2 2)) w') : wpList Try.prog ops Q (o :: rest) a w := by
  refine op_val hw _ _ ?_ (h w.heap.size _ (Nat.le_refl _) (sts_new2 w y1 y2) ((Below.refl _ _).alloc (Nat.le_refl _) _))
  simp [execOp, ho, hx1, hx2, build_t2]
theorem ex1 : spE [47, 97, 47, 98] = 0 ∧ spN [47, 97, 47, 98] = [[97], [98]] ∧ spE [47, 97, 47] = 45 := by decide +kernel
set_option maxRecDepth 100000 in
theorem works23_any (w : World) : Calls Try.prog 13 #[] w fun e w' => e = .returned (.bool true) ∧ Below w.heap.size w w' := by
  have H1 : ∀ w, Calls Try.prog 8 #[.string ⟨#[47, 97, 47, 98]⟩] w fun e w' => ∃ a c, e = .returned (.tuple #[.slice a 2 c, .int .i64 0]) ∧ Sts w' a 2 c [[97], [98]] ∧ Below w.heap.size w w' := fun w => by
    refine (split_any [47, 97, 47, 98] w (by decide)).mono ?_
    rintro e w' ⟨⟨a, n, c, rfl, hS⟩, b⟩
    rw [ex1.1]
    rw [ex1.2.1] at hS
    obtain rfl : 2 = n := hS.len
    exact ⟨a, c, rfl, hS, b⟩
  have H2 : ∀ w, Calls Try.prog 8 #[.string ⟨#[47, 97, 47]⟩] w fun e w' => ∃ a n c, e = .returned (.tuple #[.slice a n c, .int .i64 45]) ∧ Below w.heap.size w w' := fun w => by
    refine (split_any [47, 97, 47] w (by decide)).mono ?_
    rintro e w' ⟨⟨a, n, c, rfl, hS⟩, b⟩
    rw [ex1.2.2]
    exact ⟨a, n, c, rfl, b⟩
  have t1 : Hid True := trivial
  go_enter Try.func13, Try.ntmps13
  go_wp2_with (first
    | (go_at_call 8; clear t1; refine (H1 _).mono ?_; rintro e w1 ⟨a1, c1, rfl, s1, b1⟩)
    | (go_at_call 8; refine (H2 _).mono ?_; rintro e w2 ⟨a2, n2, c2, rfl, b2⟩; have B2 := bnext b1 b2 (Nat.le_refl _); have s2 := s1.later b2)
    | (refine at_bs2T (by rfl) _ _ (by rfl) [97] [98] (by rfl) (by rfl) ?_; intro g3 w3 a3 s3 b3; have B3 := bnext B2 b3 (Nat.le_refl _); have hS := sameT_any (s2.later b3) s3 (by decide))
    | (go_at_call 12; refine hS.mono ?_; rintro e w4 ⟨rfl, b4⟩))
  go_returns
  exact ⟨rfl, bnext B3 b4 (Nat.le_refl _)⟩
/-- A text cut to its first 400 bytes. -/
theorem cut400 (l : List UInt8) : (if 400 < (l.length : Int) then 400 else (l.length : Int)) = ((min l.length 400 : Nat) : Int) ∧ min (l.length : Int) 400 = ((min l.length 400 : Nat) : Int) ∧ ((min l.length 400 : Nat) : Int) ≤ (l.length : Int) ∧ (0 : Int) ≤ ((min l.length 400 : Nat) : Int) ∧ (l.take (min l.length 400)).length ≤ 400 := by
  refine ⟨by split <;> omega, by omega, by omega, by omega, by simp; omega⟩
end Go.Proofs.Ytadeocphkihamaa
