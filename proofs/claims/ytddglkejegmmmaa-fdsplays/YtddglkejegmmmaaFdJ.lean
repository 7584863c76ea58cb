/-
  Acts of layer 24 as variables, and what a law of that layer keeps of a table: no statement is proved here.
-/
import Derived.Test.YtddglkejegmmmaaFdI
namespace Go.Proofs.Ytddglkejegmmmaa
open Go.ChangeShapes Go.WideShapes Go.ChangeAt Go.RowKit
set_option linter.unusedVariables false
set_option linter.unusedSimpArgs false

theorem srtAc : Srt 28 3 Fl.zero.cs :=
  ⟨⟨_, Try.underlying28, rfl⟩, by kernel_rfl, fun w => (zero_of_info (v := .agg Fl.zero.cs.toArray) (n := 3) (by kernel_rfl)).1 w, rfl, Fl.zero.cs_one⟩
section
variable {ops : Array Oper} {rest : List Oper} {o : Oper} {a : Act} {w : World} {Q : Exit → Act → World → Prop}
theorem at_newAc (hw : Region.wanted o (yielded ops a.tmps) = true) (ho : o.op = .alloc 28)
    (h : ∀ g w', w.heap.size ≤ g → g < w'.heap.size → Cs w' g Fl.zero.cs → Below w.heap.size w w' → wpList Try.prog ops Q rest (a.put o.dst (.pointer (some ⟨g, 0, none⟩))) w') : wpList Try.prog ops Q (o :: rest) a w :=
  at_newC 28 3 _ srtAc hw ho h
theorem at_putAc (hw : Region.wanted o (yielded ops a.tmps) = true) (y z : Operand) (ho : o.op = .store 28 y z) (g : Nat) (hx : a.eval y = .pointer (some ⟨g, 0, none⟩)) (f : Fl) (hy : a.eval z = .agg f.cs.toArray) (cs : List Value) (hR : Cs w g cs) (hl : cs.length = 3)
    (h : ∀ w', Cs w' g f.cs → Stp (fun x => x = g) w w' → wpList Try.prog ops Q rest (a.put o.dst undef) w') : wpList Try.prog ops Q (o :: rest) a w :=
  at_putC 28 3 _ srtAc hw y z ho g hx f.cs hy rfl f.cs_one cs hR hl h
/-- An act out of the midst of a slice. -/
theorem at_ldAc (hw : Region.wanted o (yielded ops a.tmps) = true) (x : Operand) (ho : o.op = .load 28 x) (y i : Nat) (hx : a.eval x = .pointer (some ⟨y, i, none⟩)) (f : Fl) (hr : w.rangeAt y i f.cs)
    (h : wpList Try.prog ops Q rest (a.put o.dst (.agg f.cs.toArray)) w) : wpList Try.prog ops Q (o :: rest) a w := by
  refine op_val hw _ _ ?_ h
  obtain ⟨d, h1, h2⟩ := srtAc.und
  have : (loadVar 28 ⟨y, i, none⟩).run Try.prog w = .ok (.agg f.cs.toArray) w := run_loadVar_mid w y _ _ f.cs _ hr h1 h2 (by rw [srtAc.size]; simp [Fl.cs])
  simp [execOp, ho, hx, Instr.loadAt, Instr.sureAddr, this]
end
/-- A table of one's own, made behind W. -/
def FdO (W w : World) (g : Nat) (t : FT) : Prop := ∃ U, Fd w U g t ∧ (∀ x, U x → W.heap.size ≤ x) ∧ Below W.heap.size W w
section
variable {W w w' : World} {g : Nat} {t : FT}
theorem FdO.below (h : FdO W w g t) : Below W.heap.size W w := by obtain ⟨U, _, _, b⟩ := h; exact b
theorem FdO.later (h : FdO W w g t) (b : Below w.heap.size w w') : FdO W w' g t := by
  obtain ⟨U, F, L, B⟩ := h
  exact ⟨U, F.later b, L, bnext B b (Nat.le_refl _)⟩
theorem FdO.open (h : FdO W w g t) (x m : Int) :
    Calls Try.prog 9 #[.pointer (some ⟨g, 0, none⟩), .int .i64 x, .int .i64 m] w fun e w' => e = .returned (.tuple #[.int .i64 (fdOpenN t), .int .i64 (fdOpenE t)]) ∧ FdO W w' g (fdOpen t x m) := by
  obtain ⟨U, F, L, B⟩ := h
  refine (fopen_any F x m).mono ?_
  rintro e w' ⟨rfl, k⟩
  obtain ⟨U', F', L', B'⟩ := FdG.go B L k
  exact ⟨rfl, U', F', L', B'⟩
theorem FdO.close (h : FdO W w g t) (x : Int) :
    Calls Try.prog 11 #[.pointer (some ⟨g, 0, none⟩), .int .i64 x] w fun e w' => e = .returned (.tuple #[.agg (fdGet t x).cs.toArray, .int .i64 (fdGetE t x)]) ∧ FdO W w' g (fdClose t x) := by
  obtain ⟨U, F, L, B⟩ := h
  refine (fclose_any F x).mono ?_
  rintro e w' ⟨rfl, F', s⟩
  exact ⟨rfl, U, F', L, ((Stp.of_below B U).trans s).below (Nat.le_refl _) L⟩
theorem FdO.get (h : FdO W w g t) (x : Int) :
    Calls Try.prog 16 #[.pointer (some ⟨g, 0, none⟩), .int .i64 x] w fun e w' => e = .returned (.tuple #[.agg (fdGet t x).cs.toArray, .int .i64 (fdGetE t x)]) ∧ FdO W w' g t := by
  have h0 := h
  obtain ⟨U, F, L, B⟩ := h
  refine (fget_any F x).mono ?_
  rintro e w' ⟨rfl, b⟩
  exact ⟨rfl, h0.later b⟩
end
theorem fdOpen_keep {t : FT} {k : Nat} {f : Fl} (h : t k = some f) (x m : Int) : fdOpen t x m k = some f := by
  unfold fdOpen
  by_cases e : fdFr t = 8
  · rw [if_pos e]; exact h
  · rw [if_neg e]
    unfold fdUp
    have : k ≠ fdFr t := fun e2 => by have := fdFr_none e; rw [← e2, h] at this; cases this
    rw [if_neg this]; exact h
theorem fdClose_keep {t : FT} {k : Nat} {x : Int} (h : ¬ x = (k : Int)) : fdClose t x k = t k := by
  unfold fdClose
  cases hh : fdHas t x with
  | none => rfl
  | some f =>
    simp only
    unfold fdUp
    have : k ≠ x.toNat := fun e => by
      unfold fdHas at hh
      split at hh
      · omega
      · cases hh
    rw [if_neg this]
theorem fdOpen_few {t : FT} {k : Nat} (h : ∀ j, k ≤ j → t j = none) (hk : k < 8) (x m : Int) : ∀ j, k + 1 ≤ j → fdOpen t x m j = none := fun j hj => by
  have hl := fdFr_low (h k (Nat.le_refl _)) hk
  unfold fdOpen
  rw [if_neg (by omega)]
  unfold fdUp
  rw [if_neg (by omega)]
  exact h j (by omega)
end Go.Proofs.Ytddglkejegmmmaa
