/-
  The chapter's example holds: no statement is proved here.
-/
import Derived.Test.YtdfifneikmlmoaaGrT
namespace Go.Proofs.Ytdfifneikmlmoaa
open Go.ChangeShapes Go.WideShapes Go.ChangeAt Go.RowKit
set_option linter.unusedVariables false
set_option linter.unusedSimpArgs false

def pA : Pt := ⟨0, 3, 0, [1], 0, [], 0, 0, false⟩
def pB : Pt := ⟨0, 4, 0, [1], 0, [1], 0, 0, false⟩
def zA : GZ := GZ.new.add pA
def zB : GZ := zA.add pB
def zC : GZ := zB.wr [1]
def zD : GZ := zC.stl fun _ => true
theorem bldA (s : Sv) (w : World) : (Instr.build 40 #[(1, .int .i64 3), (3, .slice s.a s.n s.c)]).run Try.prog w = .ok (.agg (pA.cs s Sv.nil).toArray) w := by kernel_rfl
theorem bldB (s t : Sv) (w : World) : (Instr.build 40 #[(1, .int .i64 4), (3, .slice s.a s.n s.c), (5, .slice t.a t.n t.c)]).run Try.prog w = .ok (.agg (pB.cs s t).toArray) w := by kernel_rfl
section
variable {ops : Array Oper} {rest : List Oper} {o : Oper} {a : Act} {w : World} {Q : Exit → Act → World → Prop}
theorem at_bldPA (hw : Region.wanted o (yielded ops a.tmps) = true) (x y : Operand) (ho : o.op = .build 40 #[(1, x), (3, y)]) (s : Sv) (hx : a.eval x = .int .i64 3) (hy : a.eval y = .slice s.a s.n s.c)
    (h : wpList Try.prog ops Q rest (a.put o.dst (.agg (pA.cs s Sv.nil).toArray)) w) : wpList Try.prog ops Q (o :: rest) a w := by
  refine op_val hw _ _ ?_ h
  simp [execOp, ho, hx, hy, bldA]
theorem at_bldPB (hw : Region.wanted o (yielded ops a.tmps) = true) (x y z : Operand) (ho : o.op = .build 40 #[(1, x), (3, y), (5, z)]) (s t : Sv) (hx : a.eval x = .int .i64 4) (hy : a.eval y = .slice s.a s.n s.c) (hz : a.eval z = .slice t.a t.n t.c)
    (h : wpList Try.prog ops Q rest (a.put o.dst (.agg (pB.cs s t).toArray)) w) : wpList Try.prog ops Q (o :: rest) a w := by
  refine op_val hw _ _ ?_ h
  simp [execOp, ho, hx, hy, hz, bldB]
end
/-- Slices of one number. -/
theorem one_b (w : World) (x : Int) (hx : 0 ≤ x ∧ x ≤ 255) : BsS (w.alloc (.cells #[.int .u8 x] 5)) ⟨some ⟨w.heap.size, 0, none⟩, 1, 1⟩ [x] :=
  ⟨rfl, Nat.le_refl _, by show (1 : Nat) ≤ maxLen; decide, (fun e => by cases e), (fun y hy => by simp at hy; subst hy; exact hx), fun _ => ⟨w.heap.size, 0, rfl, fun i hi => by
    have : i = 0 := by simp only at hi; omega
    subst this; simp⟩⟩
theorem one_i (w : World) (x : Int) (hx : wfi x) : InsS (w.alloc (.cells #[.int .i64 x] 3)) ⟨some ⟨w.heap.size, 0, none⟩, 1, 1⟩ [x] :=
  ⟨⟨rfl, Nat.le_refl _, by show (1 : Nat) ≤ maxLen; decide, (fun y hy => by simp at hy; subst hy; exact hx), fun _ => ⟨w.heap.size, 0, rfl, fun i hi => by
    have : i = 0 := by simp only at hi; omega
    subst this; simp⟩⟩, (fun e => by cases e)⟩
theorem inE_at {N : Nat} {b n c : Nat} (h : N ≤ b) : InE (fun x => N ≤ x) ⟨some ⟨b, 0, none⟩, n, c⟩ := fun ad e _ => by injection e with e; subst e; exact h
theorem wfA : pA.wfp := ⟨wfi_of (by decide), wfi_of (by decide), wfi_of (by decide), wfi_of (by decide), wfi_of (by decide), wfi_of (by decide)⟩
theorem wfB : pB.wfp := ⟨wfi_of (by decide), wfi_of (by decide), wfi_of (by decide), wfi_of (by decide), wfi_of (by decide), wfi_of (by decide)⟩
end Go.Proofs.Ytdfifneikmlmoaa
