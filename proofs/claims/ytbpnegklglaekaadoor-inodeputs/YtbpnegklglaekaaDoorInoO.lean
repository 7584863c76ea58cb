/-
  What works of the statements of layer 10 returns: no statement is proved here.
-/
import Derived.Test.YtbpnegklglaekaaDoorInoC
import Derived.Test.YtbpnegklglaekaaDoorInoI
import Derived.Test.YtbpnegklglaekaaDoorInoE
namespace Go.Proofs.YtbpnegklglaekaaDoor
open Go.ChangeShapes Go.WideShapes Go.ChangeAt Go.RowKit
set_option linter.unusedVariables false

theorem at_bldX {ops : Array Oper} {rest : List Oper} {o : Oper} {a : Act} {w : World} {Q : Exit → Act → World → Prop} (hw : Region.wanted o (yielded ops a.tmps) = true) (fs : Array (Nat × Operand)) (ho : o.op = .build 26 fs) (v : Ino) (hr : ∀ w, (Instr.build 26 (fs.map fun (i, x) => (i, a.eval x))).run Tryd.prog w = .ok (.agg v.cs.toArray) w)
    (h : wpList Tryd.prog ops Q rest (a.put o.dst (.agg v.cs.toArray)) w) : wpList Tryd.prog ops Q (o :: rest) a w := by
  refine op_val hw _ _ ?_ h
  simp only [execOp, ho, Sem.run_bind, hr]; rfl
def w1I : Ino := ⟨1, 0, 258, 0, 0, 0, 0, 0, 0⟩
def w2I : Ino := ⟨1, 0, 0, 0, 0, 0, 0, 0, 0⟩
theorem w2I_ok : iE w2I = 0 := by decide
set_option maxRecDepth 100000 in
theorem works10_any (w : World) (hT : Tb w) : Calls Tryd.prog 15 #[] w fun e w' => e = .returned (.bool true) ∧ Below w.heap.size w w' := by
  have H1 := offset_ok 1 2 w (by omega) (by omega) hT
  have H2 := icheck_any w2I
  rw [w2I_ok] at H2
  have t1 : True := trivial
  go_enter Tryd.func15, Tryd.ntmps15
  go_wp2_with (first
    | (go_at_call 20; refine H1.mono ?_; rintro e w1 ⟨rfl, b1⟩)
    | (have _t := t1; refine at_bldX (by rfl) _ (by rfl) w1I (fun w => by kernel_rfl) ?_; clear _t t1)
    | (go_at_call 8; refine (iput_any w1I _).mono ?_; rintro e w2 ⟨rfl, b2⟩)
    | (refine at_new 27 18 ar18 (by rfl) (by rfl) ?_; intro gb w3 a3 z3 r3 b3)
    | (refine at_put 27 18 ar18 (by rfl) _ _ (by rfl) gb (by rfl) (iL w1I) (by rfl) (iL_len _) _ r3 (by simp) ?_; intro w4 r4 s4
       have c2 : w4.cell? ⟨gb, 2, none⟩ = some (.int .u8 2) := r4.cell 2 (by decide)
       have c3 : w4.cell? ⟨gb, 3, none⟩ = some (.int .u8 1) := r4.cell 3 (by decide))
    | (refine at_bldX (by rfl) _ (by rfl) w2I (fun w => by kernel_rfl) ?_)
    | (go_at_call 9; refine (H2 _).mono ?_; rintro e w5 ⟨rfl, b5⟩))
  go_returns
  have S4 : Stp (fun y => w.heap.size ≤ y) w w4 := (Stp.of_below (bnext (bnext b1 b2 (Nat.le_refl _)) b3 (Nat.le_refl _)) _).next s4 (fun y hy => .inl (by subst hy; have := b1.size; have := b2.size; omega))
  exact ⟨rfl, (S4.next (Stp.of_below b5 (fun _ => False)) (fun _ h => h.elim)).below (Nat.le_refl _) (fun _ h => h)⟩
end Go.Proofs.YtbpnegklglaekaaDoor
