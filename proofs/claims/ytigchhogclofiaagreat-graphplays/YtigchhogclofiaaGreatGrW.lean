/-
  The chapter's example holds: no statement is proved here.
-/
import Derived.Test.YtigchhogclofiaaGreatGrT
namespace Go.Proofs.YtigchhogclofiaaGreat
open Go.ChangeShapes Go.WideShapes Go.ChangeAt Go.RowKit
set_option linter.unusedVariables false
set_option linter.unusedSimpArgs false

def pA : Pt := ⟨0, 3, 0, [1], 0, [], 0, 0, false⟩
def pB : Pt := ⟨0, 4, 0, [1], 0, [1], 0, 0, false⟩
def zA : GZ := GZ.new.add pA
def zB : GZ := zA.add pB
def zC : GZ := zB.wr [1]
def zD : GZ := zC.stl fun _ => true
theorem bldA (s : Sv) (w : World) : (Instr.build 30 #[(1, .int .i64 3), (3, .slice s.a s.n s.c)]).run Tryz.prog w = .ok (.agg (pA.cs s Sv.nil).toArray) w := by kernel_rfl
theorem bldB (s t : Sv) (w : World) : (Instr.build 30 #[(1, .int .i64 4), (3, .slice s.a s.n s.c), (5, .slice t.a t.n t.c)]).run Tryz.prog w = .ok (.agg (pB.cs s t).toArray) w := by kernel_rfl
section
variable {ops : Array Oper} {rest : List Oper} {o : Oper} {a : Act} {w : World} {Q : Exit → Act → World → Prop}
theorem at_bldPA (hw : Region.wanted o (yielded ops a.tmps) = true) (x y : Operand) (ho : o.op = .build 30 #[(1, x), (3, y)]) (s : Sv) (hx : a.eval x = .int .i64 3) (hy : a.eval y = .slice s.a s.n s.c)
    (h : wpList Tryz.prog ops Q rest (a.put o.dst (.agg (pA.cs s Sv.nil).toArray)) w) : wpList Tryz.prog ops Q (o :: rest) a w := by
  refine op_val hw _ _ ?_ h
  simp [execOp, ho, hx, hy, bldA]
theorem at_bldPB (hw : Region.wanted o (yielded ops a.tmps) = true) (x y z : Operand) (ho : o.op = .build 30 #[(1, x), (3, y), (5, z)]) (s t : Sv) (hx : a.eval x = .int .i64 4) (hy : a.eval y = .slice s.a s.n s.c) (hz : a.eval z = .slice t.a t.n t.c)
    (h : wpList Tryz.prog ops Q rest (a.put o.dst (.agg (pB.cs s t).toArray)) w) : wpList Tryz.prog ops Q (o :: rest) a w := by
  refine op_val hw _ _ ?_ h
  simp [execOp, ho, hx, hy, hz, bldB]
end
/-- Slices of one number. -/
theorem one_b (w : World) (x : Int) (hx : 0 ≤ x ∧ x ≤ 255) : BsS (w.alloc (.cells #[.int .u8 x] 5)) ⟨some ⟨w.heap.size, 0, none⟩, 1, 1⟩ [x] :=
  ⟨rfl, Nat.le_refl _, by show (1 : Nat) ≤ maxLen; decide, (fun e => by cases e), (fun y hy => by simp at hy; subst hy; exact hx), fun _ => ⟨w.heap.size, 0, rfl, fun i hi => by
    have : i = 0 := by simp only at hi; omega
    subst this; simp⟩⟩
theorem one_i (w : World) (x : Int) (hx : wfi x) : InsS (w.alloc (.cells #[.int .i64 x] 3)) ⟨some ⟨w.heap.size, 0, none⟩, 1, 1⟩ [x] :=
  ⟨⟨rfl, Nat.le_refl _, by show (1 : Nat) ≤ maxLen; decide, (fun y hy => by simp at hy; subst hy; exact hx), fun _ => ⟨w.heap.size, 0, rfl, fun i hi => by
    have : i = 0 := by simp only at hi; omega
    subst this; simp⟩⟩, (fun e => by cases e)⟩
theorem inE_at {N : Nat} {b n c : Nat} (h : N ≤ b) : InE (fun x => N ≤ x) ⟨some ⟨b, 0, none⟩, n, c⟩ := fun ad e _ => by injection e with e; subst e; exact h
theorem wfA : pA.wfp := ⟨wfi_of (by decide), wfi_of (by decide), wfi_of (by decide), wfi_of (by decide), wfi_of (by decide), wfi_of (by decide)⟩
theorem wfB : pB.wfp := ⟨wfi_of (by decide), wfi_of (by decide), wfi_of (by decide), wfi_of (by decide), wfi_of (by decide), wfi_of (by decide)⟩
set_option maxRecDepth 100000 in
set_option maxHeartbeats 4000000 in
theorem works_any (w : World) : Calls Tryz.prog 12 #[] w fun e w' => e = .returned (.bool true) ∧ Below w.heap.size w w' := by
  have t1 : True := trivial
  have t2 : True := trivial
  have t3 : True := trivial
  have t4 : True := trivial
  have t5 : True := trivial
  have t6 : True := trivial
  have t7 : True := trivial
  have f1 : GZ.new.addN pA = 1 := by decide
  have f2 : GZ.new.addE pA = 0 := by decide
  have f3 : zA.addN pB = 2 := by decide
  have f4 : zA.addE pB = 0 := by decide
  have f5 : rdy zB.l 4 = [] := by decide
  have f6 : zB.wrE [1] = 0 := by decide
  have f7 : zC.stlN (fun _ => true) = 1 := by decide
  have f8 : rdy zD.l 4 = [2] := by decide
  have f9 : ids zD.l = [2] := by decide
  have wf4 : wfi 4 := wfi_of (by decide)
  have wf2 : wfi 2 := wfi_of (by decide)
  have wf1 : wfi 1 := wfi_of (by decide)
  go_enter Tryz.func12, Tryz.ntmps12
  go_wp2_with (first
    | (go_at_call 4; refine (new_1 _).mono ?_; rintro e w1 ⟨g, rfl, G, b1⟩
       have bd1 := one_b w1 1 (by decide)
       have ba1 : Below w1.heap.size w1 (w1.alloc (.cells #[.int .u8 1] 5)) := (Below.refl _ w1).alloc (Nat.le_refl _) _)
    | (clear t1; refine at_bldPA (by rfl) _ _ (by rfl) ⟨some ⟨w1.heap.size, 0, none⟩, 1, 1⟩ (by rfl) (by rfl) ?_)
    | (go_at_call 9; clear t2; refine (add_1 G ba1 pA ⟨some ⟨w1.heap.size, 0, none⟩, 1, 1⟩ Sv.nil wfA ⟨bd1, InsS.nil _, inE_at (Nat.le_refl _), InE.nil _⟩ (by decide) (by decide) (by decide) (Nat.le_trans b1.size ba1.size)).mono ?_; rw [f1, f2]; rintro e w2 ⟨rfl, G2, b2⟩
       replace b2 : Below w.heap.size w w2 := (bnext b1 ba1 (Nat.le_refl _)).trans b2
       have G2' : G1 w.heap.size w2 g zA := G2
       have bd2 := one_b w2 1 (by decide)
       have bi2 := one_i (w2.alloc (.cells #[.int .u8 1] 5)) 1 wf1
       have ba2 : Below w2.heap.size w2 (w2.alloc (.cells #[.int .u8 1] 5)) := (Below.refl _ w2).alloc (Nat.le_refl _) _
       have bb2 : Below w2.heap.size w2 ((w2.alloc (.cells #[.int .u8 1] 5)).alloc (.cells #[.int .i64 1] 3)) := ba2.alloc ba2.size _
       have bc2 : Below (w2.alloc (.cells #[.int .u8 1] 5)).heap.size (w2.alloc (.cells #[.int .u8 1] 5)) ((w2.alloc (.cells #[.int .u8 1] 5)).alloc (.cells #[.int .i64 1] 3)) := (Below.refl _ _).alloc (Nat.le_refl _) _
       replace bd2 := bd2.later bc2
       have eh : (w2.alloc (.cells #[.int .u8 1] 5)).heap.size = w2.heap.size + 1 := by simp
       rw [eh] at bi2
       clear G2 G f1 f2 bd1 ba1 eh)
    | (clear t3; refine at_bldPB (by rfl) _ _ _ (by rfl) ⟨some ⟨w2.heap.size, 0, none⟩, 1, 1⟩ ⟨some ⟨w2.heap.size + 1, 0, none⟩, 1, 1⟩ (by rfl) (by rfl) (by rfl) ?_)
    | (go_at_call 9; clear t4; refine (add_1 G2' bb2 pB ⟨some ⟨w2.heap.size, 0, none⟩, 1, 1⟩ ⟨some ⟨w2.heap.size + 1, 0, none⟩, 1, 1⟩ wfB ⟨bd2, bi2, inE_at (Nat.le_refl _), inE_at (Nat.le_succ _)⟩ (by decide) (by decide) (by decide) (Nat.le_trans b2.size bb2.size)).mono ?_; rw [f3, f4]; rintro e w3 ⟨rfl, G3, b3⟩
       replace b3 : Below w.heap.size w w3 := (bnext b2 bb2 (Nat.le_refl _)).trans b3
       have G3' : G1 w.heap.size w3 g zB := G3
       clear G3 G2' f3 f4 bd2 bi2 ba2 bb2 bc2)
    | (go_at_call 24; clear t5; refine (ready_1 G3' 4 wf4).mono ?_; rw [f5]; rintro e w4 ⟨⟨va, vn, vc⟩, rfl, i4, _, b4⟩
       have hvn : vn = 0 := i4.i.len.symm
       subst hvn
       have G4 := G3'.later b4
       have B4 := bnext b3 b4 (Nat.le_refl _)
       have bi4 := one_i w4 1 wf1
       have ba4 : Below w4.heap.size w4 (w4.alloc (.cells #[.int .i64 1] 3)) := (Below.refl _ w4).alloc (Nat.le_refl _) _
       clear G3' f5 i4 b4)
    | (go_at_call 25; refine (write_1 G4 ba4 bi4 (inE_at (Nat.le_refl _)) (by decide) (Nat.le_trans B4.size ba4.size)).mono ?_; rw [f6]; rintro e w5 ⟨rfl, G5, b5⟩
       have B5 := (bnext B4 ba4 (Nat.le_refl _)).trans b5
       have G5' : G1 w.heap.size w5 g zC := G5
       clear G5 G4 f6 bi4 ba4 b5)
    | (go_at_call 8; refine (settleAll_1 G5' B5.size).mono ?_; rw [f7]; rintro e w6 ⟨rfl, G6, b6⟩
       have B6 := B5.trans b6
       have G6' : G1 w.heap.size w6 g zD := G6
       clear G6 G5' f7 b6)
    | (go_at_call 24; clear t6; refine (ready_1 G6' 4 wf4).mono ?_; rw [f8]; rintro e w7 ⟨v7, rfl, i7, _, b7⟩
       have G7 := G6'.later b7
       have B7 := bnext B6 b7 (Nat.le_refl _)
       have bi7 := one_i w7 2 wf2
       have ba7 : Below w7.heap.size w7 (w7.alloc (.cells #[.int .i64 2] 3)) := (Below.refl _ w7).alloc (Nat.le_refl _) _
       clear G6' f8 b7)
    | (go_at_call 23; clear t7; refine (same_any (b := ⟨some ⟨w7.heap.size, 0, none⟩, 1, 1⟩) (i7.later ba7) bi7 (by decide)).mono ?_; rintro e w8 ⟨rfl, b8⟩
       have b78 := bnext ba7 b8 (Nat.le_refl _)
       have G8 := G7.later b78
       have B8 := bnext B7 b78 (Nat.le_refl _)
       clear G7 i7 bi7 ba7 b8 b78)
    | (go_at_call 31; refine (all_1 G8).mono ?_; rw [f9]; rintro e w9 ⟨v9, rfl, i9, _, b9⟩
       have B9 := bnext B8 b9 (Nat.le_refl _)
       have bi9 := one_i w9 2 wf2
       have ba9 : Below w9.heap.size w9 (w9.alloc (.cells #[.int .i64 2] 3)) := (Below.refl _ w9).alloc (Nat.le_refl _) _
       clear f9 b9)
    | (go_at_call 23; refine (same_any (b := ⟨some ⟨w9.heap.size, 0, none⟩, 1, 1⟩) (i9.later ba9) bi9 (by decide)).mono ?_; rintro e w10 ⟨rfl, b10⟩
       have B10 := bnext (bnext B9 ba9 (Nat.le_refl _)) b10 (Nat.le_refl _)))
  go_returns
  exact ⟨rfl, B10⟩
end Go.Proofs.YtigchhogclofiaaGreat
