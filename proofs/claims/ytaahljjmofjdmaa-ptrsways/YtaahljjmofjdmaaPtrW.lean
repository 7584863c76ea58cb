/-
  What works of the statements of layer 11 returns: no statement is proved here.
-/
import Derived.Test.YtaahljjmofjdmaaPtrB
import Derived.Test.YtaahljjmofjdmaaPtrD
namespace Go.Proofs.Ytaahljjmofjdmaa
open Go.ChangeShapes Go.WideShapes Go.ChangeAt Go.RowKit
set_option linter.unusedVariables false

theorem ex_way (w : World) : (Op.equalIn 10000 36 (.agg (wyK 59).cs.toArray) (.agg #[.int .i64 2, .int .i64 1, .int .i64 1])).run Try.prog w = .ok true w := eqW (wyK 59) ⟨2, 1, 1⟩ w
theorem ex_byte2 : ((pW Ld.zero 1 258).l.getD 2 0).toNat = 2 := by decide +kernel
theorem ex_byte3 : ((pW Ld.zero 1 258).l.getD 3 0).toNat = 1 := by decide +kernel
set_option maxRecDepth 100000 in
theorem works11_any (w : World) : Calls Try.prog 14 #[] w fun e w' => e = .returned (.bool true) ∧ Below w.heap.size w w' := by
  have H1 := fun w => to_any 59 w
  have H2 := fun w => pwith_any Ld.zero 1 258 w
  have e1 : kE 59 = 0 := rfl
  have e2 : plE 1 = 0 := rfl
  rw [e1] at H1
  rw [e2] at H2
  have hE := ex_way
  have hG := guardW
  have hB2 := ex_byte2
  have hB3 := ex_byte3
  have hq := (pW Ld.zero 1 258).len
  generalize pW Ld.zero 1 258 = q at *
  generalize wyK 59 = V at *
  have H1' : Hid _ := H1
  have H2' : Hid _ := H2
  clear H1 H2 e1 e2
  go_enter Try.func14, Try.ntmps14
  go_wp2_with (first
    | (go_at_call 15; refine (H1'.out _).mono ?_; rintro e w1 ⟨rfl, b1⟩)
    | (refine at_newC 36 3 Wy.zero.cs srtW (by rfl) (by rfl) ?_; intro g1 w2 a2 z2 r2 b2)
    | (refine at_putC 36 3 Wy.zero.cs srtW (by rfl) _ _ (by rfl) g1 (by rfl) V.cs (by rfl) rfl (Wy.cs_one _) _ r2 rfl ?_; intro w3 r3 s3)
    | (refine at_bldL (by rfl) (by rfl) ?_)
    | (go_at_call 9; refine (H2'.out _).mono ?_; rintro e w4 ⟨rfl, b4⟩)
    | (refine at_new 23 54 arrL (by rfl) (by rfl) ?_; intro gp w5 a5 z5 r5 b5)
    | (refine at_put 23 54 arrL (by rfl) _ _ (by rfl) gp (by rfl) q.l (by rfl) hq _ r5 (by simp) ?_; intro w6 r6 s6
       have c2 := r6.cell 2 (by omega)
       have c3 := r6.cell 3 (by omega)
       rw [hB2] at c2
       rw [hB3] at c3
       have v6 := ((r3.later b4).later b5).step s6 (by have := (r3.later b4).lt; omega))
    | (refine at_getC 36 3 Wy.zero.cs srtW (by rfl) _ (by rfl) g1 (by rfl) V.cs v6 rfl ?_))
  have S3 := (Stp.of_below (bnext b1 b2 (Nat.le_refl _)) (fun x => w.heap.size ≤ x)).next s3 (fun x hx => .inl (by subst hx; have := b1.size; omega))
  have S5 := S3.next (Stp.of_below (bnext b4 b5 (Nat.le_refl _)) (fun _ => False)) (fun _ h => h.elim)
  have S6 := S5.next s6 (fun x hx => .inl (by subst hx; have := S3.size; have := b4.size; omega))
  go_returns
  exact ⟨rfl, S6.below (Nat.le_refl _) (fun _ h => h)⟩
end Go.Proofs.Ytaahljjmofjdmaa
