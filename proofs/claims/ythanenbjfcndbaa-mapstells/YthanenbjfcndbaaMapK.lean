/-
  What layer 9's statements begin with: no statement is proved here.
-/
import Derived.Test.YthanenbjfcndbaaMapC
import Derived.Test.YthanenbjfcndbaaMapG
import Derived.Test.YthanenbjfcndbaaLdIn
namespace Go.Proofs.Ythanenbjfcndbaa
open Go.ChangeShapes Go.WideShapes Go.ChangeAt Go.RowKit
set_option linter.unusedVariables false

/-- The chapter's example. -/
theorem ex_plc : plc 4 9 := by decide
theorem ex_byte : (mW Ld.zero 4 9 true).l.getD 17 0 = 2 := by decide +kernel
theorem ex_taken : mT (mW Ld.zero 4 9 true) 4 9 = true := by rw [mW_T ex_plc ex_plc]; simp
theorem ex_first : m1 Ld.zero ⟨1, 1, 4⟩ 0 3 = 3 := by decide +kernel
set_option maxRecDepth 100000 in
set_option maxHeartbeats 1000000 in
theorem works_any (w : World) : Calls Try.prog 18 #[] w fun e w' => e = .returned (.bool true) ∧ Below w.heap.size w w' := by
  have hE : mE 4 9 = 0 := if_pos ex_plc
  have H1 := fun w => mwith_any Ld.zero 4 9 true w (by decide)
  have H2 := fun w => taken_any (mW Ld.zero 4 9 true) 4 9 w (by decide)
  have H3 := fun w => mfirst_any Ld.zero ⟨1, 1, 4⟩ 0 3 w (by decide) (by decide)
  have hB := ex_byte
  have hq := (mW Ld.zero 4 9 true).len
  rw [ex_taken] at H2
  rw [ex_first] at H3
  rw [hE] at H1 H2
  generalize mW Ld.zero 4 9 true = q at *
  have H1' : Hid _ := H1
  have H2' : Hid _ := H2
  have H3' : Hid _ := H3
  clear H1 H2 H3 hE
  go_enter Try.func18, Try.ntmps18
  go_wp2_with (first
    | (refine at_bldL (by rfl) (by rfl) ?_)
    | (go_at_call 12; refine (H1'.out _).mono ?_; rintro e w1 ⟨rfl, b1⟩)
    | (refine at_new 23 54 arrL (by rfl) (by rfl) ?_; intro gp w2 a2 z2 r2 b2)
    | (refine at_put 23 54 arrL (by rfl) _ _ (by rfl) gp (by rfl) q.l (by rfl) hq _ r2 (by simp) ?_; intro w3 r3 s3)
    | (refine at_getL (by rfl) _ (by rfl) gp (by rfl) q r3 ?_)
    | (go_at_call 10; refine (H2'.out _).mono ?_; rintro e w4 ⟨rfl, b4⟩
       have c17 := (r3.later b4).cell 17 (by omega)
       rw [hB] at c17)
    | (go_at_call 21; refine (H3'.out _).mono ?_; rintro e w5 ⟨rfl, b5⟩))
  have S3 := (Stp.of_below (bnext b1 b2 (Nat.le_refl _)) (fun x => w.heap.size ≤ x)).next s3 (fun x hx => .inl (by subst hx; have := b1.size; omega))
  have S5 := S3.next (Stp.of_below (bnext b4 b5 (Nat.le_refl _)) (fun _ => False)) (fun _ h => h.elim)
  go_returns
  exact ⟨rfl, S5.below (Nat.le_refl _) (fun _ h => h)⟩
end Go.Proofs.Ythanenbjfcndbaa
