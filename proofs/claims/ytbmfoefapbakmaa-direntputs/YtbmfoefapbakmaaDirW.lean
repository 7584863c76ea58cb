/-
  The chapter's example of layer 12, as the statements check it: no statement is proved here.
-/
import Derived.Test.YtbmfoefapbakmaaDirK
namespace Go.Proofs.Ytbmfoefapbakmaa
open Go.ChangeShapes Go.WideShapes Go.ChangeAt Go.RowKit
set_option linter.unusedVariables false

theorem wiL_ab : wiL Ld.zero 1 ab = ldAb := by
  unfold wiL ldAb; rw [if_pos ⟨by decide, ab_ok⟩]; rfl
theorem wiE_ab : wiE 1 ab = 0 := by unfold wiE; rw [if_pos (by decide)]; exact ab_ok
set_option maxRecDepth 100000 in
set_option maxHeartbeats 1000000 in
theorem works12_any (w : World) : Calls Try.prog 13 #[] w fun e w' => e = .returned (.bool true) ∧ Below w.heap.size w w' := by
  have H1 := dput_any ab
  have hb := dB_len ab
  rw [ab_ok, ab_dB] at H1
  rw [ab_dB] at hb
  have H2 := dwith_any Ld.zero 1 ab
  rw [wiL_ab, wiE_ab] at H2
  have H3 := dfind_any ldAb [97, 98]
  rw [ab_fnd] at H3
  have H4 := droom_any ldAb
  rw [ab_rm] at H4
  have hq := ldAb.len
  generalize ldAb = q at *
  obtain ⟨D, hD⟩ : ∃ D : List UInt8, Hid ([5, 0, 2, 97, 98, 0, 0, 0, 0, 0, 0, 0, 0] = D) := ⟨_, rfl⟩
  rw [hD.out] at H1 hb
  go_enter Try.func13, Try.ntmps13
  go_wp2_with (first
    | (refine at_bldE2 (by rfl) _ _ (by rfl) 5 [97, 98] (by rfl) (by rfl) ?_)
    | (go_at_call 8; refine (H1 _).mono ?_; rintro e w1 ⟨rfl, b1⟩)
    | (refine at_new 24 13 ar13 (by rfl) (by rfl) ?_; intro g2 w2 a2 z2 r2 b2)
    | (refine at_put 24 13 ar13 (by rfl) _ _ (by rfl) g2 (by rfl) D (by rfl) hb _ r2 (by simp) ?_; intro w3 d3 s3
       have S3 : Stp (fun y => w.heap.size ≤ y) w w3 := (Stp.of_below (bnext b1 b2 (Nat.le_refl _)) _).next s3 (fun y hy => .inl (by subst hy; have := b1.size; omega))
       clear b1 b2 r2 a2 z2 s3)
    | (refine at_bldL (by rfl) (by rfl) ?_)
    | (go_at_call 16; refine (H2 _).mono ?_; rintro e w4 ⟨rfl, b4⟩)
    | (refine at_new 36 54 arrL (by rfl) (by rfl) ?_; intro g5 w5 a5 z5 r5 b5)
    | (refine at_put 36 54 arrL (by rfl) _ _ (by rfl) g5 (by rfl) q.l (by rfl) hq _ r5 (by simp) ?_; intro w6 q6 s6
       have d6 : Row w6 g2 D := ((d3.later b4).later b5).step s6 (by have := (d3.later b4).lt; omega)
       have S6 : Stp (fun y => w.heap.size ≤ y) w w6 := (S3.next (Stp.of_below (bnext b4 b5 (Nat.le_refl _)) (fun _ => False)) (fun _ h => h.elim)).next s6 (fun y hy => .inl (by subst hy; have := S3.size; have := b4.size; omega))
       have c0 : w6.cell? ⟨g2, 0, none⟩ = some (.int .u8 5) := (by have := d6.cell 0 (by omega); rw [← hD.out] at this; exact this)
       have c2 : w6.cell? ⟨g2, 2, none⟩ = some (.int .u8 2) := (by have := d6.cell 2 (by omega); rw [← hD.out] at this; exact this)
       have c3 : w6.cell? ⟨g2, 3, none⟩ = some (.int .u8 97) := (by have := d6.cell 3 (by omega); rw [← hD.out] at this; exact this)
       have c5 : w6.cell? ⟨g2, 5, none⟩ = some (.int .u8 0) := (by have := d6.cell 5 (by omega); rw [← hD.out] at this; exact this)
       clear S3 b4 b5 r5 a5 z5 s6 d3 d6)
    | (refine at_getL (by rfl) _ (by rfl) g5 (by rfl) q q6 ?_)
    | (go_at_call 23; refine (H3 _).mono ?_; rintro e w7 ⟨rfl, b7⟩; have q7 := q6.later b7)
    | (refine at_getL (by rfl) _ (by rfl) g5 (by rfl) q q7 ?_)
    | (go_at_call 25; refine (H4 _).mono ?_; rintro e w8 ⟨rfl, b8⟩))
  go_returns
  exact ⟨rfl, (S6.next (Stp.of_below (bnext b7 b8 (Nat.le_refl _)) (fun _ => False)) (fun _ h => h.elim)).below (Nat.le_refl _) (fun _ h => h)⟩
end Go.Proofs.Ytbmfoefapbakmaa
