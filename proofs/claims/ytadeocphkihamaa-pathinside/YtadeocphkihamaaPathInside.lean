/-
  The statement PathInside, proved: for all names the law returns true; no condition.
-/
import Derived.Test.YtadeocphkihamaaPathJoins
namespace Go.Proofs.Ytadeocphkihamaa.pathInside
open Go.ChangeShapes Go.WideShapes Go.ChangeAt Go.RowKit
set_option linter.unusedVariables false

set_option maxRecDepth 100000 in
set_option maxHeartbeats 4000000 in
theorem walk (a : Option Addr) (n c : Nat) (L : List (List UInt8)) (a' : Option Addr) (n' c' : Nat) (M : List (List UInt8)) (a'' : Option Addr) (n'' c'' : Nat) (K : List (List UInt8)) (w : World) (hL : Sts w a n c L) (hM : Sts w a' n' c' M) (hK : Sts w a'' n'' c'' K) :
    Calls Try.prog 7 #[.slice a n c, .slice a' n' c', .slice a'' n'' c''] w fun e w' => e = .returned (.bool true) ∧ Below w.heap.size w w' := by
  obtain ⟨A, hA⟩ : ∃ A, Hid (fewN L = A) := ⟨_, rfl⟩
  obtain ⟨B, hB⟩ : ∃ B, Hid (fewN M = B) := ⟨_, rfl⟩
  obtain ⟨C, hC⟩ : ∃ C, Hid (fewN K = C) := ⟨_, rfl⟩
  have hAA : Hid (fewN A = A) := by show _ = _; rw [← hA.out]; exact fewN_idem L
  have hBB : Hid (fewN B = B) := by show _ = _; rw [← hB.out]; exact fewN_idem M
  have hAl : Hid (A.length ≤ 30) := by show _ ≤ _; rw [← hA.out]; exact fewN_len L
  have hBl : Hid (B.length ≤ 30) := by show _ ≤ _; rw [← hB.out]; exact fewN_len M
  have hCl : Hid (C.length ≤ 30) := by show _ ≤ _; rw [← hC.out]; exact fewN_len K
  obtain ⟨I, hI⟩ : ∃ I, Hid (insB A B = I) := ⟨_, rfl⟩
  obtain ⟨J, hJ⟩ : ∃ J, Hid (insB B C = J) := ⟨_, rfl⟩
  obtain ⟨G, hG⟩ : ∃ G, Hid (insB A C = G) := ⟨_, rfl⟩
  have hs : Hid (insB A A = false) := ins_self A
  have hIJG : I = true → J = true → G = true := fun h k => by rw [← hG.out]; exact ins_trans (by rw [hI.out]; exact h) (by rw [hJ.out]; exact k)
  have t1 : Hid True := trivial
  have t2 : Hid True := trivial
  have t3 : Hid True := trivial
  have t4 : Hid True := trivial
  have t5 : Hid True := trivial
  have t6 : Hid True := trivial
  have t7 : Hid True := trivial
  have t8 : Hid True := trivial
  have t9 : Hid True := trivial
  have fin : ((!I || !J) || G) = true := by cases I <;> cases J <;> simp at hIJG ⊢; exact hIJG
  clear hIJG
  cases I <;> cases J <;> cases G <;> (try (cases fin; done)) <;> (
    clear fin
    go_enter Try.func7, Try.ntmps7
    go_wp2_with (first
      | (go_at_call 14; clear t1; refine (pathJoins.fewS hL hA.out).mono ?_; rintro e w1 ⟨a1, c1, rfl, s1, -, b1⟩; have m1 := hM.later b1; have k1 := hK.later b1)
      | (go_at_call 14; clear t2; refine (pathJoins.fewS m1 hB.out).mono ?_; rintro e w2 ⟨a2, c2, rfl, q2, -, b2⟩; have s2 := s1.later b2; have k2 := k1.later b2; have B2 := bnext b1 b2 (Nat.le_refl _))
      | (go_at_call 14; clear t3; refine (pathJoins.fewS k2 hC.out).mono ?_; rintro e w3 ⟨a3, c3, rfl, r3, -, b3⟩; have s3 := s2.later b3; have q3 := q2.later b3; have B3 := bnext B2 b3 (Nat.le_refl _))
      | (go_at_call 14; clear t4; refine (pathJoins.fewS s3 hAA.out).mono ?_; rintro e w4 ⟨a4, c4, rfl, x4, -, b4⟩; have s4 := s3.later b4; have q4 := q3.later b4; have r4 := r3.later b4; have B4 := bnext B3 b4 (Nat.le_refl _))
      | (go_at_call 14; clear t5; refine (pathJoins.fewS q4 hBB.out).mono ?_; rintro e w5 ⟨a5, c5, rfl, y5, -, b5⟩; have s5 := s4.later b5; have q5 := q4.later b5; have r5 := r4.later b5; have x5 := x4.later b5; have B5 := bnext B4 b5 (Nat.le_refl _)
         have HI := inside_any x5 y5 (by have := hAl.out; omega) (by have := hBl.out; omega)
         rw [hI.out] at HI)
      | (go_at_call 17; clear t6; refine HI.mono ?_; rintro e w6 ⟨rfl, b6⟩; have s6 := s5.later b6; have q6 := q5.later b6; have r6 := r5.later b6; have B6 := bnext B5 b6 (Nat.le_refl _)
         have HR := rinside_any s6 q6 (by have := hAl.out; omega) (by have := hBl.out; omega)
         rw [hI.out] at HR)
      | (go_at_call 18; refine HR.mono ?_; rintro e w7 ⟨rfl, b7⟩; have s7 := s6.later b7; have q7 := q6.later b7; have r7 := r6.later b7; have B7 := bnext B6 b7 (Nat.le_refl _)
         have HS := inside_any s7 s7 (by have := hAl.out; omega) (by have := hAl.out; omega)
         rw [hs.out] at HS)
      | (go_at_call 17; clear t7; refine HS.mono ?_; rintro e w8 ⟨rfl, b8⟩; have s8 := s7.later b8; have q8 := q7.later b8; have r8 := r7.later b8; have B8 := bnext B7 b8 (Nat.le_refl _)
         have HI2 := inside_any s8 q8 (by have := hAl.out; omega) (by have := hBl.out; omega)
         rw [hI.out] at HI2)
      | (go_at_call 17; clear t8; refine HI2.mono ?_; rintro e w9 ⟨rfl, b9⟩; have s9 := s8.later b9; have q9 := q8.later b9; have r9 := r8.later b9; have B9 := bnext B8 b9 (Nat.le_refl _); have Bz := B9
         have HJ2 := inside_any q9 r9 (by have := hBl.out; omega) (by have := hCl.out; omega)
         rw [hJ.out] at HJ2)
      | (go_at_call 17; clear t9 Bz; refine HJ2.mono ?_; rintro e w10 ⟨rfl, b10⟩; have s10 := s9.later b10; have r10 := r9.later b10; have B10 := bnext B9 b10 (Nat.le_refl _); have Bz := B10
         have HG2 := inside_any s10 r10 (by have := hAl.out; omega) (by have := hCl.out; omega)
         rw [hG.out] at HG2)
      | (go_at_call 17; clear Bz; refine HG2.mono ?_; rintro e w11 ⟨rfl, b11⟩; have Bz := bnext B10 b11 (Nat.le_refl _))
      | (go_at_call 13; refine (works23_any _).mono ?_; rintro e w12 ⟨rfl, b12⟩; have B12 := bnext Bz b12 (Nat.le_refl _)))
    go_returns
    exact ⟨rfl, B12⟩)
theorem own : ownKnob Try.prog.godebug = none := by kernel_rfl
theorem laidOut : laidOutB Try.prog = true := by kernel_rfl
set_option maxRecDepth 100000 in
theorem lifted (os : Os) (started : os.Started) (H : Type) (enc : TypeId × Value → H) :
    ReturnsInHanded {} Try.checked os 7 .any (Rows.pathInsideSpec.pre6 enc Try.prog Try.f7 Rows.pathInsideRow.domain false) (Rows.pathInsideSpec.post enc Try.prog Try.f7 false true false false) := by
  refine returnsInHanded_of_change (C := Try.checked) own started (by kernel_rfl) Try.func7
    (ChangeSpec.witness6 (enc := enc) (C := Try.checked) false ⟨#[], #[.slice none 0 0, .slice none 0 0, .slice none 0 0], []⟩ 8 (by kernel_rfl) (by kernel_rfl) (by kernel_rfl) (by kernel_rfl)) ?_
  intro W base args ds gs before hval0 hW hcnd _
  have hval : ∀ (j : Nat) t v, Try.f7.params[j]? = some t → args[j]? = some v → Value.okWide Try.prog W .any base t v := hval0
  have hW' := hW
  obtain ⟨p, q, hA0, hV, rfl, hfz, hnd⟩ := hW
  have hA : DataW.TrodAll enc Try.prog W 0 (fun _ => true) true Try.f7.params.toList args.toList ds p := hA0
  rw [Try.params7] at hA hval
  obtain ⟨v0, vs0, d0, ds0, p0, q0, hargs, rfl, rfl, h0, r0⟩ := trodAll_cons hA
  obtain ⟨v1, vs1, d1, ds1, p1, q1, rfl, rfl, rfl, h1, r1⟩ := trodAll_cons r0
  obtain ⟨v2, vs2, d2, ds2, p2, q2, rfl, rfl, rfl, h2, r2⟩ := trodAll_cons r1
  obtain ⟨rfl, rfl, rfl⟩ := trodAll_nil r2
  obtain rfl : args = #[v0, v1, v2] := by cases args; simp_all
  obtain ⟨rfl, rfl⟩ := trodVars_none hV
  obtain ⟨a0, len0, cap0, rfl⟩ := okWide_slice Try.underlying22 (hval 0 22 v0 rfl rfl)
  have k0 := h0
  have lt0 : ∀ x ∈ p0, x.block < W.heap.size := by obtain ⟨m, hm⟩ := k0; exact DataW.trod_lt m _ _ _ hm
  obtain ⟨z0, w0⟩ : ∃ zs, Sts W a0 len0 cap0 zs := by
    obtain ⟨fuel, hf⟩ := h0
    obtain ⟨a, n, c, l, hcs, hi⟩ := sts_of_trod hf
    simp [Value.cells] at hcs
    obtain ⟨rfl, rfl, rfl⟩ := hcs
    exact ⟨_, hi⟩
  obtain ⟨a1, len1, cap1, rfl⟩ := okWide_slice Try.underlying22 (hval 1 22 v1 rfl rfl)
  have k1 := h1
  have lt1 : ∀ x ∈ p1, x.block < W.heap.size := by obtain ⟨m, hm⟩ := k1; exact DataW.trod_lt m _ _ _ hm
  obtain ⟨z1, w1⟩ : ∃ zs, Sts W a1 len1 cap1 zs := by
    obtain ⟨fuel, hf⟩ := h1
    obtain ⟨a, n, c, l, hcs, hi⟩ := sts_of_trod hf
    simp [Value.cells] at hcs
    obtain ⟨rfl, rfl, rfl⟩ := hcs
    exact ⟨_, hi⟩
  obtain ⟨a2, len2, cap2, rfl⟩ := okWide_slice Try.underlying22 (hval 2 22 v2 rfl rfl)
  have k2 := h2
  have lt2 : ∀ x ∈ p2, x.block < W.heap.size := by obtain ⟨m, hm⟩ := k2; exact DataW.trod_lt m _ _ _ hm
  obtain ⟨z2, w2⟩ : ∃ zs, Sts W a2 len2 cap2 zs := by
    obtain ⟨fuel, hf⟩ := h2
    obtain ⟨a, n, c, l, hcs, hi⟩ := sts_of_trod hf
    simp [Value.cells] at hcs
    obtain ⟨rfl, rfl, rfl⟩ := hcs
    exact ⟨_, hi⟩
  clear hA0 hval0
  refine (walk a0 len0 cap0 z0 a1 len1 cap1 z1 a2 len2 cap2 z2 W w0 w1 w2).mono fun e W' ⟨he, bel⟩ => ?_
  subst he
  exact ⟨_, rfl, _, _, _, [], _, [], hW', trodAll_mk1 (shut_bool Try.underlying4 _), (trodAll_cons_mk (Below.trod laidOut (by kernel_rfl) (of_decide_eq_true (by kernel_rfl)) k0 bel lt0) (trodAll_cons_mk (Below.trod laidOut (by kernel_rfl) (of_decide_eq_true (by kernel_rfl)) k1 bel lt1) (trodAll_cons_mk (Below.trod laidOut (by kernel_rfl) (of_decide_eq_true (by kernel_rfl)) k2 bel lt2) trodAll_mk0))), rfl, bel.frame _, fun h => by cases h⟩
theorem over : Rows.pathInsideRow.holds Try.pinned (OpenSpec.ofChange Rows.pathInsideSpec) :=
  OpenClaim.holds_of_wide 7 Try.f7 rfl rfl rfl rfl rfl rfl rfl ⟨rfl, rfl, rfl, rfl, rfl⟩ rfl rfl rfl rfl rfl (by kernel_rfl) Try.func7 (by kernel_rfl)
    (of_decide_eq_true (by kernel_rfl)) (by unfold Func.isWrapper; first | (rw [if_pos (by decide +kernel)]; kernel_rfl) | (rw [if_neg (by decide +kernel)]; exact ⟨rfl, rfl⟩))
    (fun os started H enc _ => lifted os started H enc)
end Go.Proofs.Ytadeocphkihamaa.pathInside
namespace Go.Proofs.Ytadeocphkihamaa
/-- The statement. -/
theorem pathInside_holds : Rows.PathInsideSaid := pathInside.over
#print axioms pathInside_holds
end Go.Proofs.Ytadeocphkihamaa
