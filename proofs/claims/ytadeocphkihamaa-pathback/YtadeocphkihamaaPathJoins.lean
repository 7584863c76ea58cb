/-
  The statement PathJoins, proved: for all names the law returns true; no condition.
-/
import Derived.Test.YtadeocphkihamaaPaW
namespace Go.Proofs.Ytadeocphkihamaa.pathJoins
open Go.ChangeShapes Go.WideShapes Go.ChangeAt Go.RowKit
set_option linter.unusedVariables false

theorem fewS {w : World} {a : Option Addr} {n c : Nat} {L A : List (List UInt8)} (hS : Sts w a n c L) (hA : fewN L = A) : Calls Try.prog 14 #[.slice a n c] w fun e w' => ∃ a' c', e = .returned (.slice a' A.length c') ∧ Sts w' a' A.length c' A ∧ OwT w.heap.size w' (.slice a' A.length c') A ∧ Below w.heap.size w w' := by
  refine (fewT_any hS).mono ?_
  rintro e w' ⟨v, rfl, o, b⟩
  rw [hA] at o
  obtain ⟨a', c', rfl, h, _⟩ := o.shape
  exact ⟨a', c', rfl, h, o, b⟩
set_option maxRecDepth 100000 in
set_option maxHeartbeats 4000000 in
theorem walk (a : Option Addr) (n c : Nat) (L : List (List UInt8)) (a' : Option Addr) (n' c' : Nat) (M : List (List UInt8)) (w : World) (hL : Sts w a n c L) (hM : Sts w a' n' c' M) :
    Calls Try.prog 4 #[.slice a n c, .slice a' n' c'] w fun e w' => e = .returned (.bool true) ∧ Below w.heap.size w w' := by
  obtain ⟨A, hA⟩ : ∃ A, Hid (fewN L = A) := ⟨_, rfl⟩
  obtain ⟨B, hB⟩ : ∃ B, Hid (fewN M = B) := ⟨_, rfl⟩
  have hAA : Hid (fewN A = A) := by show _ = _; rw [← hA.out]; exact fewN_idem L
  have hBB : Hid (fewN B = B) := by show _ = _; rw [← hB.out]; exact fewN_idem M
  have hAl : Hid (A.length ≤ 30) := by show _ ≤ _; rw [← hA.out]; exact fewN_len L
  have hBl : Hid (B.length ≤ 30) := by show _ ≤ _; rw [← hB.out]; exact fewN_len M
  obtain ⟨S, hS⟩ : ∃ S, Hid (jS A = S) := ⟨_, rfl⟩
  obtain ⟨E, hE⟩ : ∃ E, Hid (jE A = E) := ⟨_, rfl⟩
  obtain ⟨I, hI⟩ : ∃ I, Hid (insB A B = I) := ⟨_, rfl⟩
  obtain ⟨AB, hAB⟩ : ∃ AB, Hid (A ++ B = AB) := ⟨_, rfl⟩
  have hABl : Hid (AB.length ≤ 60) := by show _ ≤ _; rw [← hAB.out, List.length_append]; have := hAl.out; have := hBl.out; omega
  have hJ : Hid (insB A AB = decide ((0 : Int) < (B.length : Int))) := by
    show _ = _
    rw [← hAB.out, ins_app]
    exact decide_eq_decide.2 (by omega)
  have tS := str_list S
  have t1 : Hid True := trivial
  have t2 : Hid True := trivial
  have t3 : Hid True := trivial
  have t4 : Hid True := trivial
  have t5 : Hid True := trivial
  have t6 : Hid True := trivial
  have t7 : Hid True := trivial
  have t8 : Hid True := trivial
  go_enter Try.func4, Try.ntmps4
  go_wp2_with (first
    | (go_at_call 14; clear t1; refine (fewS hL hA.out).mono ?_; rintro e w1 ⟨a1, c1, rfl, s1, -, b1⟩; have m1 := hM.later b1)
    | (go_at_call 14; clear t2; refine (fewS m1 hB.out).mono ?_; rintro e w2 ⟨a2, c2, rfl, q2, -, b2⟩; have s2 := s1.later b2; have B2 := bnext b1 b2 (Nat.le_refl _))
    | (go_at_call 14; clear t3; refine (fewS s2 hAA.out).mono ?_; rintro e w3 ⟨a3, c3, rfl, x3, -, b3⟩; have s3 := s2.later b3; have q3 := q2.later b3; have B3 := bnext B2 b3 (Nat.le_refl _)
       have HJ := join_anyP x3 (by have := hAl.out; omega)
       rw [hS.out, hE.out] at HJ)
    | (go_at_call 15; refine HJ.mono ?_; rintro e w4 ⟨rfl, b4⟩; have s4 := s3.later b4; have q4 := q3.later b4; have B4 := bnext B3 b4 (Nat.le_refl _)
       have HK := rjoin_any s4 (by have := hAl.out; omega)
       rw [hS.out, hE.out] at HK)
    | (go_at_call 16; refine HK.mono ?_; rintro e w5 ⟨rfl, rfl⟩)
    | (go_at_call 14; clear t4; refine (fewS s4 hAA.out).mono ?_; rintro e w6 ⟨a6, c6, rfl, x6, -, b6⟩; have s6 := s4.later b6; have q6 := q4.later b6; have B6 := bnext B4 b6 (Nat.le_refl _))
    | (go_at_call 14; clear t5; refine (fewS q6 hBB.out).mono ?_; rintro e w7 ⟨a7, c7, rfl, y7, -, b7⟩; have s7 := s6.later b7; have q7 := q6.later b7; have x7 := x6.later b7; have B7 := bnext B6 b7 (Nat.le_refl _)
       have HI := inside_any x7 y7 (by have := hAl.out; omega) (by have := hBl.out; omega)
       rw [hI.out] at HI)
    | (go_at_call 17; clear t6; refine HI.mono ?_; rintro e w8 ⟨rfl, b8⟩; have s8 := s7.later b8; have q8 := q7.later b8; have B8 := bnext B7 b8 (Nat.le_refl _)
       have HR := rinside_any s8 q8 (by have := hAl.out; omega) (by have := hBl.out; omega)
       rw [hI.out] at HR)
    | (go_at_call 18; refine HR.mono ?_; rintro e w9 ⟨rfl, b9⟩; have s9 := s8.later b9; have q9 := q8.later b9; have B9 := bnext B8 b9 (Nat.le_refl _))
    | (go_at_call 14; clear t7; refine (fewS s9 hAA.out).mono ?_; rintro e w10 ⟨a10, c10, rfl, x10, -, b10⟩; have s10 := s9.later b10; have q10 := q9.later b10; have B10 := bnext B9 b10 (Nat.le_refl _))
    | (go_at_call 14; clear t8; refine (fewS s10 hAA.out).mono ?_; rintro e w11 ⟨a11, c11, rfl, -, o11, b11⟩; have q11 := q10.later b11; have x11 := x10.later b11; have B11 := bnext B10 b11 (Nat.le_refl _))
    | (refine at_appTw w10.heap.size (by rfl) _ _ (by rfl) (by rfl) o11 a2 B.length c2 (by rfl) q11 (by have := hAl.out; have := hBl.out; omega) b11.size ?_; intro v w12 o12 k12
       rw [hAB.out] at o12
       obtain ⟨a12, c12, rfl, y12, _⟩ := o12.shape
       have x12 := x10.later (((Stp.of_below b11 (fun x => w10.heap.size ≤ x)).next k12 (fun _ h => .inl h)).below (Nat.le_refl _) (fun _ h => h))
       have B12 := bnext B10 (((Stp.of_below b11 (fun x => w10.heap.size ≤ x)).next k12 (fun _ h => .inl h)).below (Nat.le_refl _) (fun _ h => h)) (Nat.le_refl _)
       have HL := inside_any x12 y12 (by have := hAl.out; omega) (by have := hABl.out; omega)
       rw [hJ.out] at HL)
    | (go_at_call 17; refine HL.mono ?_; rintro e w13 ⟨rfl, b13⟩; have B13 := bnext B12 b13 (Nat.le_refl _))
    | (go_at_call 13; refine (works23_any _).mono ?_; rintro e w14 ⟨rfl, b14⟩; have B14 := bnext B13 b14 (Nat.le_refl _)))
  go_returns
  exact ⟨by simp, B14⟩
theorem own : ownKnob Try.prog.godebug = none := by kernel_rfl
theorem laidOut : laidOutB Try.prog = true := by kernel_rfl
set_option maxRecDepth 100000 in
theorem lifted (os : Os) (started : os.Started) (H : Type) (enc : TypeId × Value → H) :
    ReturnsInHanded {} Try.checked os 4 .any (Rows.pathJoinsSpec.pre6 enc Try.prog Try.f4 Rows.pathJoinsRow.domain false) (Rows.pathJoinsSpec.post enc Try.prog Try.f4 false true false false) := by
  refine returnsInHanded_of_change (C := Try.checked) own started (by kernel_rfl) Try.func4
    (ChangeSpec.witness6 (enc := enc) (C := Try.checked) false ⟨#[], #[.slice none 0 0, .slice none 0 0], []⟩ 8 (by kernel_rfl) (by kernel_rfl) (by kernel_rfl) (by kernel_rfl)) ?_
  intro W base args ds gs before hval0 hW hcnd _
  have hval : ∀ (j : Nat) t v, Try.f4.params[j]? = some t → args[j]? = some v → Value.okWide Try.prog W .any base t v := hval0
  have hW' := hW
  obtain ⟨p, q, hA0, hV, rfl, hfz, hnd⟩ := hW
  have hA : DataW.TrodAll enc Try.prog W 0 (fun _ => true) true Try.f4.params.toList args.toList ds p := hA0
  rw [Try.params4] at hA hval
  obtain ⟨v0, vs0, d0, ds0, p0, q0, hargs, rfl, rfl, h0, r0⟩ := trodAll_cons hA
  obtain ⟨v1, vs1, d1, ds1, p1, q1, rfl, rfl, rfl, h1, r1⟩ := trodAll_cons r0
  obtain ⟨rfl, rfl, rfl⟩ := trodAll_nil r1
  obtain rfl : args = #[v0, v1] := by cases args; simp_all
  obtain ⟨rfl, rfl⟩ := trodVars_none hV
  obtain ⟨a0, len0, cap0, rfl⟩ := okWide_slice Try.underlying22 (hval 0 22 v0 rfl rfl)
  have k0 := h0
  have lt0 : ∀ x ∈ p0, x.block < W.heap.size := by obtain ⟨m, hm⟩ := k0; exact DataW.trod_lt m _ _ _ hm
  obtain ⟨z0, w0⟩ : ∃ zs, Sts W a0 len0 cap0 zs := by
    obtain ⟨fuel, hf⟩ := h0
    obtain ⟨a, n, c, l, hcs, hi⟩ := sts_of_trod hf
    simp [Value.cells] at hcs
    obtain ⟨rfl, rfl, rfl⟩ := hcs
    exact ⟨_, hi⟩
  obtain ⟨a1, len1, cap1, rfl⟩ := okWide_slice Try.underlying22 (hval 1 22 v1 rfl rfl)
  have k1 := h1
  have lt1 : ∀ x ∈ p1, x.block < W.heap.size := by obtain ⟨m, hm⟩ := k1; exact DataW.trod_lt m _ _ _ hm
  obtain ⟨z1, w1⟩ : ∃ zs, Sts W a1 len1 cap1 zs := by
    obtain ⟨fuel, hf⟩ := h1
    obtain ⟨a, n, c, l, hcs, hi⟩ := sts_of_trod hf
    simp [Value.cells] at hcs
    obtain ⟨rfl, rfl, rfl⟩ := hcs
    exact ⟨_, hi⟩
  clear hA0 hval0
  refine (walk a0 len0 cap0 z0 a1 len1 cap1 z1 W w0 w1).mono fun e W' ⟨he, bel⟩ => ?_
  subst he
  exact ⟨_, rfl, _, _, _, [], _, [], hW', trodAll_mk1 (shut_bool Try.underlying4 _), (trodAll_cons_mk (Below.trod laidOut (by kernel_rfl) (of_decide_eq_true (by kernel_rfl)) k0 bel lt0) (trodAll_cons_mk (Below.trod laidOut (by kernel_rfl) (of_decide_eq_true (by kernel_rfl)) k1 bel lt1) trodAll_mk0)), rfl, bel.frame _, fun h => by cases h⟩
theorem over : Rows.pathJoinsRow.holds Try.pinned (OpenSpec.ofChange Rows.pathJoinsSpec) :=
  OpenClaim.holds_of_wide 4 Try.f4 rfl rfl rfl rfl rfl rfl rfl ⟨rfl, rfl, rfl, rfl, rfl⟩ rfl rfl rfl rfl rfl (by kernel_rfl) Try.func4 (by kernel_rfl)
    (of_decide_eq_true (by kernel_rfl)) (by unfold Func.isWrapper; first | (rw [if_pos (by decide +kernel)]; kernel_rfl) | (rw [if_neg (by decide +kernel)]; exact ⟨rfl, rfl⟩))
    (fun os started H enc _ => lifted os started H enc)
end Go.Proofs.Ytadeocphkihamaa.pathJoins
namespace Go.Proofs.Ytadeocphkihamaa
/-- The statement. -/
theorem pathJoins_holds : Rows.PathJoinsSaid := pathJoins.over
#print axioms pathJoins_holds
end Go.Proofs.Ytadeocphkihamaa
