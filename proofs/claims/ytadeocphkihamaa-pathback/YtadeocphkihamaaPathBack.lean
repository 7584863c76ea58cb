/-
  The statement PathBack, proved: for all names and every text the law returns true; no condition.
-/
import Derived.Test.YtadeocphkihamaaPathJoins
namespace Go.Proofs.Ytadeocphkihamaa.pathBack
open Go.ChangeShapes Go.WideShapes Go.ChangeAt Go.RowKit
set_option linter.unusedVariables false

theorem bundrewL {w w' : World} (h : Below w.drew.heap.size w.drew w') : Below w.heap.size w w' := ⟨h.os, h.tape, h.output, h.size, h.block⟩
set_option maxRecDepth 100000 in
set_option maxHeartbeats 4000000 in
theorem walk (a : Option Addr) (n c : Nat) (L : List (List UInt8)) (l : List UInt8) (w : World) (hL : Sts w a n c L) :
    Calls Try.prog 5 #[.slice a n c, .string (str l)] w fun e w' => e = .returned (.bool true) ∧ Below w.heap.size w w' := by
  have hz := str_size l
  obtain ⟨hm1, hm2, hm3, hm4, hm5⟩ := cut400 l
  have hcut := str_cut l (min l.length 400)
  generalize min l.length 400 = m at *
  generalize l.take m = p at *
  obtain ⟨A, hA⟩ : ∃ A, Hid (fewN L = A) := ⟨_, rfl⟩
  have hAl : Hid (A.length ≤ 30) := by show _ ≤ _; rw [← hA.out]; exact fewN_len L
  have hp : p.length ≤ 5000 := by omega
  have H2 := fun w => split_any p w hp
  have hN : Hid ((spN p).length ≤ 16) := spN_len p
  have h1 : Hid (jE A = 0 → spE (jS A) = 0 ∧ spN (jS A) = A) := split_join
  have h2 : Hid (spE p = 0 → jE (spN p) = 0 ∧ jS (spN p) = p) := join_split
  have h3 : Hid (spE p ≠ 0 → spN p = []) := spN_no
  have H1 : Hid (∀ w, Calls Try.prog 8 #[.string (str (jS A))] w fun e w' => SpR w' (jS A) e ∧ Below w.heap.size w w') := fun w => split_any (jS A) w (by have := jS_len A; omega)
  obtain ⟨S, hS⟩ : ∃ S, Hid (jS A = S) := ⟨_, rfl⟩
  obtain ⟨E, hE⟩ : ∃ E, Hid (jE A = E) := ⟨_, rfl⟩
  rw [hS.out] at H1 h1
  rw [hE.out] at h1
  unfold SpR at H2
  generalize spN p = N at *
  generalize spE p = F at *
  have tp := str_list p
  have t1 : Hid True := trivial
  have t2 : Hid True := trivial
  have HJJ : Hid (∀ w a n c, Sts w a n c A → Calls Try.prog 15 #[.slice a n c] w fun e w' => e = .returned (.tuple #[.string (str S), .int .i64 E]) ∧ Below w.heap.size w w') := fun w a n c h => by
    have := join_anyP h (by have := hAl.out; omega)
    rw [hS.out, hE.out] at this
    exact this
  have HW := fun w => works23_any w
  by_cases e1 : E = 0
  · have q1 : Hid (spE S = 0) := (h1.out e1).1
    have q2 : Hid (spN S = A) := (h1.out e1).2
    have H1' : ∀ w, Calls Try.prog 8 #[.string (str S)] w fun e w' => ∃ a n c, e = .returned (.tuple #[.slice a n c, .int .i64 0]) ∧ Sts w' a n c A ∧ Below w.heap.size w w' := fun w => by
      refine (H1.out w).mono ?_
      rintro e w' ⟨⟨a, n, c, rfl, h⟩, b⟩
      rw [q1.out]; rw [q2.out] at h
      exact ⟨a, n, c, rfl, h, b⟩
    subst e1
    clear H1 hS hE
    by_cases e2 : F = 0
    · have z1 : Hid (jE N = 0) := (h2.out e2).1
      have z2 : Hid (jS N = p) := (h2.out e2).2
      subst e2
      clear h1 h2 h3
      go_enter Try.func5, Try.ntmps5
      go_wp2_with (first
        | (go_at_call 13; refine (HW _).mono ?_; rintro e w1 ⟨rfl, b1⟩; have l1 := hL.later b1))
      go_region_held3 (fun _ => True) (trivial) (first | (go_at_call 14; refine (pathJoins.fewS (l1.later (Below.refl _ _).drew) hA.out).mono ?_; rintro e w2 ⟨a2, c2, rfl, s2, -, b2⟩; have B2 := bnext b1 (bundrewL b2) (Nat.le_refl _); have HJ := HJJ.out _ _ _ _ s2))
      go_wp2_with (first
        | (go_at_call 15; clear t1; refine HJ.mono ?_; rintro e w3 ⟨rfl, b3⟩; have B3 := bnext B2 b3 (Nat.le_refl _); have s3 := s2.later b3)
        | (go_at_call 8; clear t2; refine (H1' _).mono ?_; rintro e w4 ⟨a4, n4, c4, rfl, s4, b4⟩; have B4 := bnext B3 b4 (Nat.le_refl _); have HS := sameT_any s4 (s3.later b4) (by have := hAl.out; omega))
        | (go_at_call 12; refine HS.mono ?_; rintro e w5 ⟨rfl, b5⟩; have B5 := bnext B4 b5 (Nat.le_refl _))
        | (go_at_call 8; refine (H2 _).mono ?_; rintro e w6 ⟨⟨a6, n6, c6, rfl, s6⟩, b6⟩; have B6 := bnext B5 b6 (Nat.le_refl _)
           have HK := join_anyP s6 (by have := hN.out; omega)
           rw [z1.out, z2.out] at HK)
        | (go_at_call 15; refine HK.mono ?_; rintro e w7 ⟨rfl, b7⟩; have B7 := bnext B6 b7 (Nat.le_refl _)))
      all_goals (
        go_returns
        exact ⟨by simp, B7⟩)
    · have z3 : Hid (N = []) := h3.out e2
      clear h1 h2 h3
      go_enter Try.func5, Try.ntmps5
      go_wp2_with (first
        | (go_at_call 13; refine (HW _).mono ?_; rintro e w1 ⟨rfl, b1⟩; have l1 := hL.later b1))
      go_region_held3 (fun _ => True) (trivial) (first | (go_at_call 14; refine (pathJoins.fewS (l1.later (Below.refl _ _).drew) hA.out).mono ?_; rintro e w2 ⟨a2, c2, rfl, s2, -, b2⟩; have B2 := bnext b1 (bundrewL b2) (Nat.le_refl _); have HJ := HJJ.out _ _ _ _ s2))
      go_wp2_with (first
        | (go_at_call 15; clear t1; refine HJ.mono ?_; rintro e w3 ⟨rfl, b3⟩; have B3 := bnext B2 b3 (Nat.le_refl _); have s3 := s2.later b3)
        | (go_at_call 8; clear t2; refine (H1' _).mono ?_; rintro e w4 ⟨a4, n4, c4, rfl, s4, b4⟩; have B4 := bnext B3 b4 (Nat.le_refl _); have HS := sameT_any s4 (s3.later b4) (by have := hAl.out; omega))
        | (go_at_call 12; refine HS.mono ?_; rintro e w5 ⟨rfl, b5⟩; have B5 := bnext B4 b5 (Nat.le_refl _))
        | (go_at_call 8; refine (H2 _).mono ?_; rintro e w6 ⟨⟨a6, n6, c6, rfl, s6⟩, b6⟩; have B6 := bnext B5 b6 (Nat.le_refl _)
           obtain rfl : 0 = n6 := by { have := s6.len; rw [z3.out] at this; exact this }))
      all_goals (
        go_returns
        exact ⟨by simp, B6⟩)
  · clear H1 hS hE
    by_cases e2 : F = 0
    · have z1 : Hid (jE N = 0) := (h2.out e2).1
      have z2 : Hid (jS N = p) := (h2.out e2).2
      subst e2
      clear h1 h2 h3
      go_enter Try.func5, Try.ntmps5
      go_wp2_with (first
        | (go_at_call 13; refine (HW _).mono ?_; rintro e w1 ⟨rfl, b1⟩; have l1 := hL.later b1))
      go_region_held3 (fun _ => True) (trivial) (first | (go_at_call 14; refine (pathJoins.fewS (l1.later (Below.refl _ _).drew) hA.out).mono ?_; rintro e w2 ⟨a2, c2, rfl, s2, -, b2⟩; have B2 := bnext b1 (bundrewL b2) (Nat.le_refl _); have HJ := HJJ.out _ _ _ _ s2))
      go_wp2_with (first
        | (go_at_call 15; clear t1; refine HJ.mono ?_; rintro e w3 ⟨rfl, b3⟩; have B3 := bnext B2 b3 (Nat.le_refl _); have s3 := s2.later b3)
        | (go_at_call 8; refine (H2 _).mono ?_; rintro e w6 ⟨⟨a6, n6, c6, rfl, s6⟩, b6⟩; have B6 := bnext B3 b6 (Nat.le_refl _)
           have HK := join_anyP s6 (by have := hN.out; omega)
           rw [z1.out, z2.out] at HK)
        | (go_at_call 15; refine HK.mono ?_; rintro e w7 ⟨rfl, b7⟩; have B7 := bnext B6 b7 (Nat.le_refl _)))
      all_goals (
        go_returns
        exact ⟨by simp, B7⟩)
    · have z3 : Hid (N = []) := h3.out e2
      clear h1 h2 h3
      go_enter Try.func5, Try.ntmps5
      go_wp2_with (first
        | (go_at_call 13; refine (HW _).mono ?_; rintro e w1 ⟨rfl, b1⟩; have l1 := hL.later b1))
      go_region_held3 (fun _ => True) (trivial) (first | (go_at_call 14; refine (pathJoins.fewS (l1.later (Below.refl _ _).drew) hA.out).mono ?_; rintro e w2 ⟨a2, c2, rfl, s2, -, b2⟩; have B2 := bnext b1 (bundrewL b2) (Nat.le_refl _); have HJ := HJJ.out _ _ _ _ s2))
      go_wp2_with (first
        | (go_at_call 15; clear t1; refine HJ.mono ?_; rintro e w3 ⟨rfl, b3⟩; have B3 := bnext B2 b3 (Nat.le_refl _); have s3 := s2.later b3)
        | (go_at_call 8; refine (H2 _).mono ?_; rintro e w6 ⟨⟨a6, n6, c6, rfl, s6⟩, b6⟩; have B6 := bnext B3 b6 (Nat.le_refl _)
           obtain rfl : 0 = n6 := by { have := s6.len; rw [z3.out] at this; exact this }))
      all_goals (
        go_returns
        exact ⟨by simp, B6⟩)
theorem own : ownKnob Try.prog.godebug = none := by kernel_rfl
theorem laidOut : laidOutB Try.prog = true := by kernel_rfl
set_option maxRecDepth 100000 in
theorem lifted (os : Os) (started : os.Started) (H : Type) (enc : TypeId × Value → H) :
    ReturnsInHanded {} Try.checked os 5 .any (Rows.pathBackSpec.pre6 enc Try.prog Try.f5 Rows.pathBackRow.domain false) (Rows.pathBackSpec.post enc Try.prog Try.f5 false true false false) := by
  refine returnsInHanded_of_change (C := Try.checked) own started (by kernel_rfl) Try.func5
    (ChangeSpec.witness6 (enc := enc) (C := Try.checked) false ⟨#[], #[.slice none 0 0, .string ByteArray.empty], []⟩ 8 (by kernel_rfl) (by kernel_rfl) (by kernel_rfl) (by kernel_rfl)) ?_
  intro W base args ds gs before hval0 hW hcnd _
  have hval : ∀ (j : Nat) t v, Try.f5.params[j]? = some t → args[j]? = some v → Value.okWide Try.prog W .any base t v := hval0
  have hW' := hW
  obtain ⟨p, q, hA0, hV, rfl, hfz, hnd⟩ := hW
  have hA : DataW.TrodAll enc Try.prog W 0 (fun _ => true) true Try.f5.params.toList args.toList ds p := hA0
  rw [Try.params5] at hA hval
  obtain ⟨v0, vs0, d0, ds0, p0, q0, hargs, rfl, rfl, h0, r0⟩ := trodAll_cons hA
  obtain ⟨v1, vs1, d1, ds1, p1, q1, rfl, rfl, rfl, h1, r1⟩ := trodAll_cons r0
  obtain ⟨rfl, rfl, rfl⟩ := trodAll_nil r1
  obtain rfl : args = #[v0, v1] := by cases args; simp_all
  obtain ⟨rfl, rfl⟩ := trodVars_none hV
  obtain ⟨a0, len0, cap0, rfl⟩ := okWide_slice Try.underlying22 (hval 0 22 v0 rfl rfl)
  have k0 := h0
  have lt0 : ∀ x ∈ p0, x.block < W.heap.size := by obtain ⟨m, hm⟩ := k0; exact DataW.trod_lt m _ _ _ hm
  obtain ⟨z0, w0⟩ : ∃ zs, Sts W a0 len0 cap0 zs := by
    obtain ⟨fuel, hf⟩ := h0
    obtain ⟨a, n, c, l, hcs, hi⟩ := sts_of_trod hf
    simp [Value.cells] at hcs
    obtain ⟨rfl, rfl, rfl⟩ := hcs
    exact ⟨_, hi⟩
  obtain ⟨t1, rfl, rfl, rfl, hs1⟩ := Go.ChangeMaps.open_string Try.underlying9 (hval 1 9 v1 rfl rfl) h1
  obtain ⟨s1, rfl⟩ : ∃ l, t1 = str l := ⟨_, str_of t1⟩
  clear hA0 hval0
  refine (walk a0 len0 cap0 z0 s1 W w0).mono fun e W' ⟨he, bel⟩ => ?_
  subst he
  exact ⟨_, rfl, _, _, _, [], _, [], hW', trodAll_mk1 (shut_bool Try.underlying4 _), (trodAll_cons_mk (Below.trod laidOut (by kernel_rfl) (of_decide_eq_true (by kernel_rfl)) k0 bel lt0) (trodAll_cons_mk (Go.ChangeMaps.shut_string Try.underlying9 hs1) trodAll_mk0)), rfl, bel.frame _, fun h => by cases h⟩
theorem over : Rows.pathBackRow.holds Try.pinned (OpenSpec.ofChange Rows.pathBackSpec) :=
  OpenClaim.holds_of_wide 5 Try.f5 rfl rfl rfl rfl rfl rfl rfl ⟨rfl, rfl, rfl, rfl, rfl⟩ rfl rfl rfl rfl rfl (by kernel_rfl) Try.func5 (by kernel_rfl)
    (of_decide_eq_true (by kernel_rfl)) (by unfold Func.isWrapper; first | (rw [if_pos (by decide +kernel)]; kernel_rfl) | (rw [if_neg (by decide +kernel)]; exact ⟨rfl, rfl⟩))
    (fun os started H enc _ => lifted os started H enc)
end Go.Proofs.Ytadeocphkihamaa.pathBack
namespace Go.Proofs.Ytadeocphkihamaa
/-- The statement. -/
theorem pathBack_holds : Rows.PathBackSaid := pathBack.over
#print axioms pathBack_holds
end Go.Proofs.Ytadeocphkihamaa
