/-
  The statement PathSplits, proved: for every text the law returns true; no condition.
-/
import Derived.Test.YtadeocphkihamaaPaW
namespace Go.Proofs.Ytadeocphkihamaa.pathSplits
open Go.ChangeShapes Go.WideShapes Go.ChangeAt Go.RowKit
set_option linter.unusedVariables false

set_option maxRecDepth 100000 in
set_option maxHeartbeats 2000000 in
theorem walk (l : List UInt8) (w : World) : Calls Try.prog 3 #[.string (str l)] w fun e w' => e = .returned (.bool true) ∧ Below w.heap.size w w' := by
  have hz := str_size l
  obtain ⟨hm1, hm2, hm3, hm4, hm5⟩ := cut400 l
  have hcut := str_cut l (min l.length 400)
  generalize min l.length 400 = m at *
  generalize l.take m = s at *
  have hs : s.length ≤ 5000 := by omega
  have H1 := fun w => split_any s w hs
  have H2 := fun w => rsplit_any s w hs
  have H3 := fun w => last_anyP s w hs
  have H4 := fun w => rlast_any s w hs
  have hN : Hid ((spN s).length ≤ 16) := spN_len s
  have hM : Hid ((lsN s).length ≤ 16) := by have := spN_len s; show _ ≤ _; unfold lsN; simp; omega
  unfold SpR at H1 H2
  unfold LaR at H3 H4
  generalize spN s = N at *
  generalize lsN s = M at *
  generalize spE s = E at *
  generalize lsE s = F at *
  generalize lsS s = T at *
  have tT := str_list T
  have t1 : Hid True := trivial
  go_enter Try.func3, Try.ntmps3
  go_wp2_with (first
    | (go_at_call 8; refine (H1 _).mono ?_; rintro e w1 ⟨⟨a1, n1, c1, rfl, s1⟩, b1⟩)
    | (go_at_call 9; refine (H2 _).mono ?_; rintro e w2 ⟨⟨a2, n2, c2, rfl, s2⟩, b2⟩; have r1 := s1.later b2; have B2 := bnext b1 b2 (Nat.le_refl _))
    | (go_at_call 10; refine (H3 _).mono ?_; rintro e w3 ⟨⟨a3, n3, c3, rfl, s3⟩, b3⟩; have q1 := r1.later b3; have q2 := s2.later b3; have B3 := bnext B2 b3 (Nat.le_refl _))
    | (go_at_call 11; refine (H4 _).mono ?_; rintro e w4 ⟨⟨a4, n4, c4, rfl, s4⟩, b4⟩; have p1 := q1.later b4; have p2 := q2.later b4; have p3 := s3.later b4; have B4 := bnext B3 b4 (Nat.le_refl _); have HS := sameT_any p1 p2 (by have := hN.out; omega))
    | (go_at_call 12; clear t1; refine HS.mono ?_; rintro e w5 ⟨rfl, b5⟩; have B5 := bnext B4 b5 (Nat.le_refl _); have HT := sameT_any (p3.later b5) (s4.later b5) (by have := hM.out; omega))
    | (go_at_call 12; refine HT.mono ?_; rintro e w6 ⟨rfl, b6⟩; have B6 := bnext B5 b6 (Nat.le_refl _))
    | (go_at_call 13; refine (works23_any _).mono ?_; rintro e w7 ⟨rfl, b7⟩; have B7 := bnext B6 b7 (Nat.le_refl _)))
  go_returns
  exact ⟨by simp, B7⟩
theorem own : ownKnob Try.prog.godebug = none := by kernel_rfl
theorem laidOut : laidOutB Try.prog = true := by kernel_rfl
set_option maxRecDepth 100000 in
theorem lifted (os : Os) (started : os.Started) (H : Type) (enc : TypeId × Value → H) :
    ReturnsInHanded {} Try.checked os 3 .any (Rows.pathSplitsSpec.pre6 enc Try.prog Try.f3 Rows.pathSplitsRow.domain false) (Rows.pathSplitsSpec.post enc Try.prog Try.f3 false true false false) := by
  refine returnsInHanded_of_change (C := Try.checked) own started (by kernel_rfl) Try.func3
    (ChangeSpec.witness6 (enc := enc) (C := Try.checked) false ⟨#[], #[.string ByteArray.empty], []⟩ 8 (by kernel_rfl) (by kernel_rfl) (by kernel_rfl) (by kernel_rfl)) ?_
  intro W base args ds gs before hval0 hW hcnd _
  have hval : ∀ (j : Nat) t v, Try.f3.params[j]? = some t → args[j]? = some v → Value.okWide Try.prog W .any base t v := hval0
  have hW' := hW
  obtain ⟨p, q, hA0, hV, rfl, hfz, hnd⟩ := hW
  have hA : DataW.TrodAll enc Try.prog W 0 (fun _ => true) true Try.f3.params.toList args.toList ds p := hA0
  rw [Try.params3] at hA hval
  obtain ⟨v0, vs0, d0, ds0, p0, q0, hargs, rfl, rfl, h0, r0⟩ := trodAll_cons hA
  obtain ⟨rfl, rfl, rfl⟩ := trodAll_nil r0
  obtain rfl : args = #[v0] := by cases args; simp_all
  obtain ⟨rfl, rfl⟩ := trodVars_none hV
  obtain ⟨t0, rfl, rfl, rfl, hs0⟩ := Go.ChangeMaps.open_string Try.underlying9 (hval 0 9 v0 rfl rfl) h0
  obtain ⟨s0, rfl⟩ : ∃ l, t0 = str l := ⟨_, str_of t0⟩
  clear hA0 hval0
  refine (walk s0 W ).mono fun e W' ⟨he, bel⟩ => ?_
  subst he
  exact ⟨_, rfl, _, _, _, [], _, [], hW', trodAll_mk1 (shut_bool Try.underlying4 _), (trodAll_cons_mk (Go.ChangeMaps.shut_string Try.underlying9 hs0) trodAll_mk0), rfl, bel.frame _, fun h => by cases h⟩
theorem over : Rows.pathSplitsRow.holds Try.pinned (OpenSpec.ofChange Rows.pathSplitsSpec) :=
  OpenClaim.holds_of_wide 3 Try.f3 rfl rfl rfl rfl rfl rfl rfl ⟨rfl, rfl, rfl, rfl, rfl⟩ rfl rfl rfl rfl rfl (by kernel_rfl) Try.func3 (by kernel_rfl)
    (of_decide_eq_true (by kernel_rfl)) (by unfold Func.isWrapper; first | (rw [if_pos (by decide +kernel)]; kernel_rfl) | (rw [if_neg (by decide +kernel)]; exact ⟨rfl, rfl⟩))
    (fun os started H enc _ => lifted os started H enc)
end Go.Proofs.Ytadeocphkihamaa.pathSplits
namespace Go.Proofs.Ytadeocphkihamaa
/-- The statement. -/
theorem pathSplits_holds : Rows.PathSplitsSaid := pathSplits.over
#print axioms pathSplits_holds
end Go.Proofs.Ytadeocphkihamaa
