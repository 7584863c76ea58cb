/-
  The statement SealKinds, proved: for every sector the law returns true, and what came in reads as it did; no condition.
-/
import Derived.Test.YtkejgacelbnpnaaSealK
namespace Go.Proofs.Ytkejgacelbnpnaa.sealKinds
open Go.ChangeShapes Go.WideShapes Go.ChangeAt Go.RowKit
set_option linter.unusedVariables false

set_option maxRecDepth 100000 in
set_option maxHeartbeats 1000000 in
theorem walk (b : Blk) (w : World) :
    Calls Try.prog 7 #[.agg b.cs.toArray] w fun e w' => e = .returned (.bool true) ∧ Below w.heap.size w w' := by
  have hb := b.len
  have hK := oK_lt b
  go_enter Try.func7, Try.ntmps7
  go_wp2_with (first
    | (refine at_getB (by rfl) _ (by rfl) gb (by rfl) b (r1.later b2) ?_)
    | (refine at_getB (by rfl) _ (by rfl) gb (by rfl) b r1 ?_)
    | (refine at_box 26 64 arrB (by rfl) _ (by rfl) b.l (by rfl) hb ?_; intro gb w1 a1 z1 r1 b1)
    | (go_at_call 12; refine (kind_any b _).mono ?_; rintro e w2 ⟨rfl, b2⟩)
    | (go_at_call 13; refine (rkind_any b _).mono ?_; rintro e w3 ⟨rfl, b3⟩))
  go_loopw [4] (fun i wr => ∃ k : Nat, 1 ≤ k ∧ k ≤ 7 ∧ i = .int .i64 k ∧ Row wr gb b.l ∧ Below w.heap.size w wr) (fun i _ => 7 - (intOf i).toNat)
  case atStart => exact ⟨1, Nat.le_refl _, by omega, rfl, (r1.later b2).later b3, bnext (bnext b1 b2 (Nat.le_refl _)) b3 (Nat.le_refl _)⟩
  case round =>
    obtain ⟨k, k1, k7, rfl, rk, bk⟩ := hrel
    by_cases hlt : k < 7
    · have hlp := (gP (k : Int) b).len
      have key : ∃ c : Bool, (gE (k : Int) b == 0) = c ∧ ((k : Int) == (oK b : Int)) = c := by
        by_cases he : oK b = k
        · exact ⟨true, by rw [gE_yes k1 (by omega) he]; rfl, by rw [beq_iff_eq]; omega⟩
        · exact ⟨false, by rw [gE_else k1 (by omega) he]; rfl, by rw [beq_eq_false_iff_ne]; omega⟩
      obtain ⟨c, q1, q2⟩ := key
      have q3 : (c != c) = false := by cases c <;> rfl
      go_wp2_with (first
        | (refine at_getB (by rfl) _ (by rfl) gb (by rfl) b rk ?_)
        | (go_at_call 10; refine (get_any (k : Int) b _).mono ?_; rintro e w5 ⟨rfl, b5⟩)
        | (refine at_new 24 54 arrL (by rfl) (by rfl) ?_; intro gp w6 a6 z6 r6 b6)
        | (refine at_put 24 54 arrL (by rfl) _ _ (by rfl) gp (by rfl) (gP (k : Int) b).l (by rfl) hlp _ r6 (by simp) ?_; intro w9 r9 s9))
      have S3 : Stp (fun x => w.heap.size ≤ x) w w6 := Stp.of_below (bnext (bnext bk b5 (Nat.le_refl _)) b6 (Nat.le_refl _)) _
      have hgp : w.heap.size ≤ gp := by have := bk.size; have := b5.size; omega
      have S9 := S3.next s9 (fun x hx => .inl (by subst hx; exact hgp))
      have r8 : Row w9 gb b.l := ((rk.later b5).later b6).step s9 (by have := rk.lt; have := b5.size; omega)
      go_roundw
      case rel => exact ⟨k + 1, by omega, by omega, by go_num, r8, S9.below (Nat.le_refl _) (fun _ h => h)⟩
      case measure => simp [intOf]; omega
    · obtain rfl : k = 7 := by omega
      go_wp2_with (first
        | (go_at_call 14; refine (works_any _).mono ?_; rintro e w9 ⟨rfl, b9⟩))
      go_returns
      exact ⟨rfl, bnext bk b9 (Nat.le_refl _)⟩

theorem own : ownKnob Try.prog.godebug = none := by kernel_rfl
theorem laidOut : laidOutB Try.prog = true := by kernel_rfl
set_option maxRecDepth 100000 in
theorem lifted (os : Os) (started : os.Started) (H : Type) (enc : TypeId × Value → H) :
    ReturnsInHanded {} Try.checked os 7 .any (Rows.sealKindsSpec.pre6 enc Try.prog Try.f7 Rows.sealKindsRow.domain false) (Rows.sealKindsSpec.post enc Try.prog Try.f7 false true false false) := by
  refine returnsInHanded_of_change (C := Try.checked) own started (by kernel_rfl) Try.func7
    (ChangeSpec.witness6 (enc := enc) (C := Try.checked) false ⟨#[], #[.agg Blk.zero.cs.toArray], []⟩ 8 (by kernel_rfl) (by kernel_rfl) (by kernel_rfl) (by kernel_rfl)) ?_
  intro W base args ds gs before hval0 hW hcnd _
  have hval : ∀ (j : Nat) t v, Try.f7.params[j]? = some t → args[j]? = some v → Value.okWide Try.prog W .any base t v := hval0
  have hW' := hW
  obtain ⟨p, q, hA0, hV, rfl, hfz, hnd⟩ := hW
  have hA : DataW.TrodAll enc Try.prog W 0 (fun _ => true) true Try.f7.params.toList args.toList ds p := hA0
  rw [Try.params7] at hA hval
  obtain ⟨v0, vs0, d0, ds0, p0, q0, hargs, rfl, rfl, h0, r0⟩ := trodAll_cons hA
  obtain ⟨rfl, rfl, rfl⟩ := trodAll_nil r0
  obtain rfl : args = #[v0] := by cases args; simp_all
  obtain ⟨rfl, rfl⟩ := trodVars_none hV
  obtain ⟨cs0, rfl, _⟩ := okWide_row arrB.und (hval 0 26 v0 rfl rfl)
  have k0 := h0
  have lt0 : ∀ x ∈ p0, x.block < W.heap.size := by obtain ⟨m, hm⟩ := k0; exact DataW.trod_lt m _ _ _ hm
  obtain ⟨b0, e0⟩ : ∃ b : Blk, cs0 = b.cs.toArray := by
    obtain ⟨fuel, hf⟩ := h0
    obtain ⟨b, hb⟩ := blkOfTrod hf
    exact ⟨b, by rw [hb]; simp [Value.cells]⟩
  subst e0
  clear hA0 hval0
  refine (walk b0 W ).mono fun e W' ⟨he, bel⟩ => ?_
  subst he
  exact ⟨_, rfl, _, _, _, [], _, [], hW', trodAll_mk1 (shut_bool Try.underlying4 _), (trodAll_cons_mk (Below.trod laidOut (by kernel_rfl) (of_decide_eq_true (by kernel_rfl)) k0 bel lt0) trodAll_mk0), rfl, bel.frame _, fun h => by cases h⟩
theorem over : Rows.sealKindsRow.holds Try.pinned (OpenSpec.ofChange Rows.sealKindsSpec) :=
  OpenClaim.holds_of_wide 7 Try.f7 rfl rfl rfl rfl rfl rfl rfl ⟨rfl, rfl, rfl, rfl, rfl⟩ rfl rfl rfl rfl rfl (by kernel_rfl) Try.func7 (by kernel_rfl)
    (of_decide_eq_true (by kernel_rfl)) (by unfold Func.isWrapper; first | (rw [if_pos (by decide +kernel)]; kernel_rfl) | (rw [if_neg (by decide +kernel)]; exact ⟨rfl, rfl⟩))
    (fun os started H enc _ => lifted os started H enc)
end Go.Proofs.Ytkejgacelbnpnaa.sealKinds
namespace Go.Proofs.Ytkejgacelbnpnaa
/-- The statement. -/
theorem sealKinds_holds : Rows.SealKindsSaid := sealKinds.over
#print axioms sealKinds_holds
end Go.Proofs.Ytkejgacelbnpnaa
