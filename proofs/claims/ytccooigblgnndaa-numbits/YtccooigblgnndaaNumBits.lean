/-
  The statement NumBits, proved: for every bytes, bit, number and on the law returns true, and what came in reads as it did; no condition.
-/
import Derived.Test.YtccooigblgnndaaNumI
namespace Go.Proofs.Ytccooigblgnndaa.numBits
open Go.ChangeShapes Go.WideShapes Go.ChangeAt Go.RowKit
set_option linter.unusedVariables false

set_option maxHeartbeats 1000000 in
theorem walk (a0 : Option Addr) (n0 c0 : Nat) (z0 : List Int) (a1 : Int) (a2 : Int) (a3 : Bool) (w : World) (w0 : Bs w a0 n0 c0 z0) (w1 : (Lit.int .i64 a1).wf = true) (w2 : (Lit.int .i64 a2).wf = true) :
    Calls Try.prog 4 #[.slice a0 n0 c0, .int .i64 a1, .int .i64 a2, .bool a3] w fun e w' => e = .returned (.bool true) ∧ Below w.heap.size w w' := by
  have r1 := bounds_i64 w1
  have r2 := bounds_i64 w2
  clear w1 w2
  have hle := w0.le
  have hcap := w0.cap
  unfold maxLen at hcap
  obtain ⟨m, hm, hm', hm2⟩ : ∃ m : Nat, (if (300 : Int) < (n0 : Int) then (300 : Int) else (n0 : Int)) = (m : Int) ∧ m ≤ n0 ∧ m ≤ 300 := ⟨min n0 300, by split <;> omega, by omega, by omega⟩
  have hb := w0.take m hm'
  generalize z0.take m = l at hb
  go_enter Try.func4, Try.ntmps4
  go_wp2_with fail
  refine (bytes_bs a0 m c0 l w hb (by omega)).mono ?_
  rintro e w1 ⟨x1, d1, rfl, hx1, hS1⟩
  go_wp2_with (go_at_call 20; refine (bit_all _ _ _ l a1 w1 hx1 (by omega) (by omega)).mono ?_; rintro e w2 ⟨rfl, k1, hw2⟩; have hS2 : Below w.heap.size w w2 := (by rw [hw2]; exact bdrewN hS1 k1); have hb2 := hb.later hS2; clear hw2 hx1 hS1)
  refine (rbit_all a0 m c0 l a1 w2 hb2 (by omega) (by omega)).mono ?_
  rintro e w3 ⟨rfl, k2, hw3⟩
  have hS3 : Below w.heap.size w w3 := by rw [hw3]; exact bdrewN hS2 k2
  have hb3 := hb.later hS3
  clear hw3 hS2 hb2
  go_wp2_with fail
  refine (bytes_bs a0 m c0 l w3 hb3 (by omega)).mono ?_
  rintro e w4 ⟨x4, d4, rfl, hx4, hS4'⟩
  have hS4 := bnext hS3 hS4' (Nat.le_refl _)
  clear hS4' hS3 hb3
  go_wp2_with (go_at_call 22; refine (with_all _ _ _ l a1 a3 w4 hx4 (by omega) (by omega) (by omega)).mono ?_; rintro e w5 ⟨x5, d5, rfl, hx5, hS5'⟩; have hS5 := bnext hS4 hS5' (Nat.le_refl _); have hb5 := hb.later hS5; clear hS5' hS4 hx4)
  refine (rwith_all a0 m c0 l a1 a3 w5 hb5 (by omega) (by omega) (by omega)).mono ?_
  rintro e w6 ⟨x6, d6, rfl, hx6, hS6'⟩
  have hS6 := bnext hS5 hS6' (Nat.le_refl _)
  have hb6 := hb.later hS6
  have hx56 := hx5.later hS6'
  clear hS6' hS5 hb5 hx5
  go_wp2_with fail
  refine (sameBytes_yes _ _ _ _ _ _ _ w6 hx56 hx6).mono ?_
  rintro e w6' ⟨rfl, rfl⟩
  clear hx56 hx6
  go_wp2_with fail
  refine (bytes_bs a0 m c0 l w6 hb6 (by omega)).mono ?_
  rintro e w7 ⟨x7, d7, rfl, hx7, hS7'⟩
  have hS7 := bnext hS6 hS7' (Nat.le_refl _)
  clear hS7' hS6 hb6
  go_wp2_with (go_at_call 24; refine (count_any _ _ _ l a2 w7 hx7 (by omega) (by omega) (by omega)).mono ?_; rintro e w8 ⟨rfl, k8, hw8⟩; have hS8 : Below w.heap.size w w8 := (by rw [hw8]; exact bdrewN hS7 k8); have hb8 := hb.later hS8; clear hw8 hx7 hS7)
  refine (rcount_any a0 m c0 l a2 w8 hb8 (by omega) (by omega) (by omega)).mono ?_
  rintro e w9 ⟨rfl, k9, hw9⟩
  have hS9 : Below w.heap.size w w9 := by rw [hw9]; exact bdrewN hS8 k9
  have hb9 := hb.later hS9
  clear hw9 hS8 hb8
  go_wp2_with fail
  refine (bytes_bs a0 m c0 l w9 hb9 (by omega)).mono ?_
  rintro e u1 ⟨y1, f1, rfl, hy1, hT1'⟩
  have hT1 := bnext hS9 hT1' (Nat.le_refl _)
  clear hT1' hS9 hb9
  go_wp2_with (go_at_call 26; refine (first_any _ _ _ l a1 a2 u1 hy1 (by omega) (by omega) (by omega) (by omega) (by omega)).mono ?_; rintro e u2 ⟨rfl, k2, hu2⟩; have hT2 : Below w.heap.size w u2 := (by rw [hu2]; exact bdrewN hT1 k2); have hc2 := hb.later hT2; clear hu2 hy1 hT1)
  refine (rfirst_any a0 m c0 l a1 a2 u2 hc2 (by omega) (by omega) (by omega) (by omega) (by omega)).mono ?_
  rintro e u3 ⟨rfl, k3, hu3⟩
  have hT3 : Below w.heap.size w u3 := by rw [hu3]; exact bdrewN hT2 k3
  clear hu3 hT2 hc2
  go_wp2_with (go_at_call 19; refine (works_any _).mono ?_; rintro e u4 ⟨rfl, hT4'⟩)
  have hT4 := bnext hT3 hT4' (Nat.le_refl _)
  go_returns
  exact ⟨rfl, hT4⟩

theorem own : ownKnob Try.prog.godebug = none := by kernel_rfl
theorem laidOut : laidOutB Try.prog = true := by kernel_rfl
set_option maxRecDepth 100000 in
theorem lifted (os : Os) (started : os.Started) (H : Type) (enc : TypeId × Value → H) :
    ReturnsInHanded {} Try.checked os 4 .any (Rows.numBitsSpec.pre6 enc Try.prog Try.f4 Rows.numBitsRow.domain false) (Rows.numBitsSpec.post enc Try.prog Try.f4 false true false false) := by
  refine returnsInHanded_of_change (C := Try.checked) own started (by kernel_rfl) Try.func4
    (ChangeSpec.witness6 (enc := enc) (C := Try.checked) false ⟨#[], #[.slice none 0 0, .int .i64 0, .int .i64 0, .bool false], []⟩ 8 (by kernel_rfl) (by kernel_rfl) (by kernel_rfl) (by kernel_rfl)) ?_
  intro W base args ds gs before hval0 hW hcnd _
  have hval : ∀ (j : Nat) t v, Try.f4.params[j]? = some t → args[j]? = some v → Value.okWide Try.prog W .any base t v := hval0
  have hW' := hW
  obtain ⟨p, q, hA0, hV, rfl, hfz, hnd⟩ := hW
  have hA : DataW.TrodAll enc Try.prog W 0 (fun _ => true) true Try.f4.params.toList args.toList ds p := hA0
  rw [Try.params4] at hA hval
  obtain ⟨v0, vs0, d0, ds0, p0, q0, hargs, rfl, rfl, h0, r0⟩ := trodAll_cons hA
  obtain ⟨v1, vs1, d1, ds1, p1, q1, rfl, rfl, rfl, h1, r1⟩ := trodAll_cons r0
  obtain ⟨v2, vs2, d2, ds2, p2, q2, rfl, rfl, rfl, h2, r2⟩ := trodAll_cons r1
  obtain ⟨v3, vs3, d3, ds3, p3, q3, rfl, rfl, rfl, h3, r3⟩ := trodAll_cons r2
  obtain ⟨rfl, rfl, rfl⟩ := trodAll_nil r3
  obtain rfl : args = #[v0, v1, v2, v3] := by cases args; simp_all
  obtain ⟨rfl, rfl⟩ := trodVars_none hV
  obtain ⟨a0, len0, cap0, rfl⟩ := okWide_slice Try.underlying22 (hval 0 22 v0 rfl rfl)
  have k0 := h0
  have lt0 : ∀ x ∈ p0, x.block < W.heap.size := by obtain ⟨m, hm⟩ := k0; exact DataW.trod_lt m _ _ _ hm
  obtain ⟨z0, w0⟩ : ∃ zs, Bs W a0 len0 cap0 zs := by
    obtain ⟨fuel, hf⟩ := h0
    rcases open_ints Try.underlying22 Try.underlying5 (by kernel_rfl) hf with ⟨hcs, _⟩ | ⟨x, l, c, zs, hcs, _, hl, hm, hz, _, hcell, hwz⟩
    · simp [Value.cells] at hcs
      obtain ⟨rfl, rfl, rfl⟩ := hcs
      exact ⟨[], Bs.nilSlice _⟩
    · simp [Value.cells] at hcs
      obtain ⟨rfl, rfl, rfl⟩ := hcs
      exact ⟨_, bs_open hl hm (by simpa using hz) hcell hwz⟩
  obtain ⟨a1, rfl, rfl, rfl, w1⟩ := open_int Try.underlying3 (hval 1 3 v1 rfl rfl) h1
  obtain ⟨a2, rfl, rfl, rfl, w2⟩ := open_int Try.underlying3 (hval 2 3 v2 rfl rfl) h2
  obtain ⟨a3, rfl, rfl, rfl⟩ := open_bool Try.underlying4 (hval 3 4 v3 rfl rfl) h3
  clear hA0 hval0
  refine (walk a0 len0 cap0 z0 a1 a2 a3 W w0 w1 w2).mono fun e W' ⟨he, bel⟩ => ?_
  subst he
  exact ⟨_, rfl, _, _, _, [], _, [], hW', trodAll_mk1 (shut_bool Try.underlying4 _), (trodAll_cons_mk (Below.trod laidOut (by kernel_rfl) (of_decide_eq_true (by kernel_rfl)) k0 bel lt0) (trodAll_cons_mk (shut_int Try.underlying3 w1) (trodAll_cons_mk (shut_int Try.underlying3 w2) (trodAll_cons_mk (shut_bool Try.underlying4 a3) trodAll_mk0)))), rfl, bel.frame _, fun h => by cases h⟩
theorem over : Rows.numBitsRow.holds Try.pinned (OpenSpec.ofChange Rows.numBitsSpec) :=
  OpenClaim.holds_of_wide 4 Try.f4 rfl rfl rfl rfl rfl rfl rfl ⟨rfl, rfl, rfl, rfl, rfl⟩ rfl rfl rfl rfl rfl (by kernel_rfl) Try.func4 (by kernel_rfl)
    (of_decide_eq_true (by kernel_rfl)) (by unfold Func.isWrapper; first | (rw [if_pos (by decide +kernel)]; kernel_rfl) | (rw [if_neg (by decide +kernel)]; exact ⟨rfl, rfl⟩))
    (fun os started H enc _ => lifted os started H enc)
end Go.Proofs.Ytccooigblgnndaa.numBits
namespace Go.Proofs.Ytccooigblgnndaa
/-- The statement. -/
theorem numBits_holds : Rows.NumBitsSaid := numBits.over
#print axioms numBits_holds
end Go.Proofs.Ytccooigblgnndaa
