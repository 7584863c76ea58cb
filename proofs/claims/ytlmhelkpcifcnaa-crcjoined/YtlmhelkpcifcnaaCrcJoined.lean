/-
  The statement CrcJoined, proved: for every two slices of bytes the law returns true, and what came in reads as it did; no condition.
-/
import Derived.Test.YtlmhelkpcifcnaaCrcD
namespace Go.Proofs.Ytlmhelkpcifcnaa.crcJoined
open Go.ChangeShapes Go.WideShapes Go.ChangeAt Go.RowKit
set_option linter.unusedVariables false

theorem walk_cut (a0 : Option Addr) (n0 c0 : Nat) (z0 : List Int) (a1 : Option Addr) (n1 c1 : Nat) (z1 : List Int) (w : World) (w0 : Bs w a0 n0 c0 z0) (w1 : Bs w a1 n1 c1 z1) (m k : Nat)
    (hm : (if (300 : Int) < (n0 : Int) then (300 : Int) else (n0 : Int)) = (m : Int)) (hm' : m ≤ n0) (hm2 : m ≤ 300) (hk : (if (300 : Int) < (n1 : Int) then (300 : Int) else (n1 : Int)) = (k : Int)) (hk' : k ≤ n1) (hk2 : k ≤ 300) :
    Calls Try.prog 5 #[.slice a0 n0 c0, .slice a1 n1 c1] w fun e w' => e = .returned (.bool true) ∧ Below w.heap.size w w' := by
  have hle := w0.le
  have hcap := w0.cap
  have hle1 := w1.le
  have hcap1 := w1.cap
  unfold maxLen at hcap hcap1
  have hb := w0.take m hm'
  have hd := w1.take k hk'
  generalize z0.take m = l at hb
  generalize z1.take k = l' at hd
  have hj := sum_join l l' hb.byte hd.byte
  rw [hd.len] at hj
  have hs := sum_lt l
  have hs' := sum_lt l'
  clear w0 w1
  go_enter Try.func5, Try.ntmps5
  go_wp2_with (go_at_call 17; refine (works_any _).mono ?_; rintro e u1 ⟨rfl, hT1⟩; have hb1 := hb.later hT1; have hd1 := hd.later hT1; clear hb hd)
  go_region
  have hT2 : Below w.heap.size w u1.drew := hT1.drew
  have hb2 := hb1.later ((Below.refl _ u1).drew)
  have hd2 := hd1.later ((Below.refl _ u1).drew)
  clear hb1 hd1 hT1
  generalize u1.drew = u2 at *
  go_wp2_with fail
  refine (of_lit1 u2 _ rfl hb2 (by omega)).mono ?_
  rintro e u3 ⟨rfl, hT3'⟩
  have hb3 := hb2.later hT3'
  have hd3 := hd2.later hT3'
  have hT3 := bnext hT2 hT3' (Nat.le_refl _)
  clear hT2 hT3' hb2 hd2
  go_wp2_with fail
  refine (of_lit1 u3 _ rfl hd3 (by omega)).mono ?_
  rintro e u4 ⟨rfl, hT4'⟩
  have hb4 := hb3.later hT4'
  have hd4 := hd3.later hT4'
  have hT4 := bnext hT3 hT4' (Nat.le_refl _)
  clear hT3 hT4' hb3 hd3
  go_wp2_with fail
  refine (join_ok _ _ k u4 (by omega) (by omega) (by omega)).mono ?_
  rintro e w' ⟨rfl, rfl⟩
  go_wp2_with fail
  refine (of_lit2 u4 _ rfl hb4 hd4 (by omega) (by omega)).mono ?_
  rintro e u5 ⟨rfl, hT5'⟩
  have hT5 := bnext hT4 hT5' (Nat.le_refl _)
  go_wp2
  go_returns
  exact ⟨ret_bool (by first | rfl | (rw [hj]; simp)), hT5⟩

theorem walk (a0 : Option Addr) (n0 c0 : Nat) (z0 : List Int) (a1 : Option Addr) (n1 c1 : Nat) (z1 : List Int) (w : World) (w0 : Bs w a0 n0 c0 z0) (w1 : Bs w a1 n1 c1 z1) :
    Calls Try.prog 5 #[.slice a0 n0 c0, .slice a1 n1 c1] w fun e w' => e = .returned (.bool true) ∧ Below w.heap.size w w' := by
  obtain ⟨m, hm, hm', hm2⟩ : ∃ m : Nat, (if (300 : Int) < (n0 : Int) then (300 : Int) else (n0 : Int)) = (m : Int) ∧ m ≤ n0 ∧ m ≤ 300 := ⟨min n0 300, by split <;> omega, by omega, by omega⟩
  obtain ⟨k, hk, hk', hk2⟩ : ∃ m : Nat, (if (300 : Int) < (n1 : Int) then (300 : Int) else (n1 : Int)) = (m : Int) ∧ m ≤ n1 ∧ m ≤ 300 := ⟨min n1 300, by split <;> omega, by omega, by omega⟩
  exact walk_cut a0 n0 c0 z0 a1 n1 c1 z1 w w0 w1 m k hm hm' hm2 hk hk' hk2

theorem own : ownKnob Try.prog.godebug = none := by kernel_rfl
theorem laidOut : laidOutB Try.prog = true := by kernel_rfl
set_option maxRecDepth 100000 in
theorem lifted (os : Os) (started : os.Started) (H : Type) (enc : TypeId × Value → H) :
    ReturnsInHanded {} Try.checked os 5 .any (Rows.crcJoinedSpec.pre6 enc Try.prog Try.f5 Rows.crcJoinedRow.domain false) (Rows.crcJoinedSpec.post enc Try.prog Try.f5 false true false false) := by
  refine returnsInHanded_of_change (C := Try.checked) own started (by kernel_rfl) Try.func5
    (ChangeSpec.witness6 (enc := enc) (C := Try.checked) false ⟨#[], #[.slice none 0 0, .slice none 0 0], []⟩ 8 (by kernel_rfl) (by kernel_rfl) (by kernel_rfl) (by kernel_rfl)) ?_
  intro W base args ds gs before hval0 hW hcnd _
  have hval : ∀ (j : Nat) t v, Try.f5.params[j]? = some t → args[j]? = some v → Value.okWide Try.prog W .any base t v := hval0
  have hW' := hW
  obtain ⟨p, q, hA0, hV, rfl, hfz, hnd⟩ := hW
  have hA : DataW.TrodAll enc Try.prog W 0 (fun _ => true) true Try.f5.params.toList args.toList ds p := hA0
  rw [Try.params5] at hA hval
  obtain ⟨v0, vs0, d0, ds0, p0, q0, hargs, rfl, rfl, h0, r0⟩ := trodAll_cons hA
  obtain ⟨v1, vs1, d1, ds1, p1, q1, rfl, rfl, rfl, h1, r1⟩ := trodAll_cons r0
  obtain ⟨rfl, rfl, rfl⟩ := trodAll_nil r1
  obtain rfl : args = #[v0, v1] := by cases args; simp_all
  obtain ⟨rfl, rfl⟩ := trodVars_none hV
  obtain ⟨a0, len0, cap0, rfl⟩ := okWide_slice Try.underlying23 (hval 0 23 v0 rfl rfl)
  have k0 := h0
  have lt0 : ∀ x ∈ p0, x.block < W.heap.size := by obtain ⟨m, hm⟩ := k0; exact DataW.trod_lt m _ _ _ hm
  obtain ⟨z0, w0⟩ : ∃ zs, Bs W a0 len0 cap0 zs := by
    obtain ⟨fuel, hf⟩ := h0
    rcases open_ints Try.underlying23 Try.underlying5 (by kernel_rfl) hf with ⟨hcs, _⟩ | ⟨x, l, c, zs, hcs, _, hl, hm, hz, _, hcell, hwz⟩
    · simp [Value.cells] at hcs
      obtain ⟨rfl, rfl, rfl⟩ := hcs
      exact ⟨[], Bs.nilSlice _⟩
    · simp [Value.cells] at hcs
      obtain ⟨rfl, rfl, rfl⟩ := hcs
      exact ⟨_, bs_open hl hm (by simpa using hz) hcell hwz⟩
  obtain ⟨a1, len1, cap1, rfl⟩ := okWide_slice Try.underlying23 (hval 1 23 v1 rfl rfl)
  have k1 := h1
  have lt1 : ∀ x ∈ p1, x.block < W.heap.size := by obtain ⟨m, hm⟩ := k1; exact DataW.trod_lt m _ _ _ hm
  obtain ⟨z1, w1⟩ : ∃ zs, Bs W a1 len1 cap1 zs := by
    obtain ⟨fuel, hf⟩ := h1
    rcases open_ints Try.underlying23 Try.underlying5 (by kernel_rfl) hf with ⟨hcs, _⟩ | ⟨x, l, c, zs, hcs, _, hl, hm, hz, _, hcell, hwz⟩
    · simp [Value.cells] at hcs
      obtain ⟨rfl, rfl, rfl⟩ := hcs
      exact ⟨[], Bs.nilSlice _⟩
    · simp [Value.cells] at hcs
      obtain ⟨rfl, rfl, rfl⟩ := hcs
      exact ⟨_, bs_open hl hm (by simpa using hz) hcell hwz⟩
  clear hA0 hval0
  refine (walk a0 len0 cap0 z0 a1 len1 cap1 z1 W w0 w1).mono fun e W' ⟨he, bel⟩ => ?_
  subst he
  exact ⟨_, rfl, _, _, _, [], _, [], hW', trodAll_mk1 (shut_bool Try.underlying4 _), (trodAll_cons_mk (Below.trod laidOut (by kernel_rfl) (of_decide_eq_true (by kernel_rfl)) k0 bel lt0) (trodAll_cons_mk (Below.trod laidOut (by kernel_rfl) (of_decide_eq_true (by kernel_rfl)) k1 bel lt1) trodAll_mk0)), rfl, bel.frame _, fun h => by cases h⟩
theorem over : Rows.crcJoinedRow.holds Try.pinned (OpenSpec.ofChange Rows.crcJoinedSpec) :=
  OpenClaim.holds_of_wide 5 Try.f5 rfl rfl rfl rfl rfl rfl rfl ⟨rfl, rfl, rfl, rfl, rfl⟩ rfl rfl rfl rfl rfl (by kernel_rfl) Try.func5 (by kernel_rfl)
    (of_decide_eq_true (by kernel_rfl)) (by unfold Func.isWrapper; first | (rw [if_pos (by decide +kernel)]; kernel_rfl) | (rw [if_neg (by decide +kernel)]; exact ⟨rfl, rfl⟩))
    (fun os started H enc _ => lifted os started H enc)
end Go.Proofs.Ytlmhelkpcifcnaa.crcJoined
namespace Go.Proofs.Ytlmhelkpcifcnaa
/-- The statement. -/
theorem crcJoined_holds : Rows.CrcJoinedSaid := crcJoined.over
#print axioms crcJoined_holds
end Go.Proofs.Ytlmhelkpcifcnaa
