/-
  The statement CrcEmpty, proved: for every bytes the law returns true, and what came in reads as it did; no condition.
-/
import Derived.Test.YtlmhelkpcifcnaaCrcD
namespace Go.Proofs.Ytlmhelkpcifcnaa.crcEmpty
open Go.ChangeShapes Go.WideShapes Go.ChangeAt Go.RowKit
set_option linter.unusedVariables false

theorem walk_cut (a0 : Option Addr) (n0 c0 : Nat) (z0 : List Int) (w : World) (w0 : Bs w a0 n0 c0 z0) (m : Nat)
    (hm : (if (300 : Int) < (n0 : Int) then (300 : Int) else (n0 : Int)) = (m : Int)) (hm' : m ≤ n0) (hm2 : m ≤ 300) :
    Calls Try.prog 8 #[.slice a0 n0 c0] w fun e w' => e = .returned (.bool true) ∧ Below w.heap.size w w' := by
  have hle := w0.le
  have hcap := w0.cap
  unfold maxLen at hcap
  have hb := w0.take m hm'
  generalize z0.take m = l at hb
  have hL := adds_lt l (r := 4294967295) (by omega) hb.byte
  have hE : 4294967295 - adds 4294967295 l = sumOf l := rfl
  clear w0
  go_enter Try.func8, Try.ntmps8
  go_wp2_with (first
    | (go_at_call 17; refine (works_any _).mono ?_; rintro e u1 ⟨rfl, hT1⟩; have hb1 := hb.later hT1)
    | (go_at_call 10; refine (bytes_bs a0 m c0 _ u1 hb1 (by omega)).mono ?_; rintro e u2 ⟨x2, d2, rfl, hx2, hT2'⟩; have hT2 := bnext hT1 hT2' (Nat.le_refl _)))
  refine (of_none u2).mono ?_
  rintro e u3 ⟨rfl, hT3'⟩
  have hT3 := bnext hT2 hT3' (Nat.le_refl _)
  have hx3 := hx2.later hT3'
  clear hT1 hT2 hT2' hT3' hb hb1 hx2
  go_wp2_with fail
  refine (begin_any u3).mono ?_
  rintro e u4 ⟨rfl, hT4'⟩
  have hT4 := bnext hT3 hT4' (Nat.le_refl _)
  have hx4 := hx3.later hT4'
  clear hT3 hT4' hx3
  go_wp2_with fail
  refine (value_any 4294967295 0 u4 (by omega)).mono ?_
  rintro e u5 ⟨rfl, hT5'⟩
  have hT5 := bnext hT4 hT5' (Nat.le_refl _)
  have hx5 := hx4.later hT5'
  clear hT4 hT5' hx4
  go_wp2_with fail
  have hz5 : Bs (u5.alloc (.cells #[] 5)) (some ⟨u5.heap.size, 0, none⟩) 0 0 [] := bs_made u5 5 [] (fun _ h => by cases h) (by decide)
  have hx5' := hx5.later ((Below.refl _ u5).alloc (Nat.le_refl _) (.cells #[] 5))
  refine (of_lit3 (u5.alloc (.cells #[] 5)) (u5.heap.size + 1) (by simp) (Bs.nilSlice _) hx5' hz5 (by omega) (by omega) (by omega)).mono ?_
  rintro e u6 ⟨rfl, hT6'⟩
  have hT6 := bnext (hT5.alloc hT5.size (.cells #[] 5)) hT6' (Nat.le_refl _)
  have hx6 := hx5'.later hT6'
  rw [List.nil_append, List.append_nil]
  clear hT5 hT6' hx5 hx5' hz5
  go_wp2_with fail
  refine (of_lit1 u6 _ rfl hx6 (by omega)).mono ?_
  rintro e u7 ⟨rfl, hT7'⟩
  have hT7 := bnext hT6 hT7' (Nat.le_refl _)
  have hx7 := hx6.later hT7'
  clear hT6 hT7' hx6
  go_wp2_with fail
  refine (begin_any u7).mono ?_
  rintro e u8 ⟨rfl, hT8'⟩
  have hT8 := bnext hT7 hT8' (Nat.le_refl _)
  have hx8 := hx7.later hT8'
  clear hT7 hT8' hx7
  go_wp2_with fail
  refine (add_any 4294967295 0 none 0 0 [] u8 (by omega) (Bs.nilSlice _) (by omega) (by omega)).mono ?_
  rintro e u9 ⟨rfl, hT9'⟩
  have hT9 := bnext hT8 hT9' (Nat.le_refl _)
  have hx9 := hx8.later hT9'
  rw [adds_nil]
  clear hT8 hT9' hx8
  go_wp2_with fail
  refine (begin_any u9).mono ?_
  rintro e v1 ⟨rfl, hS1'⟩
  have hS1 := bnext hT9 hS1' (Nat.le_refl _)
  have hy1 := hx9.later hS1'
  clear hT9 hS1' hx9
  go_wp2_with fail
  refine (begin_any v1).mono ?_
  rintro e v2 ⟨rfl, hS2'⟩
  have hS2 := bnext hS1 hS2' (Nat.le_refl _)
  have hy2 := hy1.later hS2'
  clear hS1 hS2' hy1
  go_wp2_with fail
  refine (add_any 4294967295 0 x2 m d2 l v2 (by omega) hy2 (by omega) (by omega)).mono ?_
  rintro e v3 ⟨rfl, hS3'⟩
  have hS3 := bnext hS2 hS3' (Nat.le_refl _)
  have hy3 := hy2.later hS3'
  clear hS2 hS3' hy2
  go_wp2_with fail
  refine (value_any _ _ v3 hL).mono ?_
  rintro e v4 ⟨rfl, hS4'⟩
  have hS4 := bnext hS3 hS4' (Nat.le_refl _)
  have hy4 := hy3.later hS4'
  rw [hE]
  clear hS3 hS4' hy3
  go_wp2_with fail
  refine (of_lit1 v4 _ rfl hy4 (by omega)).mono ?_
  rintro e v5 ⟨rfl, hS5'⟩
  have hS5 := bnext hS4 hS5' (Nat.le_refl _)
  go_wp2
  go_returns
  exact ⟨ret_bool (by first | rfl | simp), hS5⟩

theorem walk (a0 : Option Addr) (n0 c0 : Nat) (z0 : List Int) (w : World) (w0 : Bs w a0 n0 c0 z0) :
    Calls Try.prog 8 #[.slice a0 n0 c0] w fun e w' => e = .returned (.bool true) ∧ Below w.heap.size w w' := by
  obtain ⟨m, hm, hm', hm2⟩ : ∃ m : Nat, (if (300 : Int) < (n0 : Int) then (300 : Int) else (n0 : Int)) = (m : Int) ∧ m ≤ n0 ∧ m ≤ 300 := ⟨min n0 300, by split <;> omega, by omega, by omega⟩
  exact walk_cut a0 n0 c0 z0 w w0 m hm hm' hm2

theorem own : ownKnob Try.prog.godebug = none := by kernel_rfl
theorem laidOut : laidOutB Try.prog = true := by kernel_rfl
set_option maxRecDepth 100000 in
theorem lifted (os : Os) (started : os.Started) (H : Type) (enc : TypeId × Value → H) :
    ReturnsInHanded {} Try.checked os 8 .any (Rows.crcEmptySpec.pre6 enc Try.prog Try.f8 Rows.crcEmptyRow.domain false) (Rows.crcEmptySpec.post enc Try.prog Try.f8 false true false false) := by
  refine returnsInHanded_of_change (C := Try.checked) own started (by kernel_rfl) Try.func8
    (ChangeSpec.witness6 (enc := enc) (C := Try.checked) false ⟨#[], #[.slice none 0 0], []⟩ 8 (by kernel_rfl) (by kernel_rfl) (by kernel_rfl) (by kernel_rfl)) ?_
  intro W base args ds gs before hval0 hW hcnd _
  have hval : ∀ (j : Nat) t v, Try.f8.params[j]? = some t → args[j]? = some v → Value.okWide Try.prog W .any base t v := hval0
  have hW' := hW
  obtain ⟨p, q, hA0, hV, rfl, hfz, hnd⟩ := hW
  have hA : DataW.TrodAll enc Try.prog W 0 (fun _ => true) true Try.f8.params.toList args.toList ds p := hA0
  rw [Try.params8] at hA hval
  obtain ⟨v0, vs0, d0, ds0, p0, q0, hargs, rfl, rfl, h0, r0⟩ := trodAll_cons hA
  obtain ⟨rfl, rfl, rfl⟩ := trodAll_nil r0
  obtain rfl : args = #[v0] := by cases args; simp_all
  obtain ⟨rfl, rfl⟩ := trodVars_none hV
  obtain ⟨a0, len0, cap0, rfl⟩ := okWide_slice Try.underlying23 (hval 0 23 v0 rfl rfl)
  have k0 := h0
  have lt0 : ∀ x ∈ p0, x.block < W.heap.size := by obtain ⟨m, hm⟩ := k0; exact DataW.trod_lt m _ _ _ hm
  obtain ⟨z0, w0⟩ : ∃ zs, Bs W a0 len0 cap0 zs := by
    obtain ⟨fuel, hf⟩ := h0
    rcases open_ints Try.underlying23 Try.underlying5 (by kernel_rfl) hf with ⟨hcs, _⟩ | ⟨x, l, c, zs, hcs, _, hl, hm, hz, _, hcell, hwz⟩
    · simp [Value.cells] at hcs
      obtain ⟨rfl, rfl, rfl⟩ := hcs
      exact ⟨[], Bs.nilSlice _⟩
    · simp [Value.cells] at hcs
      obtain ⟨rfl, rfl, rfl⟩ := hcs
      exact ⟨_, bs_open hl hm (by simpa using hz) hcell hwz⟩
  clear hA0 hval0
  refine (walk a0 len0 cap0 z0 W w0).mono fun e W' ⟨he, bel⟩ => ?_
  subst he
  exact ⟨_, rfl, _, _, _, [], _, [], hW', trodAll_mk1 (shut_bool Try.underlying4 _), (trodAll_cons_mk (Below.trod laidOut (by kernel_rfl) (of_decide_eq_true (by kernel_rfl)) k0 bel lt0) trodAll_mk0), rfl, bel.frame _, fun h => by cases h⟩
theorem over : Rows.crcEmptyRow.holds Try.pinned (OpenSpec.ofChange Rows.crcEmptySpec) :=
  OpenClaim.holds_of_wide 8 Try.f8 rfl rfl rfl rfl rfl rfl rfl ⟨rfl, rfl, rfl, rfl, rfl⟩ rfl rfl rfl rfl rfl (by kernel_rfl) Try.func8 (by kernel_rfl)
    (of_decide_eq_true (by kernel_rfl)) (by unfold Func.isWrapper; first | (rw [if_pos (by decide +kernel)]; kernel_rfl) | (rw [if_neg (by decide +kernel)]; exact ⟨rfl, rfl⟩))
    (fun os started H enc _ => lifted os started H enc)
end Go.Proofs.Ytlmhelkpcifcnaa.crcEmpty
namespace Go.Proofs.Ytlmhelkpcifcnaa
/-- The statement. -/
theorem crcEmpty_holds : Rows.CrcEmptySaid := crcEmpty.over
#print axioms crcEmpty_holds
end Go.Proofs.Ytlmhelkpcifcnaa
