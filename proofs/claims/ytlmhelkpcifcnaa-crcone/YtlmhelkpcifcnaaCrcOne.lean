/-
  The statement CrcOne, proved: for every bytes, place and byte the law returns true, and what came in reads as it did; no condition.
-/
import Derived.Test.YtlmhelkpcifcnaaCrcD
import Derived.Test.YtlmhelkpcifcnaaBaseA
namespace Go.Proofs.Ytlmhelkpcifcnaa.crcOne
open Go.ChangeShapes Go.WideShapes Go.ChangeAt Go.RowKit
set_option linter.unusedVariables false

theorem walk_none (a0 : Option Addr) (c0 : Nat) (z0 : List Int) (x y : Int) (w : World) (hb : Bs w a0 0 c0 z0) :
    Calls Try.prog 6 #[.slice a0 0 c0, .int .i64 x, .int .u8 y] w fun e w' => e = .returned (.bool true) ∧ Below w.heap.size w w' := by
  have hcap := hb.cap
  unfold maxLen at hcap
  go_enter Try.func6, Try.ntmps6
  go_wp2_with (first
    | (go_at_call 17; refine (works_any _).mono ?_; rintro e u1 ⟨rfl, hT1⟩; have hb1 := hb.later hT1)
    | (go_at_call 10; refine (bytes_bs a0 0 c0 _ u1 hb1 (by omega)).mono ?_; rintro e u2 ⟨x2, d2, rfl, hx2, hT2'⟩; have hT2 := bnext hT1 hT2' (Nat.le_refl _)))
  go_returns
  exact ⟨rfl, hT2⟩

theorem walk_some (a0 : Option Addr) (n0 c0 : Nat) (z0 : List Int) (x : Int) (d : Nat) (w : World) (w0 : Bs w a0 n0 c0 z0) (hd : d < 256) (m : Nat)
    (hm : (if (300 : Int) < (n0 : Int) then (300 : Int) else (n0 : Int)) = (m : Int)) (hm' : m ≤ n0) (hm2 : m ≤ 300) (hm0 : 0 < m) :
    Calls Try.prog 6 #[.slice a0 n0 c0, .int .i64 x, .int .u8 (d : Int)] w fun e w' => e = .returned (.bool true) ∧ Below w.heap.size w w' := by
  have hle := w0.le
  have hcap := w0.cap
  unfold maxLen at hcap
  have hb := w0.take m hm'
  generalize z0.take m = l at hb
  have hi := among_lt x m hm0
  obtain ⟨i, hI⟩ : ∃ i, i = among x m := ⟨_, rfl⟩
  have hA := fun w => among_any x m w hm0 (by omega)
  rw [← hI] at hi hA
  have hlen := hb.len
  have r0 := hb.range i
  have hone : Hid _ := sum_one l hb.byte i (by omega) d hd
  have hxor : bits .xor .u8 (l.getD i 0) (d : Int) = (((l.getD i 0).toNat ^^^ d : Nat) : Int) := u8_xor _ _ r0.1 (by omega) (by omega) (by omega)
  have hxl : (l.getD i 0).toNat ^^^ d < 256 := Nat.xor_lt_two_pow (n := 8) (by omega) hd
  obtain ⟨y, hY⟩ : ∃ y, y = (l.getD i 0).toNat ^^^ d := ⟨_, rfl⟩
  rw [← hY] at hone hxor hxl
  obtain ⟨v, hV⟩ : ∃ v, v = l.getD i 0 := ⟨_, rfl⟩
  rw [← hV] at hxor
  have HV : Hid (v = l.getD i 0) := hV
  clear w0 hI hY hV
  go_enter Try.func6, Try.ntmps6
  go_wp2_with (first
    | (go_at_call 17; refine (works_any _).mono ?_; rintro e u1 ⟨rfl, hT1⟩; have hb1 := hb.later hT1)
    | (go_at_call 10; refine (bytes_own a0 m c0 _ u1 hb1 (by omega)).mono ?_; rintro e u2 ⟨g, d2, rfl, hg, hx2, hf2, hT2'⟩; have hT2 := bnext hT1 hT2' (Nat.le_refl _)))
  refine (of_lit1 u2 _ rfl hx2 (by omega)).mono ?_
  rintro e u3 ⟨rfl, hT3'⟩
  have hgs : g < u2.heap.size := by
    obtain ⟨b, o, e, hc⟩ := hx2.cell hm0
    injection e with e; injection e with e1 e2; subst e1; subst e2
    exact World.block_lt_of_cell? u2 ⟨g, 0 + 0, none⟩ (hc 0 hm0)
  have hx3 := hx2.later hT3'
  have hf3 : u3.frozen? ⟨g, i, none⟩ = false := by rw [hT3'.frozen (p := ⟨g, i, none⟩) hgs]; exact hf2 i
  have hT3 := bnext hT2 hT3' (Nat.le_refl _)
  have hwg : w.heap.size ≤ g := Nat.le_trans hT1.size hg
  have c3 : u3.cell? ⟨g, i, none⟩ = some (.int .u8 v) := by
    obtain ⟨b, o, e, hc⟩ := hx3.cell hm0
    injection e with e; injection e with e1 e2; subst e1; subst e2
    have := hc i hi
    rwa [Nat.zero_add, ← HV.out] at this
  have hx4 := hx3.setAt i hi (y : Int) (by omega)
  have hle2 := hx3.le
  have hcap2 := hx3.cap
  unfold maxLen at hcap2
  clear hT1 hT2 hT2' hT3' hb hb1 hx2 hf2 hx3
  go_wp2_with (go_at_call 22; refine (hA _).mono ?_; rintro e w' ⟨rfl, rfl⟩)
  refine (of_lit1 _ u3.heap.size (by simp) hx4 (by omega)).mono ?_
  rintro e u5 ⟨rfl, hT5'⟩
  have hT5 := bnext (hT3.setCell (p := ⟨g, i, none⟩) hwg (.int .u8 (y : Int))) hT5' (Nat.le_refl _)
  go_wp2
  go_returns
  refine ⟨ret_bool ?_, hT5⟩
  have h1 : (((sumOf (l.set i (y : Int)) : Nat) : Int) == ((sumOf l : Nat) : Int)) = (sumOf (l.set i (y : Int)) == sumOf l) := by rw [Bool.eq_iff_iff, beq_iff_eq, beq_iff_eq]; omega
  have h2 : ((d : Int) == 0) = (d == 0) := by rw [Bool.eq_iff_iff, beq_iff_eq, beq_iff_eq]; omega
  rw [h1, h2, hone.out]
  cases (d == 0) <;> rfl

theorem walk (a0 : Option Addr) (n0 c0 : Nat) (z0 : List Int) (a1 a2 : Int) (w : World) (w0 : Bs w a0 n0 c0 z0) (w1 : (Lit.int .i64 a1).wf = true) (w2 : (Lit.int .u8 a2).wf = true) :
    Calls Try.prog 6 #[.slice a0 n0 c0, .int .i64 a1, .int .u8 a2] w fun e w' => e = .returned (.bool true) ∧ Below w.heap.size w w' := by
  have r2 := bounds_u8 w2
  obtain ⟨m, hm, hm', hm2⟩ : ∃ m : Nat, (if (300 : Int) < (n0 : Int) then (300 : Int) else (n0 : Int)) = (m : Int) ∧ m ≤ n0 ∧ m ≤ 300 := ⟨min n0 300, by split <;> omega, by omega, by omega⟩
  obtain ⟨d, rfl⟩ := Int.eq_ofNat_of_zero_le (show 0 ≤ a2 by omega)
  by_cases h : m = 0
  · obtain rfl : n0 = 0 := by split at hm <;> omega
    exact walk_none a0 c0 z0 a1 d w w0
  · exact walk_some a0 n0 c0 z0 a1 d w w0 (by omega) m hm hm' hm2 (by omega)

theorem own : ownKnob Try.prog.godebug = none := by kernel_rfl
theorem laidOut : laidOutB Try.prog = true := by kernel_rfl
set_option maxRecDepth 100000 in
theorem lifted (os : Os) (started : os.Started) (H : Type) (enc : TypeId × Value → H) :
    ReturnsInHanded {} Try.checked os 6 .any (Rows.crcOneSpec.pre6 enc Try.prog Try.f6 Rows.crcOneRow.domain false) (Rows.crcOneSpec.post enc Try.prog Try.f6 false true false false) := by
  refine returnsInHanded_of_change (C := Try.checked) own started (by kernel_rfl) Try.func6
    (ChangeSpec.witness6 (enc := enc) (C := Try.checked) false ⟨#[], #[.slice none 0 0, .int .i64 0, .int .u8 0], []⟩ 8 (by kernel_rfl) (by kernel_rfl) (by kernel_rfl) (by kernel_rfl)) ?_
  intro W base args ds gs before hval0 hW hcnd _
  have hval : ∀ (j : Nat) t v, Try.f6.params[j]? = some t → args[j]? = some v → Value.okWide Try.prog W .any base t v := hval0
  have hW' := hW
  obtain ⟨p, q, hA0, hV, rfl, hfz, hnd⟩ := hW
  have hA : DataW.TrodAll enc Try.prog W 0 (fun _ => true) true Try.f6.params.toList args.toList ds p := hA0
  rw [Try.params6] at hA hval
  obtain ⟨v0, vs0, d0, ds0, p0, q0, hargs, rfl, rfl, h0, r0⟩ := trodAll_cons hA
  obtain ⟨v1, vs1, d1, ds1, p1, q1, rfl, rfl, rfl, h1, r1⟩ := trodAll_cons r0
  obtain ⟨v2, vs2, d2, ds2, p2, q2, rfl, rfl, rfl, h2, r2⟩ := trodAll_cons r1
  obtain ⟨rfl, rfl, rfl⟩ := trodAll_nil r2
  obtain rfl : args = #[v0, v1, v2] := by cases args; simp_all
  obtain ⟨rfl, rfl⟩ := trodVars_none hV
  obtain ⟨a0, len0, cap0, rfl⟩ := okWide_slice Try.underlying23 (hval 0 23 v0 rfl rfl)
  have k0 := h0
  have lt0 : ∀ x ∈ p0, x.block < W.heap.size := by obtain ⟨m, hm⟩ := k0; exact DataW.trod_lt m _ _ _ hm
  obtain ⟨z0, w0⟩ : ∃ zs, Bs W a0 len0 cap0 zs := by
    obtain ⟨fuel, hf⟩ := h0
    rcases open_ints Try.underlying23 Try.underlying5 (by kernel_rfl) hf with ⟨hcs, _⟩ | ⟨x, l, c, zs, hcs, _, hl, hm, hz, _, hcell, hwz⟩
    · simp [Value.cells] at hcs
      obtain ⟨rfl, rfl, rfl⟩ := hcs
      exact ⟨[], Bs.nilSlice _⟩
    · simp [Value.cells] at hcs
      obtain ⟨rfl, rfl, rfl⟩ := hcs
      exact ⟨_, bs_open hl hm (by simpa using hz) hcell hwz⟩
  obtain ⟨a1, rfl, rfl, rfl, w1⟩ := open_int Try.underlying3 (hval 1 3 v1 rfl rfl) h1
  obtain ⟨a2, rfl, rfl, rfl, w2⟩ := open_int Try.underlying5 (hval 2 5 v2 rfl rfl) h2
  clear hA0 hval0
  refine (walk a0 len0 cap0 z0 a1 a2 W w0 w1 w2).mono fun e W' ⟨he, bel⟩ => ?_
  subst he
  exact ⟨_, rfl, _, _, _, [], _, [], hW', trodAll_mk1 (shut_bool Try.underlying4 _), (trodAll_cons_mk (Below.trod laidOut (by kernel_rfl) (of_decide_eq_true (by kernel_rfl)) k0 bel lt0) (trodAll_cons_mk (shut_int Try.underlying3 w1) (trodAll_cons_mk (shut_int Try.underlying5 w2) trodAll_mk0))), rfl, bel.frame _, fun h => by cases h⟩
theorem over : Rows.crcOneRow.holds Try.pinned (OpenSpec.ofChange Rows.crcOneSpec) :=
  OpenClaim.holds_of_wide 6 Try.f6 rfl rfl rfl rfl rfl rfl rfl ⟨rfl, rfl, rfl, rfl, rfl⟩ rfl rfl rfl rfl rfl (by kernel_rfl) Try.func6 (by kernel_rfl)
    (of_decide_eq_true (by kernel_rfl)) (by unfold Func.isWrapper; first | (rw [if_pos (by decide +kernel)]; kernel_rfl) | (rw [if_neg (by decide +kernel)]; exact ⟨rfl, rfl⟩))
    (fun os started H enc _ => lifted os started H enc)
end Go.Proofs.Ytlmhelkpcifcnaa.crcOne
namespace Go.Proofs.Ytlmhelkpcifcnaa
/-- The statement. -/
theorem crcOne_holds : Rows.CrcOneSaid := crcOne.over
#print axioms crcOne_holds
end Go.Proofs.Ytlmhelkpcifcnaa
