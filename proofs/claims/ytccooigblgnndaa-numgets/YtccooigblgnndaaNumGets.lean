/-
  The statement NumGets, proved: for every bytes, place and number the law returns true, and what came in reads as it did; no condition.
-/
import Derived.Test.YtccooigblgnndaaNumI
namespace Go.Proofs.Ytccooigblgnndaa.numGets
open Go.ChangeShapes Go.WideShapes Go.ChangeAt Go.RowKit
set_option linter.unusedVariables false

set_option maxHeartbeats 1000000 in
theorem walk (a0 : Option Addr) (n0 c0 : Nat) (z0 : List Int) (a1 : Int) (a2 : Int) (w : World) (w0 : Bs w a0 n0 c0 z0) (w1 : (Lit.int .i64 a1).wf = true) (w2 : (Lit.int .u32 a2).wf = true) :
    Calls Try.prog 3 #[.slice a0 n0 c0, .int .i64 a1, .int .u32 a2] w fun e w' => e = .returned (.bool true) ∧ Below w.heap.size w w' := by
  have r1 := bounds_i64 w1
  have r2 := bounds_u32 w2
  clear w1 w2
  have hle := w0.le
  have hcap := w0.cap
  unfold maxLen at hcap
  obtain ⟨m, hm, hm', hm2⟩ : ∃ m : Nat, (if (300 : Int) < (n0 : Int) then (300 : Int) else (n0 : Int)) = (m : Int) ∧ m ≤ n0 ∧ m ≤ 300 := ⟨min n0 300, by split <;> omega, by omega, by omega⟩
  have hb := w0.take m hm'
  generalize z0.take m = l at hb
  obtain ⟨y, hy⟩ : ∃ y, IntKind.u16.wrap a2 = y := ⟨_, rfl⟩
  have r3 : 0 ≤ y ∧ y ≤ 65535 := by rw [IntKind.wrap_u16] at hy; omega
  go_enter Try.func3, Try.ntmps3
  go_wp2_with fail
  refine (bytes_bs a0 m c0 l w hb (by omega)).mono ?_
  rintro e w1 ⟨x1, d1, rfl, hx1, hS1⟩
  have hb1 := hb.later hS1
  go_wp2_with (first
    | (go_at_call 9; refine (get16_all _ _ _ l a1 w1 hx1 (by omega) (by omega)).mono ?_; rintro e w1' ⟨rfl, rfl⟩)
    | (go_at_call 11; refine (rget16_all _ _ _ l a1 w1 hb1 (by omega) (by omega)).mono ?_; rintro e w1' ⟨rfl, rfl⟩))
  refine (bytes_bs a0 m c0 l w1 hb1 (by omega)).mono ?_
  rintro e w2 ⟨x2, d2, rfl, hx2, hS2'⟩
  have hS2 := bnext hS1 hS2' (Nat.le_refl _)
  have hb2 := hb.later hS2
  clear hb1 hx1 hS1
  go_wp2_with (first
    | (go_at_call 12; refine (get32_all _ _ _ l a1 w2 hx2 (by omega) (by omega)).mono ?_; rintro e w1' ⟨rfl, rfl⟩)
    | (go_at_call 13; refine (rget32_all _ _ _ l a1 w2 hb2 (by omega) (by omega)).mono ?_; rintro e w1' ⟨rfl, rfl⟩)
    | (go_at_call 14; refine (put16_any y _ (by omega) (by omega)).mono ?_; rintro e wa ⟨rfl, ha⟩)
    | (go_at_call 15; refine (put32_any _ _ (by omega) (by omega)).mono ?_; rintro e wb ⟨rfl, hb⟩))
  have hAB : Below w.heap.size w wb := bnext (bnext hS2 ha (Nat.le_refl _)) hb (Nat.le_refl _)
  have hz := hAB.size
  clear ha hb hb2 hx2 hS2 hS2'
  generalize hW : (wb.alloc (.cells #[.int .u8 (y % 256), .int .u8 (y / 256)] 31)).alloc (.cells #[.int .u8 (a2 % 256), .int .u8 (a2 / 256 % 256), .int .u8 (a2 / 65536 % 256), .int .u8 (a2 / 16777216)] 33) = W
  have hWs : W.heap.size = wb.heap.size + 2 := by rw [← hW]; simp
  have hWw : Below w.heap.size w W := by rw [← hW]; go_grown
  have hA : ∀ w', Below W.heap.size W w' → Bs w' (some ⟨wb.heap.size, 0, none⟩) 2 2 [y % 256, y / 256] := fun w' h' =>
    bs_at [y % 256, y / 256] (two_range (by omega) (by omega)) (show 2 ≤ maxLen by decide) rfl (bstep ((Below.refl _ (wb.alloc (.cells #[.int .u8 (y % 256), .int .u8 (y / 256)] 31))).alloc (by simp) _) (by rw [← hW] at h'; exact h') (by simp))
  have hB : ∀ w', Below W.heap.size W w' → Bs w' (some ⟨wb.heap.size + 1, 0, none⟩) 4 4 [a2 % 256, a2 / 256 % 256, a2 / 65536 % 256, a2 / 16777216] := fun w' h' =>
    bs_at [a2 % 256, a2 / 256 % 256, a2 / 65536 % 256, a2 / 16777216] (four_range (by omega) (by omega) (by omega) (by omega)) (show 4 ≤ maxLen by decide) (w := wb.alloc (.cells #[.int .u8 (y % 256), .int .u8 (y / 256)] 31)) (by simp) (by rw [hWs, ← hW] at h'; exact h')
  clear hW
  go_region_held3 (fun _ => True) (trivial) (first
    | (go_at_call 17; refine (rput16_bs y _ (by omega) (by omega)).mono ?_; rintro e wc ⟨g2, f2, rfl, hbs2, hbel2⟩; have hQ2 := bundrew hbel2)
    | (go_at_call 16; have _t := hbs2; refine (sameBytes_yes _ _ 2 2 2 f2 _ _ (hA _ hQ2) hbs2).mono ?_; rintro e wc' ⟨rfl, rfl⟩; clear _t hbs2)
    | (go_at_call 18; refine (rput32_bs a2 _ (by omega) (by omega)).mono ?_; rintro e wd ⟨g3, f3, rfl, hbs3, hbel3⟩; have hQ3 := bnext hQ2 hbel3 (Nat.le_refl _))
    | (go_at_call 16; refine (sameBytes_yes _ _ 4 4 4 f3 _ _ (hB _ hQ3) hbs3).mono ?_; rintro e wd' ⟨rfl, rfl⟩)
    | (go_at_call 19; refine (works_any _).mono ?_; rintro e wf ⟨rfl, hbel4⟩; have hQ4 := bnext hQ3 hbel4 (Nat.le_refl _)))
  go_wp2
  go_returns
  exact ⟨rfl, bstep hWw hQ4 hWw.size⟩

theorem own : ownKnob Try.prog.godebug = none := by kernel_rfl
theorem laidOut : laidOutB Try.prog = true := by kernel_rfl
set_option maxRecDepth 100000 in
theorem lifted (os : Os) (started : os.Started) (H : Type) (enc : TypeId × Value → H) :
    ReturnsInHanded {} Try.checked os 3 .any (Rows.numGetsSpec.pre6 enc Try.prog Try.f3 Rows.numGetsRow.domain false) (Rows.numGetsSpec.post enc Try.prog Try.f3 false true false false) := by
  refine returnsInHanded_of_change (C := Try.checked) own started (by kernel_rfl) Try.func3
    (ChangeSpec.witness6 (enc := enc) (C := Try.checked) false ⟨#[], #[.slice none 0 0, .int .i64 0, .int .u32 0], []⟩ 8 (by kernel_rfl) (by kernel_rfl) (by kernel_rfl) (by kernel_rfl)) ?_
  intro W base args ds gs before hval0 hW hcnd _
  have hval : ∀ (j : Nat) t v, Try.f3.params[j]? = some t → args[j]? = some v → Value.okWide Try.prog W .any base t v := hval0
  have hW' := hW
  obtain ⟨p, q, hA0, hV, rfl, hfz, hnd⟩ := hW
  have hA : DataW.TrodAll enc Try.prog W 0 (fun _ => true) true Try.f3.params.toList args.toList ds p := hA0
  rw [Try.params3] at hA hval
  obtain ⟨v0, vs0, d0, ds0, p0, q0, hargs, rfl, rfl, h0, r0⟩ := trodAll_cons hA
  obtain ⟨v1, vs1, d1, ds1, p1, q1, rfl, rfl, rfl, h1, r1⟩ := trodAll_cons r0
  obtain ⟨v2, vs2, d2, ds2, p2, q2, rfl, rfl, rfl, h2, r2⟩ := trodAll_cons r1
  obtain ⟨rfl, rfl, rfl⟩ := trodAll_nil r2
  obtain rfl : args = #[v0, v1, v2] := by cases args; simp_all
  obtain ⟨rfl, rfl⟩ := trodVars_none hV
  obtain ⟨a0, len0, cap0, rfl⟩ := okWide_slice Try.underlying22 (hval 0 22 v0 rfl rfl)
  have k0 := h0
  have lt0 : ∀ x ∈ p0, x.block < W.heap.size := by obtain ⟨m, hm⟩ := k0; exact DataW.trod_lt m _ _ _ hm
  obtain ⟨z0, w0⟩ : ∃ zs, Bs W a0 len0 cap0 zs := by
    obtain ⟨fuel, hf⟩ := h0
    rcases open_ints Try.underlying22 Try.underlying5 (by kernel_rfl) hf with ⟨hcs, _⟩ | ⟨x, l, c, zs, hcs, _, hl, hm, hz, _, hcell, hwz⟩
    · simp [Value.cells] at hcs
      obtain ⟨rfl, rfl, rfl⟩ := hcs
      exact ⟨[], Bs.nilSlice _⟩
    · simp [Value.cells] at hcs
      obtain ⟨rfl, rfl, rfl⟩ := hcs
      exact ⟨_, bs_open hl hm (by simpa using hz) hcell hwz⟩
  obtain ⟨a1, rfl, rfl, rfl, w1⟩ := open_int Try.underlying3 (hval 1 3 v1 rfl rfl) h1
  obtain ⟨a2, rfl, rfl, rfl, w2⟩ := open_int Try.underlying23 (hval 2 23 v2 rfl rfl) h2
  clear hA0 hval0
  refine (walk a0 len0 cap0 z0 a1 a2 W w0 w1 w2).mono fun e W' ⟨he, bel⟩ => ?_
  subst he
  exact ⟨_, rfl, _, _, _, [], _, [], hW', trodAll_mk1 (shut_bool Try.underlying4 _), (trodAll_cons_mk (Below.trod laidOut (by kernel_rfl) (of_decide_eq_true (by kernel_rfl)) k0 bel lt0) (trodAll_cons_mk (shut_int Try.underlying3 w1) (trodAll_cons_mk (shut_int Try.underlying23 w2) trodAll_mk0))), rfl, bel.frame _, fun h => by cases h⟩
theorem over : Rows.numGetsRow.holds Try.pinned (OpenSpec.ofChange Rows.numGetsSpec) :=
  OpenClaim.holds_of_wide 3 Try.f3 rfl rfl rfl rfl rfl rfl rfl ⟨rfl, rfl, rfl, rfl, rfl⟩ rfl rfl rfl rfl rfl (by kernel_rfl) Try.func3 (by kernel_rfl)
    (of_decide_eq_true (by kernel_rfl)) (by unfold Func.isWrapper; first | (rw [if_pos (by decide +kernel)]; kernel_rfl) | (rw [if_neg (by decide +kernel)]; exact ⟨rfl, rfl⟩))
    (fun os started H enc _ => lifted os started H enc)
end Go.Proofs.Ytccooigblgnndaa.numGets
namespace Go.Proofs.Ytccooigblgnndaa
/-- The statement. -/
theorem numGets_holds : Rows.NumGetsSaid := numGets.over
#print axioms numGets_holds
end Go.Proofs.Ytccooigblgnndaa
