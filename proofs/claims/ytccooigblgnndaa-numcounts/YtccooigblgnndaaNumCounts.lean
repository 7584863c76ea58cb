/-
  The statement NumCounts, proved: for every bytes and numbers the law returns true, and what came in reads as it did; no condition.
-/
import Derived.Test.YtccooigblgnndaaNumI
namespace Go.Proofs.Ytccooigblgnndaa.numCounts
open Go.ChangeShapes Go.WideShapes Go.ChangeAt Go.RowKit
set_option linter.unusedVariables false

set_option maxHeartbeats 1000000 in
theorem walk (a0 : Option Addr) (n0 c0 : Nat) (z0 : List Int) (a1 : Int) (a2 : Int) (w : World) (w0 : Bs w a0 n0 c0 z0) (w1 : (Lit.int .i64 a1).wf = true) (w2 : (Lit.int .i64 a2).wf = true) :
    Calls Try.prog 8 #[.slice a0 n0 c0, .int .i64 a1, .int .i64 a2] w fun e w' => e = .returned (.bool true) ∧ Below w.heap.size w w' := by
  have r1 := bounds_i64 w1
  have r2 := bounds_i64 w2
  clear w1 w2
  have hle := w0.le
  have hcap := w0.cap
  unfold maxLen at hcap
  obtain ⟨m, hm, hm', hm2⟩ : ∃ m : Nat, (if (300 : Int) < (n0 : Int) then (300 : Int) else (n0 : Int)) = (m : Int) ∧ m ≤ n0 ∧ m ≤ 300 := ⟨min n0 300, by split <;> omega, by omega, by omega⟩
  obtain ⟨g, hg, hg'⟩ : ∃ g : Nat, (if a1 < 0 then 0 else a1) = (g : Int) ∧ Hid (a1.toNat = g) := ⟨a1.toNat, by split <;> omega, rfl⟩
  have hg2 : g ≤ 9223372036854775807 := by have := hg'.out; omega
  have hb := w0.take m hm'
  generalize z0.take m = l at hb
  have hF := fz_spec l (bnd m a2 - a1.toNat) a1.toNat
  have hB := bnd_le m a2
  go_enter Try.func8, Try.ntmps8
  go_wp2_with fail
  refine (bytes_bs a0 m c0 l w hb (by omega)).mono ?_
  rintro e u1 ⟨y1, d1, rfl, hy1, hT1⟩
  rcases hF with hF | ⟨I, hF, hI1, hI2, hI3, hI4⟩
  · go_wp2_with (go_at_call 26; refine (first_any _ _ _ l a1 a2 u1 hy1 (by omega) (by omega) (by omega) (by omega) (by omega)).mono ?_; rintro e u2 ⟨rfl, k2, hu2⟩; have hT2 : Below w.heap.size w u2 := (by rw [hu2]; exact bdrewN hT1 k2); have hc2 := hb.later hT2; clear hu2 hy1 hT1)
    refine (rfirst_any a0 m c0 l a1 a2 u2 hc2 (by omega) (by omega) (by omega) (by omega) (by omega)).mono ?_
    rintro e u3 ⟨rfl, k3, hu3⟩
    have hT3 : Below w.heap.size w u3 := by rw [hu3]; exact bdrewN hT2 k3
    have hc3 := hb.later hT3
    clear hu3 hT2 hc2
    go_wp2_with fail
    refine (bytes_bs a0 m c0 l u3 hc3 (by omega)).mono ?_
    rintro e w7 ⟨x7, d7, rfl, hx7, hS7'⟩
    have hS7 := bnext hT3 hS7' (Nat.le_refl _)
    clear hS7' hT3 hc3
    go_wp2_with (go_at_call 24; refine (count_any _ _ _ l a2 w7 hx7 (by omega) (by omega) (by omega)).mono ?_; rintro e w8 ⟨rfl, k8, hw8⟩; have hS8 : Below w.heap.size w w8 := (by rw [hw8]; exact bdrewN hS7 k8); have hb8 := hb.later hS8; clear hw8 hx7 hS7)
    refine (rcount_any a0 m c0 l a2 w8 hb8 (by omega) (by omega) (by omega)).mono ?_
    rintro e w9 ⟨rfl, k9, hw9⟩
    have hS9 : Below w.heap.size w w9 := by rw [hw9]; exact bdrewN hS8 k9
    have hb9 := hb.later hS9
    clear hw9 hS8 hb8
    go_wp2_with fail
    refine wp_loop_rounds 1 ?_
    rw [rounds_succ]
    go_wp2_with (first
      | (go_at_call 20; refine (bit_all a0 m c0 l 0 w9 hb9 (by omega) (by omega)).mono ?_; rintro e u ⟨rfl, q, hu⟩; have hbu : Below w.heap.size w u := (by rw [hu]; exact bdrewN hS9 q); clear hu)
      | (go_at_call 19; refine (works_any _).mono ?_; rintro e u4 ⟨rfl, hT4'⟩))
    have hT4 := bnext hbu hT4' (Nat.le_refl _)
    go_returns
    exact ⟨rfl, hT4⟩
  · rw [hg'.out] at hI1 hI2 hI4
    have hI : I / 8 < m := by omega
    have H4 : Hid (∀ j, g ≤ j → j < I → bitB l j = true) := hI4
    clear hI4
    go_wp2_with (go_at_call 26; refine (first_any _ _ _ l a1 a2 u1 hy1 (by omega) (by omega) (by omega) (by omega) (by omega)).mono ?_; rintro e u2 ⟨rfl, k2, hu2⟩; have hT2 : Below w.heap.size w u2 := (by rw [hu2]; exact bdrewN hT1 k2); have hc2 := hb.later hT2; clear hu2 hy1 hT1)
    refine (rfirst_any a0 m c0 l a1 a2 u2 hc2 (by omega) (by omega) (by omega) (by omega) (by omega)).mono ?_
    rintro e u3 ⟨rfl, k3, hu3⟩
    have hT3 : Below w.heap.size w u3 := by rw [hu3]; exact bdrewN hT2 k3
    have hc3 := hb.later hT3
    clear hu3 hT2 hc2
    go_wp2_with fail
    refine (bytes_bs a0 m c0 l u3 hc3 (by omega)).mono ?_
    rintro e w7 ⟨x7, d7, rfl, hx7, hS7'⟩
    have hS7 := bnext hT3 hS7' (Nat.le_refl _)
    clear hS7' hT3 hc3
    go_wp2_with (go_at_call 24; refine (count_any _ _ _ l a2 w7 hx7 (by omega) (by omega) (by omega)).mono ?_; rintro e w8 ⟨rfl, k8, hw8⟩; have hS8 : Below w.heap.size w w8 := (by rw [hw8]; exact bdrewN hS7 k8); have hb8 := hb.later hS8; clear hw8 hx7 hS7)
    refine (rcount_any a0 m c0 l a2 w8 hb8 (by omega) (by omega) (by omega)).mono ?_
    rintro e w9 ⟨rfl, k9, hw9⟩
    have hS9 : Below w.heap.size w w9 := by rw [hw9]; exact bdrewN hS8 k9
    have hb9 := hb.later hS9
    clear hw9 hS8 hb8
    go_wp2_with fail
    go_loopw [8] (fun kv wr => ∃ k : Nat, kv = .int .i64 k ∧ g ≤ k ∧ k ≤ I ∧ Below w.heap.size w wr) (fun kv _ => I - (intOf kv).toNat)
    case atStart => exact ⟨g, rfl, Nat.le_refl _, hI1, hS9⟩
    case round =>
      obtain ⟨k, rfl, hk1, hk2, hbr⟩ := hrel
      have hbk := hb.later hbr
      by_cases hlt : k < I
      · have hbit := H4.out k hk1 hlt
        go_wp2_with (go_at_call 20; refine (bit_ok a0 m c0 l k wr hbk (by omega) (by omega)).mono ?_; rintro e u ⟨rfl, q, hu⟩; have hbu : Below w.heap.size w u := (by rw [hu]; exact bdrewN hbr q); clear hu)
        go_roundw
        case rel => exact ⟨k + 1, by go_num, by omega, by omega, hbu⟩
        case measure => simp [intOf]; omega
      · obtain rfl : k = I := by omega
        go_wp2_with (go_at_call 20; refine (bit_ok a0 m c0 l k wr hbk (by omega) (by omega)).mono ?_; rintro e u ⟨rfl, q, hu⟩; have hbu : Below w.heap.size w u := (by rw [hu]; exact bdrewN hbr q); clear hu)
        refine (works_any _).mono ?_
        rintro e u4 ⟨rfl, hT4'⟩
        have hT4 := bnext hbu hT4' (Nat.le_refl _)
        go_wp2
        go_returns
        exact ⟨rfl, hT4⟩

theorem own : ownKnob Try.prog.godebug = none := by kernel_rfl
theorem laidOut : laidOutB Try.prog = true := by kernel_rfl
set_option maxRecDepth 100000 in
theorem lifted (os : Os) (started : os.Started) (H : Type) (enc : TypeId × Value → H) :
    ReturnsInHanded {} Try.checked os 8 .any (Rows.numCountsSpec.pre6 enc Try.prog Try.f8 Rows.numCountsRow.domain false) (Rows.numCountsSpec.post enc Try.prog Try.f8 false true false false) := by
  refine returnsInHanded_of_change (C := Try.checked) own started (by kernel_rfl) Try.func8
    (ChangeSpec.witness6 (enc := enc) (C := Try.checked) false ⟨#[], #[.slice none 0 0, .int .i64 0, .int .i64 0], []⟩ 8 (by kernel_rfl) (by kernel_rfl) (by kernel_rfl) (by kernel_rfl)) ?_
  intro W base args ds gs before hval0 hW hcnd _
  have hval : ∀ (j : Nat) t v, Try.f8.params[j]? = some t → args[j]? = some v → Value.okWide Try.prog W .any base t v := hval0
  have hW' := hW
  obtain ⟨p, q, hA0, hV, rfl, hfz, hnd⟩ := hW
  have hA : DataW.TrodAll enc Try.prog W 0 (fun _ => true) true Try.f8.params.toList args.toList ds p := hA0
  rw [Try.params8] at hA hval
  obtain ⟨v0, vs0, d0, ds0, p0, q0, hargs, rfl, rfl, h0, r0⟩ := trodAll_cons hA
  obtain ⟨v1, vs1, d1, ds1, p1, q1, rfl, rfl, rfl, h1, r1⟩ := trodAll_cons r0
  obtain ⟨v2, vs2, d2, ds2, p2, q2, rfl, rfl, rfl, h2, r2⟩ := trodAll_cons r1
  obtain ⟨rfl, rfl, rfl⟩ := trodAll_nil r2
  obtain rfl : args = #[v0, v1, v2] := by cases args; simp_all
  obtain ⟨rfl, rfl⟩ := trodVars_none hV
  obtain ⟨a0, len0, cap0, rfl⟩ := okWide_slice Try.underlying22 (hval 0 22 v0 rfl rfl)
  have k0 := h0
  have lt0 : ∀ x ∈ p0, x.block < W.heap.size := by obtain ⟨m, hm⟩ := k0; exact DataW.trod_lt m _ _ _ hm
  obtain ⟨z0, w0⟩ : ∃ zs, Bs W a0 len0 cap0 zs := by
    obtain ⟨fuel, hf⟩ := h0
    rcases open_ints Try.underlying22 Try.underlying5 (by kernel_rfl) hf with ⟨hcs, _⟩ | ⟨x, l, c, zs, hcs, _, hl, hm, hz, _, hcell, hwz⟩
    · simp [Value.cells] at hcs
      obtain ⟨rfl, rfl, rfl⟩ := hcs
      exact ⟨[], Bs.nilSlice _⟩
    · simp [Value.cells] at hcs
      obtain ⟨rfl, rfl, rfl⟩ := hcs
      exact ⟨_, bs_open hl hm (by simpa using hz) hcell hwz⟩
  obtain ⟨a1, rfl, rfl, rfl, w1⟩ := open_int Try.underlying3 (hval 1 3 v1 rfl rfl) h1
  obtain ⟨a2, rfl, rfl, rfl, w2⟩ := open_int Try.underlying3 (hval 2 3 v2 rfl rfl) h2
  clear hA0 hval0
  refine (walk a0 len0 cap0 z0 a1 a2 W w0 w1 w2).mono fun e W' ⟨he, bel⟩ => ?_
  subst he
  exact ⟨_, rfl, _, _, _, [], _, [], hW', trodAll_mk1 (shut_bool Try.underlying4 _), (trodAll_cons_mk (Below.trod laidOut (by kernel_rfl) (of_decide_eq_true (by kernel_rfl)) k0 bel lt0) (trodAll_cons_mk (shut_int Try.underlying3 w1) (trodAll_cons_mk (shut_int Try.underlying3 w2) trodAll_mk0))), rfl, bel.frame _, fun h => by cases h⟩
theorem over : Rows.numCountsRow.holds Try.pinned (OpenSpec.ofChange Rows.numCountsSpec) :=
  OpenClaim.holds_of_wide 8 Try.f8 rfl rfl rfl rfl rfl rfl rfl ⟨rfl, rfl, rfl, rfl, rfl⟩ rfl rfl rfl rfl rfl (by kernel_rfl) Try.func8 (by kernel_rfl)
    (of_decide_eq_true (by kernel_rfl)) (by unfold Func.isWrapper; first | (rw [if_pos (by decide +kernel)]; kernel_rfl) | (rw [if_neg (by decide +kernel)]; exact ⟨rfl, rfl⟩))
    (fun os started H enc _ => lifted os started H enc)
end Go.Proofs.Ytccooigblgnndaa.numCounts
namespace Go.Proofs.Ytccooigblgnndaa
/-- The statement. -/
theorem numCounts_holds : Rows.NumCountsSaid := numCounts.over
#print axioms numCounts_holds
end Go.Proofs.Ytccooigblgnndaa
