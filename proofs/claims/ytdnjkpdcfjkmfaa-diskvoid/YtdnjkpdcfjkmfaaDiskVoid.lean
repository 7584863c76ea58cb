/-
  The statement DiskVoid, proved: for every number and block the law returns true, and what came in reads as it did; no condition.
-/
import Derived.Test.YtdnjkpdcfjkmfaaDskH
namespace Go.Proofs.Ytdnjkpdcfjkmfaa.diskVoid
open Go.ChangeShapes Go.WideShapes Go.ChangeAt Go.RowKit
set_option linter.unusedVariables false

theorem image_nil (w : World) : Calls Try.prog 17 #[.pointer none] w fun e w' => e = .returned (.slice none 0 0) ∧ w = w' := by
  go_enter Try.func17, Try.ntmps17
  go_wp2
  go_returns
  exact ⟨rfl, rfl⟩
theorem load_nil (v : Value) (w : World) : Calls Try.prog 14 #[.pointer none, v] w fun e w' => e = .returned (.int .i64 1) ∧ w = w' := by
  go_enter Try.func14, Try.ntmps14
  go_wp2
  go_returns
  exact ⟨rfl, rfl⟩

set_option maxRecDepth 100000 in
set_option maxHeartbeats 2000000 in
theorem walk (i : Int) (b : Blk) (w : World) (w0 : (Lit.int .i64 i).wf = true) :
    Calls Try.prog 4 #[.int .i64 i, .agg b.cs.toArray] w fun e w' => e = .returned (.bool true) ∧ Below w.heap.size w w' := by
  go_enter Try.func4, Try.ntmps4
  go_wp2_with fail
  refine (works_any _).mono ?_
  rintro e w1 ⟨rfl, b1⟩
  have r1 : w1.rangeAt w.heap.size 0 b.cs := (Stp.of_below b1 (fun _ => False)).range (made_range w _ _) id
  have B1 : Below w.heap.size w w1 := ((Stp.of_alloc w _ (fun _ => False)).trans (Stp.of_below b1 _)).below (Nat.le_refl _) (fun _ h => h.elim)
  have z1 := b1.size
  clear b1
  go_wp2_with fail
  refine (crash_nil _ _).mono ?_
  rintro e u ⟨rfl, rfl⟩
  go_wp2_with fail
  refine (read_nil i _).mono ?_
  rintro e w2 ⟨rfl, b2⟩
  have r2 : w2.rangeAt w.heap.size 0 b.cs := (Stp.of_below b2 (fun _ => False)).range r1 id
  have B2 : Below w.heap.size w w2 := bnext B1 b2 (Nat.le_refl _)
  clear B1 b2 r1 z1
  go_wp2_with (first
    | (refine at_alloc (by rfl) (by rfl) ?_)
    | (refine at_store (by rfl) _ _ (by rfl) _ _ (by rfl) Blk.zero (by rfl) (there_made w2) ?_; rw [setCells_made]
       have r3 := World.rangeAt_alloc r2 (.cells Blk.zero.cs.toArray 32)
       have B3 : Below w.heap.size w (w2.alloc (.cells Blk.zero.cs.toArray 32)) := B2.alloc B2.size _)
    | (go_at_call 7; refine (write_nil i b _).mono ?_; rintro e w4 ⟨rfl, b4⟩; have r4 : w4.rangeAt w.heap.size 0 b.cs := (Stp.of_below b4 (fun _ => False)).range r3 id)
    | (go_at_call 13; refine (force_nil i b _).mono ?_; rintro e w5 ⟨rfl, b5⟩)
    | (go_at_call 9; refine (flush_nil _).mono ?_; rintro e u ⟨rfl, rfl⟩)
    | (go_at_call 14; refine (load_nil _ _).mono ?_; rintro e u ⟨rfl, rfl⟩)
    | (go_at_call 15; refine (len_nil _).mono ?_; rintro e u ⟨rfl, rfl⟩)
    | (go_at_call 12; refine (waits_nil i _).mono ?_; rintro e u ⟨rfl, rfl⟩)
    | (go_at_call 16; refine (writes_nil _).mono ?_; rintro e u ⟨rfl, rfl⟩)
    | (go_at_call 17; refine (image_nil _).mono ?_; rintro e u ⟨rfl, rfl⟩)
    | (refine at_load (by rfl) _ (by rfl) _ _ (by rfl) b r4 ?_)
    | (refine at_load (by rfl) _ (by rfl) _ _ (by rfl) b r3 ?_))
  go_returns
  exact ⟨by simp, bnext (bnext B3 b4 (Nat.le_refl _)) b5 (Nat.le_refl _)⟩

theorem own : ownKnob Try.prog.godebug = none := by kernel_rfl
theorem laidOut : laidOutB Try.prog = true := by kernel_rfl
set_option maxRecDepth 100000 in
theorem lifted (os : Os) (started : os.Started) (H : Type) (enc : TypeId × Value → H) :
    ReturnsInHanded {} Try.checked os 4 .any (Rows.diskVoidSpec.pre6 enc Try.prog Try.f4 Rows.diskVoidRow.domain false) (Rows.diskVoidSpec.post enc Try.prog Try.f4 false true false false) := by
  refine returnsInHanded_of_change (C := Try.checked) own started (by kernel_rfl) Try.func4
    (ChangeSpec.witness6 (enc := enc) (C := Try.checked) false ⟨#[], #[.int .i64 0, .agg Blk.zero.cs.toArray], []⟩ 8 (by kernel_rfl) (by kernel_rfl) (by kernel_rfl) (by kernel_rfl)) ?_
  intro W base args ds gs before hval0 hW hcnd _
  have hval : ∀ (j : Nat) t v, Try.f4.params[j]? = some t → args[j]? = some v → Value.okWide Try.prog W .any base t v := hval0
  have hW' := hW
  obtain ⟨p, q, hA0, hV, rfl, hfz, hnd⟩ := hW
  have hA : DataW.TrodAll enc Try.prog W 0 (fun _ => true) true Try.f4.params.toList args.toList ds p := hA0
  rw [Try.params4] at hA hval
  obtain ⟨v0, vs0, d0, ds0, p0, q0, hargs, rfl, rfl, h0, r0⟩ := trodAll_cons hA
  obtain ⟨v1, vs1, d1, ds1, p1, q1, rfl, rfl, rfl, h1, r1⟩ := trodAll_cons r0
  obtain ⟨rfl, rfl, rfl⟩ := trodAll_nil r1
  obtain rfl : args = #[v0, v1] := by cases args; simp_all
  obtain ⟨rfl, rfl⟩ := trodVars_none hV
  obtain ⟨a0, rfl, rfl, rfl, w0⟩ := open_int Try.underlying3 (hval 0 3 v0 rfl rfl) h0
  obtain ⟨cs1, rfl, _⟩ := okWide_arr u36 (hval 1 32 v1 rfl rfl)
  have k1 := h1
  have lt1 : ∀ x ∈ p1, x.block < W.heap.size := by obtain ⟨m, hm⟩ := k1; exact DataW.trod_lt m _ _ _ hm
  obtain ⟨b1, e1⟩ : ∃ b : Blk, cs1 = b.cs.toArray := by
    obtain ⟨fuel, hf⟩ := h1
    obtain ⟨b, hb⟩ := blk_of_trod hf
    exact ⟨b, by rw [hb]; simp [Value.cells]⟩
  subst e1
  clear hA0 hval0
  refine (walk a0 b1 W w0).mono fun e W' ⟨he, bel⟩ => ?_
  subst he
  exact ⟨_, rfl, _, _, _, [], _, [], hW', trodAll_mk1 (shut_bool Try.underlying4 _), (trodAll_cons_mk (shut_int Try.underlying3 w0) (trodAll_cons_mk (Below.trod laidOut (by kernel_rfl) (of_decide_eq_true (by kernel_rfl)) k1 bel lt1) trodAll_mk0)), rfl, bel.frame _, fun h => by cases h⟩
theorem over : Rows.diskVoidRow.holds Try.pinned (OpenSpec.ofChange Rows.diskVoidSpec) :=
  OpenClaim.holds_of_wide 4 Try.f4 rfl rfl rfl rfl rfl rfl rfl ⟨rfl, rfl, rfl, rfl, rfl⟩ rfl rfl rfl rfl rfl (by kernel_rfl) Try.func4 (by kernel_rfl)
    (of_decide_eq_true (by kernel_rfl)) (by unfold Func.isWrapper; first | (rw [if_pos (by decide +kernel)]; kernel_rfl) | (rw [if_neg (by decide +kernel)]; exact ⟨rfl, rfl⟩))
    (fun os started H enc _ => lifted os started H enc)
end Go.Proofs.Ytdnjkpdcfjkmfaa.diskVoid
namespace Go.Proofs.Ytdnjkpdcfjkmfaa
/-- The statement. -/
theorem diskVoid_holds : Rows.DiskVoidSaid := diskVoid.over
#print axioms diskVoid_holds
end Go.Proofs.Ytdnjkpdcfjkmfaa
