/-
  The statement CacheVoid, proved: for every number and block the law returns true, and what came in reads as it did; no condition.
-/
import Derived.Test.YtecedklfdmbnpaaCacW
import Derived.Test.YtecedklfdmbnpaaDskH
namespace Go.Proofs.Ytecedklfdmbnpaa.cacheVoid
open Go.ChangeShapes Go.WideShapes Go.ChangeAt Go.RowKit
set_option linter.unusedVariables false
set_option linter.unusedSimpArgs false

set_option maxRecDepth 100000 in
set_option maxHeartbeats 2000000 in
theorem walk (i : Int) (b : Blk) (w : World) (w0 : (Lit.int .i64 i).wf = true) :
    Calls Try.prog 5 #[.int .i64 i, .agg b.cs.toArray] w fun e w' => e = .returned (.bool true) ∧ Below w.heap.size w w' := by
  go_enter Try.func5, Try.ntmps5
  go_wp2_with (first
    | (refine at_boxB (by rfl) _ (by rfl) b (by rfl) ?_; intro gb w1 a1 l1 r1 b1)
    | (go_at_call 22; refine (cworks_any _).mono ?_; rintro e w2 ⟨rfl, b2⟩
       have r2 := r1.later b2
       have B2 := bnext b1 b2 (Nat.le_refl _)
       clear r1 b1 b2)
    | (go_at_call 29; refine (drop_nil _).mono ?_; rintro e u ⟨rfl, rfl⟩)
    | (go_at_call 28; refine (get_nil i _).mono ?_; rintro e w3 ⟨rfl, b3⟩
       have r3 := r2.later b3
       have B3 := bnext B2 b3 (Nat.le_refl _)
       clear b3)
    | (refine at_newB (by rfl) (by rfl) ?_; intro gc w4 a4 l4 r4 b4
       have hgc : w.heap.size ≤ gc := Nat.le_trans B3.size a4
       have r5 := r3.later b4
       have hl := r3.lt
       have B4 := bnext B3 b4 (Nat.le_refl _)
       clear r2)
    | (refine at_putB (by rfl) _ _ (by rfl) gc (by rfl) Blk.zero (by rfl) _ r4 ?_; intro w5 r6 s5
       have r7 := r5.step s5 (by omega)
       have B5 : Below w.heap.size w w5 := ((Stp.of_below B4 (fun x => w.heap.size ≤ x)).next s5 (fun x e => .inl (by rw [e]; exact hgc))).below (Nat.le_refl _) (fun _ h => h)
       clear r5 r3 r4)
    | (go_at_call 13; refine (counts_nil _).mono ?_; rintro e u ⟨rfl, rfl⟩))
  refine (cnew_bad _ 4 (.inl rfl)).mono ?_
  rintro e u ⟨rfl, rfl⟩
  simp only [List.append_eq, List.cons_append, List.nil_append] at *
  go_wp2_with (first
    | (go_at_call 24; refine (put_nil i b _).mono ?_; rintro e w6 ⟨rfl, b6⟩
       have r8 := r7.later b6
       have B6 := bnext B5 b6 (Nat.le_refl _)
       clear r7)
    | (go_at_call 25; refine (cforce_nil i b _).mono ?_; rintro e w7 ⟨rfl, b7⟩
       have B7 := bnext B6 b7 (Nat.le_refl _))
    | (go_at_call 30; refine (pin_nil i _).mono ?_; rintro e u ⟨rfl, rfl⟩)
    | (go_at_call 31; refine (unpin_nil i _).mono ?_; rintro e u ⟨rfl, rfl⟩)
    | (go_at_call 26; refine (back_nil i _).mono ?_; rintro e u ⟨rfl, rfl⟩)
    | (go_at_call 27; refine (sync_nil _).mono ?_; rintro e u ⟨rfl, rfl⟩)
    | (go_at_call 15; refine (held_nil _).mono ?_; rintro e u ⟨rfl, rfl⟩)
    | (go_at_call 17; refine (changed_nil _).mono ?_; rintro e u ⟨rfl, rfl⟩)
    | (refine at_getB (by rfl) _ (by rfl) gb (by rfl) b r7.range ?_)
    | (refine at_getB (by rfl) _ (by rfl) gb (by rfl) b r8.range ?_))
  go_returns
  exact ⟨by simp, B7⟩

theorem own : ownKnob Try.prog.godebug = none := by kernel_rfl
theorem laidOut : laidOutB Try.prog = true := by kernel_rfl
set_option maxRecDepth 100000 in
theorem lifted (os : Os) (started : os.Started) (H : Type) (enc : TypeId × Value → H) :
    ReturnsInHanded {} Try.checked os 5 .any (Rows.cacheVoidSpec.pre6 enc Try.prog Try.f5 Rows.cacheVoidRow.domain false) (Rows.cacheVoidSpec.post enc Try.prog Try.f5 false true false false) := by
  refine returnsInHanded_of_change (C := Try.checked) own started (by kernel_rfl) Try.func5
    (ChangeSpec.witness6 (enc := enc) (C := Try.checked) false ⟨#[], #[.int .i64 0, .agg Blk.zero.cs.toArray], []⟩ 8 (by kernel_rfl) (by kernel_rfl) (by kernel_rfl) (by kernel_rfl)) ?_
  intro W base args ds gs before hval0 hW hcnd _
  have hval : ∀ (j : Nat) t v, Try.f5.params[j]? = some t → args[j]? = some v → Value.okWide Try.prog W .any base t v := hval0
  have hW' := hW
  obtain ⟨p, q, hA0, hV, rfl, hfz, hnd⟩ := hW
  have hA : DataW.TrodAll enc Try.prog W 0 (fun _ => true) true Try.f5.params.toList args.toList ds p := hA0
  rw [Try.params5] at hA hval
  obtain ⟨v0, vs0, d0, ds0, p0, q0, hargs, rfl, rfl, h0, r0⟩ := trodAll_cons hA
  obtain ⟨v1, vs1, d1, ds1, p1, q1, rfl, rfl, rfl, h1, r1⟩ := trodAll_cons r0
  obtain ⟨rfl, rfl, rfl⟩ := trodAll_nil r1
  obtain rfl : args = #[v0, v1] := by cases args; simp_all
  obtain ⟨rfl, rfl⟩ := trodVars_none hV
  obtain ⟨a0, rfl, rfl, rfl, w0⟩ := open_int Try.underlying3 (hval 0 3 v0 rfl rfl) h0
  obtain ⟨cs1, rfl, _⟩ := okWide_arr u36 (hval 1 42 v1 rfl rfl)
  have k1 := h1
  have lt1 : ∀ x ∈ p1, x.block < W.heap.size := by obtain ⟨m, hm⟩ := k1; exact DataW.trod_lt m _ _ _ hm
  obtain ⟨b1, e1⟩ : ∃ b : Blk, cs1 = b.cs.toArray := by
    obtain ⟨fuel, hf⟩ := h1
    obtain ⟨b, hb⟩ := blk_of_trod hf
    exact ⟨b, by rw [hb]; simp [Value.cells]⟩
  subst e1
  clear hA0 hval0
  refine (walk a0 b1 W w0).mono fun e W' ⟨he, bel⟩ => ?_
  subst he
  exact ⟨_, rfl, _, _, _, [], _, [], hW', trodAll_mk1 (shut_bool Try.underlying4 _), (trodAll_cons_mk (shut_int Try.underlying3 w0) (trodAll_cons_mk (Below.trod laidOut (by kernel_rfl) (of_decide_eq_true (by kernel_rfl)) k1 bel lt1) trodAll_mk0)), rfl, bel.frame _, fun h => by cases h⟩
theorem over : Rows.cacheVoidRow.holds Try.pinned (OpenSpec.ofChange Rows.cacheVoidSpec) :=
  OpenClaim.holds_of_wide 5 Try.f5 rfl rfl rfl rfl rfl rfl rfl ⟨rfl, rfl, rfl, rfl, rfl⟩ rfl rfl rfl rfl rfl (by kernel_rfl) Try.func5 (by kernel_rfl)
    (of_decide_eq_true (by kernel_rfl)) (by unfold Func.isWrapper; first | (rw [if_pos (by decide +kernel)]; kernel_rfl) | (rw [if_neg (by decide +kernel)]; exact ⟨rfl, rfl⟩))
    (fun os started H enc _ => lifted os started H enc)
end Go.Proofs.Ytecedklfdmbnpaa.cacheVoid
namespace Go.Proofs.Ytecedklfdmbnpaa
/-- The statement. -/
theorem cacheVoid_holds : Rows.CacheVoidSaid := cacheVoid.over
#print axioms cacheVoid_holds
end Go.Proofs.Ytecedklfdmbnpaa
