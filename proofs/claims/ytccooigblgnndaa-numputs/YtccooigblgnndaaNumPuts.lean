/-
  The statement NumPuts, proved: for every two numbers the law returns true, and what came in reads as it did; no condition.
-/
import Derived.Test.YtccooigblgnndaaNumH
import Derived.Test.YtccooigblgnndaaPlain2
namespace Go.Proofs.Ytccooigblgnndaa.numPuts
open Go.ChangeShapes Go.WideShapes Go.ChangeAt Go.RowKit
set_option linter.unusedVariables false

theorem walk (a0 : Int) (a1 : Int) (w : World) (w0 : (Lit.int .u16 a0).wf = true) (w1 : (Lit.int .u32 a1).wf = true) :
    Calls Try.prog 7 #[.int .u16 a0, .int .u32 a1] w fun e w' => e = .returned (.bool true) ∧ Below w.heap.size w w' := by
  have r0 := bounds_u16 w0
  have r1 := bounds_u32 w1
  clear w0 w1
  go_enter Try.func7, Try.ntmps7
  go_wp2_with (first
    | (go_at_call 14; refine (put16_any _ _ (by omega) (by omega)).mono ?_; rintro e wa ⟨rfl, ha⟩)
    | (go_at_call 15; refine (put32_any _ _ (by omega) (by omega)).mono ?_; rintro e wb ⟨rfl, hb⟩))
  have hAB : Below w.heap.size w wb := bnext ha hb (Nat.le_refl _)
  have hz := hAB.size
  generalize hW : (wb.alloc (.cells #[.int .u8 (a0 % 256), .int .u8 (a0 / 256)] 31)).alloc (.cells #[.int .u8 (a1 % 256), .int .u8 (a1 / 256 % 256), .int .u8 (a1 / 65536 % 256), .int .u8 (a1 / 16777216)] 33) = W
  have hWs : W.heap.size = wb.heap.size + 2 := by rw [← hW]; simp
  have hWw : Below w.heap.size w W := by rw [← hW]; go_grown
  have hA : ∀ w', Below W.heap.size W w' → Bs w' (some ⟨wb.heap.size, 0, none⟩) 2 2 [a0 % 256, a0 / 256] := fun w' h' =>
    bs_at [a0 % 256, a0 / 256] (two_range (by omega) (by omega)) (show 2 ≤ maxLen by decide) rfl (bstep ((Below.refl _ (wb.alloc (.cells #[.int .u8 (a0 % 256), .int .u8 (a0 / 256)] 31))).alloc (by simp) _) (by rw [← hW] at h'; exact h') (by simp))
  have hB : ∀ w', Below W.heap.size W w' → Bs w' (some ⟨wb.heap.size + 1, 0, none⟩) 4 4 [a1 % 256, a1 / 256 % 256, a1 / 65536 % 256, a1 / 16777216] := fun w' h' =>
    bs_at [a1 % 256, a1 / 256 % 256, a1 / 65536 % 256, a1 / 16777216] (four_range (by omega) (by omega) (by omega) (by omega)) (show 4 ≤ maxLen by decide) (w := wb.alloc (.cells #[.int .u8 (a0 % 256), .int .u8 (a0 / 256)] 31)) (by simp) (by rw [hWs, ← hW] at h'; exact h')
  clear hW ha hb
  go_region_with (first
    | (go_at_call 17; refine (rput16_bs a0 _ (by omega) (by omega)).mono ?_; rintro e wc ⟨a2, c2, rfl, hbs2, hbel2⟩; have hS2 := bundrew hbel2)
    | (go_at_call 16; have _t := hbs2; refine (sameBytes_yes _ _ 2 2 2 c2 _ _ (hA _ hS2) hbs2).mono ?_; rintro e wc' ⟨rfl, rfl⟩; clear _t hbs2)
    | (go_at_call 18; refine (rput32_bs a1 _ (by omega) (by omega)).mono ?_; rintro e wd ⟨a3, c3, rfl, hbs3, hbel3⟩; have hS3 := bnext hS2 hbel3 (Nat.le_refl _))
    | (go_at_call 16; refine (sameBytes_yes _ _ 4 4 4 c3 _ _ (hB _ hS3) hbs3).mono ?_; rintro e wd' ⟨rfl, rfl⟩)
    | (go_at_call 19; refine (works_any _).mono ?_; rintro e wf ⟨rfl, hbel4⟩; have hS4 := bnext hS3 hbel4 (Nat.le_refl _)))
  go_wp2
  go_returns
  exact ⟨rfl, bstep hWw hS4 hWw.size⟩

theorem own : ownKnob Try.prog.godebug = none := by kernel_rfl
theorem laidOut : laidOutB Try.prog = true := by kernel_rfl
set_option maxRecDepth 100000 in
theorem lifted (os : Os) (started : os.Started) (H : Type) (enc : TypeId × Value → H) :
    ReturnsInHanded {} Try.checked os 7 .any (Rows.numPutsSpec.pre6 enc Try.prog Try.f7 Rows.numPutsRow.domain false) (Rows.numPutsSpec.post enc Try.prog Try.f7 false true false false) := by
  refine returnsInHanded_of_change (C := Try.checked) own started (by kernel_rfl) Try.func7
    (ChangeSpec.witness6 (enc := enc) (C := Try.checked) false ⟨#[], #[.int .u16 0, .int .u32 0], []⟩ 8 (by kernel_rfl) (by kernel_rfl) (by kernel_rfl) (by kernel_rfl)) ?_
  intro W base args ds gs before hval0 hW hcnd _
  have hval : ∀ (j : Nat) t v, Try.f7.params[j]? = some t → args[j]? = some v → Value.okWide Try.prog W .any base t v := hval0
  have hW' := hW
  obtain ⟨p, q, hA0, hV, rfl, hfz, hnd⟩ := hW
  have hA : DataW.TrodAll enc Try.prog W 0 (fun _ => true) true Try.f7.params.toList args.toList ds p := hA0
  rw [Try.params7] at hA hval
  obtain ⟨v0, vs0, d0, ds0, p0, q0, hargs, rfl, rfl, h0, r0⟩ := trodAll_cons hA
  obtain ⟨v1, vs1, d1, ds1, p1, q1, rfl, rfl, rfl, h1, r1⟩ := trodAll_cons r0
  obtain ⟨rfl, rfl, rfl⟩ := trodAll_nil r1
  obtain rfl : args = #[v0, v1] := by cases args; simp_all
  obtain ⟨rfl, rfl⟩ := trodVars_none hV
  obtain ⟨a0, rfl, rfl, rfl, w0⟩ := open_int Try.underlying24 (hval 0 24 v0 rfl rfl) h0
  obtain ⟨a1, rfl, rfl, rfl, w1⟩ := open_int Try.underlying23 (hval 1 23 v1 rfl rfl) h1
  clear hA0 hval0
  refine (walk a0 a1 W w0 w1).mono fun e W' ⟨he, bel⟩ => ?_
  subst he
  exact ⟨_, rfl, _, _, _, [], _, [], hW', trodAll_mk1 (shut_bool Try.underlying4 _), (trodAll_cons_mk (shut_int Try.underlying24 w0) (trodAll_cons_mk (shut_int Try.underlying23 w1) trodAll_mk0)), rfl, bel.frame _, fun h => by cases h⟩
theorem over : Rows.numPutsRow.holds Try.pinned (OpenSpec.ofChange Rows.numPutsSpec) :=
  OpenClaim.holds_of_wide 7 Try.f7 rfl rfl rfl rfl rfl rfl rfl ⟨rfl, rfl, rfl, rfl, rfl⟩ rfl rfl rfl rfl rfl (by kernel_rfl) Try.func7 (by kernel_rfl)
    (of_decide_eq_true (by kernel_rfl)) (by unfold Func.isWrapper; first | (rw [if_pos (by decide +kernel)]; kernel_rfl) | (rw [if_neg (by decide +kernel)]; exact ⟨rfl, rfl⟩))
    (fun os started H enc _ => lifted os started H enc)
end Go.Proofs.Ytccooigblgnndaa.numPuts
namespace Go.Proofs.Ytccooigblgnndaa
/-- The statement. -/
theorem numPuts_holds : Rows.NumPutsSaid := numPuts.over
#print axioms numPuts_holds
end Go.Proofs.Ytccooigblgnndaa
