/-
  The statement InodeFields, proved: for every slot, field and inode the law returns true, where the table of the fields is laid as the program's text lays it (the card ties it); no other condition.
-/
import Derived.Test.YtbpnegklglaekaaDoorInoO
import Derived.Test.YtbpnegklglaekaaDoorInoN
import Derived.Test.YtbpnegklglaekaaDoorInoT
import Derived.Test.YtbpnegklglaekaaDoorNumG
import Derived.Test.YtbpnegklglaekaaDoorCards
import Derived.Test.YtbpnegklglaekaaDoorTie
namespace Go.Proofs.YtbpnegklglaekaaDoor.inodeFields
open Go.ChangeShapes Go.WideShapes Go.ChangeAt Go.RowKit
set_option linter.unusedVariables false

theorem two_ways (k f : Int) : (oE k f = 0 ∧ oZ k f = (fN f : Nat)) ∨ oE k f = 2 := by
  unfold oE oZ fN
  by_cases h : isSl k ∧ isF f
  · rw [if_pos h, if_pos h, if_pos h.2]; exact .inl ⟨rfl, rfl⟩
  · rw [if_neg h]; exact .inr rfl
set_option maxRecDepth 100000 in
set_option maxHeartbeats 4000000 in
theorem walk (k f : Int) (x : Ino) (w : World) (hk : (Lit.int .i64 k).wf = true) (hf : (Lit.int .i64 f).wf = true) (hT : Tb w) :
    Calls Tryd.prog 7 #[.int .i64 k, .int .i64 f, .agg x.cs.toArray] w fun e w' => e = .returned (.bool true) ∧ Below w.heap.size w w' := by
  have hO := fun w => offset_any k f w
  have hR := fun w => roffset_any k f w
  have hF := fun w => fields_any x f w
  have hG := fun w => rfields_any x f w
  have hway := two_ways k f
  clear hk hf
  generalize oA k f = A at *
  generalize oZ k f = Z at *
  generalize oE k f = E at *
  generalize fN f = N at *
  generalize fB x f = P at *
  rcases hway with ⟨rfl, rfl⟩ | rfl
  all_goals
    go_enter Tryd.func7, Tryd.ntmps7
    go_wp2_with (first
      | (refine at_boxI (by rfl) _ (by rfl) x (by rfl) ?_; intro g1 w1 a1 z1 r1 b1; have t1 := hT.later b1)
      | (go_at_call 20; refine (hO _ t1).mono ?_; rintro e w2 ⟨rfl, b2⟩)
      | (go_at_call 21; refine (hR _).mono ?_; rintro e w3 ⟨rfl, b3⟩; have B3 := bnext b2 b3 (Nat.le_refl _); have r3 := r1.later B3; have t3 := t1.later B3)
      | (have _t := t1; refine at_getI (by rfl) _ (by rfl) g1 (by rfl) x r3 ?_; clear _t)
      | (go_at_call 22; refine (hF _ t3).mono ?_; rintro e w4 ⟨x4, c4, rfl, y4, b4⟩; have r4 := r3.later b4; clear t1)
      | (refine at_getI (by rfl) _ (by rfl) g1 (by rfl) x r4 ?_)
      | (go_at_call 23; refine (hG _).mono ?_; rintro e w5 ⟨x5, c5, rfl, y5, b5⟩; have y45 := y4.later b5; have t5 := (t3.later b4).later b5)
      | (go_at_call 11; refine (sameBytes_yes _ _ _ _ _ _ _ _ y45 y5).mono ?_; rintro e u ⟨rfl, rfl⟩)
      | (go_at_call 15; refine (works10_any _ t5).mono ?_; rintro e w6 ⟨rfl, b6⟩))
    go_returns
    exact ⟨rfl, bnext (bnext (bnext (bnext b1 B3 (Nat.le_refl _)) b4 (Nat.le_refl _)) b5 (Nat.le_refl _)) b6 (Nat.le_refl _)⟩
theorem own : ownKnob Tryd.prog.godebug = none := by kernel_rfl
theorem laidOut : laidOutB Tryd.prog = true := by kernel_rfl
theorem table {W : World} (h : laidMetH Tryd.prog Rows.inodeFieldsRow.laid W) : Tb W := tab_of_laid (by kernel_rfl) h
set_option maxRecDepth 100000 in
theorem contract (H : Type) (enc : TypeId × Value → H) (W : World) (base : Nat) (args : Array Value) (ds gs : List (DataW H)) (before : List MemPlace)
    (hval : ∀ (j : Nat) t v, Tryd.f7.params[j]? = some t → args[j]? = some v → Value.okWide Tryd.prog W .any base t v)
    (hW : DataW.Whole enc Tryd.prog Tryd.f7.params.toList Rows.inodeFieldsSpec.vars false W args.toList ds gs before) (hL : laidMetH Tryd.prog Rows.inodeFieldsRow.laid W) :
    Calls Tryd.prog 7 args W fun e W' => ∃ v, e = .returned v ∧ Rows.inodeFieldsSpec.post enc Tryd.prog Tryd.f7 false true false false W args v W' := by
  have hW' := hW
  obtain ⟨p, q, hA0, hV, rfl, hfz, hnd⟩ := hW
  have hA : DataW.TrodAll enc Tryd.prog W 0 (fun _ => true) true Tryd.f7.params.toList args.toList ds p := hA0
  rw [Tryd.params7] at hA hval
  obtain ⟨v0, vs0, d0, ds0, p0, q0, hargs, rfl, rfl, h0, r0⟩ := trodAll_cons hA
  obtain ⟨v1, vs1, d1, ds1, p1, q1, rfl, rfl, rfl, h1, r1⟩ := trodAll_cons r0
  obtain ⟨v2, vs2, d2, ds2, p2, q2, rfl, rfl, rfl, h2, r2⟩ := trodAll_cons r1
  obtain ⟨rfl, rfl, rfl⟩ := trodAll_nil r2
  obtain rfl : args = #[v0, v1, v2] := by cases args; simp_all
  obtain ⟨rfl, rfl⟩ := trodVars_none hV
  obtain ⟨a0, rfl, rfl, rfl, w0⟩ := open_int Tryd.underlying3 (hval 0 3 v0 rfl rfl) h0
  obtain ⟨a1, rfl, rfl, rfl, w1⟩ := open_int Tryd.underlying3 (hval 1 3 v1 rfl rfl) h1
  obtain ⟨cs2, rfl, _⟩ := okWide_struct Tryd.underlying26 (hval 2 26 v2 rfl rfl)
  have k2 := h2
  have lt2 : ∀ x ∈ p2, x.block < W.heap.size := by obtain ⟨m, hm⟩ := k2; exact DataW.trod_lt m _ _ _ hm
  obtain ⟨b2, e2⟩ : ∃ b : Ino, cs2 = b.cs.toArray := by
    obtain ⟨fuel, hf⟩ := h2
    obtain ⟨b, hb⟩ := inoOfTrod hf
    exact ⟨b, by rw [hb]; simp [Value.cells]⟩
  subst e2
  clear hA0
  refine (walk a0 a1 b2 W w0 w1 (table hL)).mono fun e W' ⟨he, bel⟩ => ?_
  subst he
  exact ⟨_, rfl, _, _, _, [], _, [], hW', trodAll_mk1 (shut_bool Tryd.underlying4 _), (trodAll_cons_mk (shut_int Tryd.underlying3 w0) (trodAll_cons_mk (shut_int Tryd.underlying3 w1) (trodAll_cons_mk (Below.trod laidOut (by kernel_rfl) (of_decide_eq_true (by kernel_rfl)) k2 bel lt2) trodAll_mk0))), rfl, bel.frame _, fun h => by cases h⟩
theorem laid_met (os : Os) : laidMet Tryd.prog Rows.inodeFieldsRow.laid (({ World.holding Tryd.prog os ⟨#[], #[], []⟩ with heap := (World.holding Tryd.prog os ⟨#[], #[], []⟩).heap.modify 0 fun | .cells _ t frozen => .cells #[.int .i64 0, .int .i64 18, .int .i64 1, .int .i64 1, .int .i64 2, .int .i64 4, .int .i64 6, .int .i64 2, .int .i64 8, .int .i64 2, .int .i64 10, .int .i64 2, .int .i64 12, .int .i64 2, .int .i64 14, .int .i64 2, .int .i64 16, .int .i64 2, .int .i64 2, .int .i64 16] t frozen | o => o } : World).forCall (fun _ _ => 0) ⟨#[], #[.int .i64 0, .int .i64 0, .agg Ino.zero.cs.toArray], []⟩).memory :=
  laidMet_of_run' 8 (by kernel_rfl) (by kernel_rfl)
theorem reads (os : Os) {H : Type} (enc : TypeId × Value → H) : ∃ places, DataW.whole enc Tryd.prog (({ World.holding Tryd.prog os ⟨#[], #[], []⟩ with heap := (World.holding Tryd.prog os ⟨#[], #[], []⟩).heap.modify 0 fun | .cells _ t frozen => .cells #[.int .i64 0, .int .i64 18, .int .i64 1, .int .i64 1, .int .i64 2, .int .i64 4, .int .i64 6, .int .i64 2, .int .i64 8, .int .i64 2, .int .i64 10, .int .i64 2, .int .i64 12, .int .i64 2, .int .i64 14, .int .i64 2, .int .i64 16, .int .i64 2, .int .i64 2, .int .i64 16] t frozen | o => o } : World).forCall (fun _ _ => 0) ⟨#[], #[.int .i64 0, .int .i64 0, .agg Ino.zero.cs.toArray], []⟩).memory Tryd.f7.params.toList Rows.inodeFieldsSpec.vars false (#[.int .i64 0, .int .i64 0, .agg Ino.zero.cs.toArray] : Array Value).toList 8 = some ([.lit (.int .i64 0), .lit (.int .i64 0), .agg [.lit (.int .u8 0), .lit (.int .u8 0), .lit (.int .u32 0), .agg [.lit (.int .u16 0), .lit (.int .u16 0), .lit (.int .u16 0), .lit (.int .u16 0)], .lit (.int .u16 0), .lit (.int .u16 0)]], [], places) :=
  ⟨[], by kernel_rfl⟩
set_option maxRecDepth 100000 in
theorem lifted (os : Os) (started : os.Started) (H : Type) (enc : TypeId × Value → H) (F : Stop.Interp) :
    ReturnsInHanded {} Tryd.checked os 7 .any ((OpenSpec.ofChange Rows.inodeFieldsSpec).preRow enc Tryd.prog Tryd.f7 Rows.inodeFieldsRow.domain false Rows.inodeFieldsRow.laid) (((OpenSpec.ofChange Rows.inodeFieldsSpec).at F).post enc Tryd.prog Tryd.f7 false true false false) := by
  obtain ⟨places, hx⟩ := reads os enc
  refine returnsInHanded_of_row (C := Tryd.checked) (s := OpenSpec.ofChange Rows.inodeFieldsSpec) own started (by kernel_rfl) Tryd.func7
    (witness_row_at (enc := enc) (C := Tryd.checked) false ({ World.holding Tryd.prog os ⟨#[], #[], []⟩ with heap := (World.holding Tryd.prog os ⟨#[], #[], []⟩).heap.modify 0 fun | .cells _ t frozen => .cells #[.int .i64 0, .int .i64 18, .int .i64 1, .int .i64 1, .int .i64 2, .int .i64 4, .int .i64 6, .int .i64 2, .int .i64 8, .int .i64 2, .int .i64 10, .int .i64 2, .int .i64 12, .int .i64 2, .int .i64 14, .int .i64 2, .int .i64 16, .int .i64 2, .int .i64 2, .int .i64 16] t frozen | o => o } : World) #[.int .i64 0, .int .i64 0, .agg Ino.zero.cs.toArray] rfl (by kernel_rfl) (by kernel_rfl) (by kernel_rfl)
      (OpenSpec.preRow_of_cond 8 hx (by kernel_rfl) (fun k hk => by cases hk) (by kernel_rfl) (laid_met os))) ?_
  intro W base args ds gs before hval hW _ _ _ hL _ _
  exact contract H enc W base args ds gs before hval hW hL
theorem said : Rows.InodeFieldsSaid :=
  OpenClaim.holds_of_cond 7 Tryd.f7 rfl rfl rfl rfl rfl rfl rfl ⟨rfl, rfl, rfl, rfl, rfl⟩ rfl rfl rfl rfl rfl (by kernel_rfl) Tryd.func7 (by kernel_rfl)
    (of_decide_eq_true (by kernel_rfl)) (by unfold Func.isWrapper; first | (rw [if_pos (by decide +kernel)]; kernel_rfl) | (rw [if_neg (by decide +kernel)]; exact ⟨rfl, rfl⟩))
    (fun os started H enc _ F => by rw [OpenClaim.pre_eq_preRow]; exact lifted os started H enc F)
theorem plain (f : FuncId) (fn : Func) (hf : Tryd.pinned.checked.prog.funcNamed Rows.inodeFieldsRow.func = some f) (hfn : Tryd.pinned.checked.prog.funcs[f]? = some fn) :
    false = Tryd.pinned.checked.prog.looks [] ∧ ∀ (j : Nat) t, fn.params[j]? = some t → Tryd.pinned.checked.prog.wantsStandIn t = false := by
  obtain rfl : f = 7 := Option.some.inj ((show Tryd.prog.funcNamed Rows.inodeFieldsRow.func = some 7 by kernel_rfl).symm.trans hf) |>.symm
  obtain rfl : fn = Tryd.f7 := (Option.some.inj (Tryd.func7.symm.trans hfn)).symm
  refine ⟨by kernel_rfl, fun j t ht => ?_⟩
  rw [Tryd.params7] at ht
  have hm := Array.mem_of_getElem? ht
  have hm2 : t ∈ ([3, 3, 26] : List TypeId) := by simpa using hm
  have ha : ([3, 3, 26] : List TypeId).all (fun t => !Tryd.prog.wantsStandIn t) = true := by kernel_rfl
  have := List.all_eq_true.1 ha t hm2
  exact (show Tryd.prog.wantsStandIn t = false by simpa using this)
end Go.Proofs.YtbpnegklglaekaaDoor.inodeFields
namespace Go.Proofs.YtbpnegklglaekaaDoor
/-- The statement. -/
theorem inodeFields_holds : Rows.InodeFieldsCardSaid :=
  Claim7.holds_tied_plain_at .later [] _ _ _ _ inodeFields.said (fun _ h => by cases h) (by kernel_rfl) (fun _ h => by cases h) inodeFields_row_tie rfl ⟨rfl, rfl⟩ (by kernel_rfl) rfl inodeFields.plain (by kernel_rfl)
#print axioms inodeFields_holds
end Go.Proofs.YtbpnegklglaekaaDoor
