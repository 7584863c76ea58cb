/-
  The statement ItabVoid, proved: for every number and every inode the law returns true, where the order of the words' writes and the table of the fields' places are laid as the program's text lays them (the card ties both); no other condition.
-/
import Derived.Test.YtgdnhkdfcjpdiaaGreatDoorCards
import Derived.Test.YtgdnhkdfcjpdiaaGreatDoorTie
import Derived.Stop.LaidErr
import Derived.Deep.DeepHandedRow
import Derived.Lib.LaidTab
import Derived.Test.YtgdnhkdfcjpdiaaGreatDoorJbw
import Derived.Test.YtgdnhkdfcjpdiaaGreatDoorJbx
set_option linter.unusedSimpArgs false
set_option linter.unusedVariables false
namespace Go.Proofs.YtgdnhkdfcjpdiaaGreatDoor.itabVoid
open Go.ChangeShapes Go.WideShapes Go.ChangeAt Go.RowKit
set_option linter.unusedVariables false
theorem own : ownKnob Tryz.prog.godebug = none := by kernel_rfl
theorem laidOut : laidOutB Tryz.prog = true := by kernel_rfl
theorem gTabType : (Tryz.prog.globals[1]?).map (·.type) = some 211 := by kernel_rfl
theorem cellsA : Tryz.prog.cellsOf 211 = 3 := by kernel_rfl
theorem cellsE : Tryz.prog.cellsOf 3 = 1 := by kernel_rfl
theorem rowOf {W : World} {nm : String} (hn : Tryz.prog.globalNamed nm = some 1) (h : laidMet Tryz.prog [(nm, Lib.tabData .i64 [1, 0, 2])] W) : ∀ i, i < 3 → W.cell? ⟨1, i, none⟩ = some (.int .i64 ([1, 0, 2].getD i 0)) :=
  fun i hi => (Lib.tabIs_of_head (rest := []) hn gTabType Tryz.underlying211 Tryz.underlying3 cellsE cellsA h).cell hn i hi
theorem table {W : World} (h : laidMetH Tryz.prog Rows.itabVoidRow.laid W) : Tb W ∧ ∀ i, i < 3 → W.cell? ⟨1, i, none⟩ = some (.int .i64 ([1, 0, 2].getD i 0)) :=
  ⟨tab_of_laid (by kernel_rfl) h, rowOf (by kernel_rfl) (laidMet.tail h)⟩
set_option maxRecDepth 100000 in
theorem contract (H : Type) (enc : TypeId × Value → H) (W : World) (base : Nat) (args : Array Value) (ds gs : List (DataW H)) (before : List MemPlace)
    (hval : ∀ (j : Nat) t v, Tryz.f3.params[j]? = some t → args[j]? = some v → Value.okWide Tryz.prog W .any base t v)
    (hW : DataW.Whole enc Tryz.prog Tryz.f3.params.toList Rows.itabVoidSpec.vars false W args.toList ds gs before) (hL : laidMetH Tryz.prog Rows.itabVoidRow.laid W) :
    Calls Tryz.prog 3 args W fun e W' => ∃ v, e = .returned v ∧ Rows.itabVoidSpec.post enc Tryz.prog Tryz.f3 false true false false W args v W' := by
  have hW' := hW
  obtain ⟨p, q, hA0, hV, rfl, hfz, hnd⟩ := hW
  have hA : DataW.TrodAll enc Tryz.prog W 0 (fun _ => true) true Tryz.f3.params.toList args.toList ds p := hA0
  rw [Tryz.params3] at hA hval
  obtain ⟨v0, vs0, d0, ds0, p0, q0, hargs, rfl, rfl, h0, r0⟩ := trodAll_cons hA
  obtain ⟨v1, vs1, d1, ds1, p1, q1, rfl, rfl, rfl, h1, r1⟩ := trodAll_cons r0
  obtain ⟨rfl, rfl, rfl⟩ := trodAll_nil r1
  obtain rfl : args = #[v0, v1] := by cases args; simp_all
  obtain ⟨rfl, rfl⟩ := trodVars_none hV
  obtain ⟨a0, rfl, rfl, rfl, w0⟩ := open_int Tryz.underlying3 (hval 0 3 v0 rfl rfl) h0
  obtain ⟨cs1, rfl, _⟩ := okWide_struct Tryz.underlying26 (hval 1 26 v1 rfl rfl)
  have k1 := h1
  have lt1 : ∀ x ∈ p1, x.block < W.heap.size := by obtain ⟨m, hm⟩ := k1; exact DataW.trod_lt m _ _ _ hm
  obtain ⟨b1, e1⟩ : ∃ b : Ino, cs1 = b.cs.toArray := by
    obtain ⟨fuel, hf⟩ := h1
    obtain ⟨b, hb⟩ := inoOfTrod hf
    exact ⟨b, by rw [hb]; simp [Value.cells]⟩
  subst e1
  clear hA0
  refine (walk a0 b1 W w0 (table hL).1 (table hL).2).mono fun e W' ⟨he, bel⟩ => ?_
  subst he
  exact ⟨_, rfl, _, _, _, [], _, [], hW', trodAll_mk1 (shut_bool Tryz.underlying4 _), (trodAll_cons_mk (shut_int Tryz.underlying3 w0) (trodAll_cons_mk (Below.trod laidOut (by kernel_rfl) (of_decide_eq_true (by kernel_rfl)) k1 bel lt1) trodAll_mk0)), rfl, bel.frame _, fun h => by cases h⟩
theorem laid_met (os : Os) : laidMet Tryz.prog Rows.itabVoidRow.laid (({ World.holding Tryz.prog os ⟨#[], #[], []⟩ with heap := ((World.holding Tryz.prog os ⟨#[], #[], []⟩).heap.modify 0 fun | .cells _ t frozen => .cells #[.int .i64 0, .int .i64 18, .int .i64 1, .int .i64 1, .int .i64 2, .int .i64 4, .int .i64 6, .int .i64 2, .int .i64 8, .int .i64 2, .int .i64 10, .int .i64 2, .int .i64 12, .int .i64 2, .int .i64 14, .int .i64 2, .int .i64 16, .int .i64 2, .int .i64 2, .int .i64 16] t frozen | o => o).modify 1 fun | .cells _ t frozen => .cells #[.int .i64 1, .int .i64 0, .int .i64 2] t frozen | o => o } : World).forCall (fun _ _ => 0) ⟨#[], #[.int .i64 0, .agg Ino.zero.cs.toArray], []⟩).memory :=
  laidMet_of_run' 8 (by kernel_rfl) (by kernel_rfl)
theorem reads (os : Os) {H : Type} (enc : TypeId × Value → H) : ∃ places, DataW.whole enc Tryz.prog (({ World.holding Tryz.prog os ⟨#[], #[], []⟩ with heap := ((World.holding Tryz.prog os ⟨#[], #[], []⟩).heap.modify 0 fun | .cells _ t frozen => .cells #[.int .i64 0, .int .i64 18, .int .i64 1, .int .i64 1, .int .i64 2, .int .i64 4, .int .i64 6, .int .i64 2, .int .i64 8, .int .i64 2, .int .i64 10, .int .i64 2, .int .i64 12, .int .i64 2, .int .i64 14, .int .i64 2, .int .i64 16, .int .i64 2, .int .i64 2, .int .i64 16] t frozen | o => o).modify 1 fun | .cells _ t frozen => .cells #[.int .i64 1, .int .i64 0, .int .i64 2] t frozen | o => o } : World).forCall (fun _ _ => 0) ⟨#[], #[.int .i64 0, .agg Ino.zero.cs.toArray], []⟩).memory Tryz.f3.params.toList Rows.itabVoidSpec.vars false (#[.int .i64 0, .agg Ino.zero.cs.toArray] : Array Value).toList 8 = some ([.lit (.int .i64 0), .agg [.lit (.int .u8 0), .lit (.int .u8 0), .lit (.int .u32 0), .agg [.lit (.int .u16 0), .lit (.int .u16 0), .lit (.int .u16 0), .lit (.int .u16 0)], .lit (.int .u16 0), .lit (.int .u16 0)]], [], places) :=
  ⟨[], by kernel_rfl⟩
set_option maxRecDepth 100000 in
theorem lifted (os : Os) (started : os.Started) (H : Type) (enc : TypeId × Value → H) (F : Stop.Interp) :
    ReturnsInHanded {} Tryz.checked os 3 .any ((OpenSpec.ofChange Rows.itabVoidSpec).preRow enc Tryz.prog Tryz.f3 Rows.itabVoidRow.domain false Rows.itabVoidRow.laid) (((OpenSpec.ofChange Rows.itabVoidSpec).at F).post enc Tryz.prog Tryz.f3 false true false false) := by
  obtain ⟨places, hx⟩ := reads os enc
  refine returnsInHanded_of_row (C := Tryz.checked) (s := OpenSpec.ofChange Rows.itabVoidSpec) own started (by kernel_rfl) Tryz.func3
    (witness_row_at (enc := enc) (C := Tryz.checked) false ({ World.holding Tryz.prog os ⟨#[], #[], []⟩ with heap := ((World.holding Tryz.prog os ⟨#[], #[], []⟩).heap.modify 0 fun | .cells _ t frozen => .cells #[.int .i64 0, .int .i64 18, .int .i64 1, .int .i64 1, .int .i64 2, .int .i64 4, .int .i64 6, .int .i64 2, .int .i64 8, .int .i64 2, .int .i64 10, .int .i64 2, .int .i64 12, .int .i64 2, .int .i64 14, .int .i64 2, .int .i64 16, .int .i64 2, .int .i64 2, .int .i64 16] t frozen | o => o).modify 1 fun | .cells _ t frozen => .cells #[.int .i64 1, .int .i64 0, .int .i64 2] t frozen | o => o } : World) #[.int .i64 0, .agg Ino.zero.cs.toArray] rfl (by kernel_rfl) (by kernel_rfl) (by kernel_rfl)
      (OpenSpec.preRow_of_cond 8 hx (by kernel_rfl) (fun k hk => by cases hk) (by kernel_rfl) (laid_met os))) ?_
  intro W base args ds gs before hval hW _ _ _ hL _ _
  exact contract H enc W base args ds gs before hval hW hL
theorem said : Rows.ItabVoidSaid :=
  OpenClaim.holds_of_cond 3 Tryz.f3 rfl rfl rfl rfl rfl rfl rfl ⟨rfl, rfl, rfl, rfl, rfl⟩ rfl rfl rfl rfl rfl (by kernel_rfl) Tryz.func3 (by kernel_rfl)
    (of_decide_eq_true (by kernel_rfl)) (by unfold Func.isWrapper; first | (rw [if_pos (by decide +kernel)]; kernel_rfl) | (rw [if_neg (by decide +kernel)]; exact ⟨rfl, rfl⟩))
    (fun os started H enc _ F => by rw [OpenClaim.pre_eq_preRow]; exact lifted os started H enc F)
theorem plain (f : FuncId) (fn : Func) (hf : Tryz.pinned.checked.prog.funcNamed Rows.itabVoidRow.func = some f) (hfn : Tryz.pinned.checked.prog.funcs[f]? = some fn) :
    false = Tryz.pinned.checked.prog.looks [] ∧ ∀ (j : Nat) t, fn.params[j]? = some t → Tryz.pinned.checked.prog.wantsStandIn t = false := by
  obtain rfl : f = 3 := Option.some.inj ((show Tryz.prog.funcNamed Rows.itabVoidRow.func = some 3 by kernel_rfl).symm.trans hf) |>.symm
  obtain rfl : fn = Tryz.f3 := (Option.some.inj (Tryz.func3.symm.trans hfn)).symm
  refine ⟨by kernel_rfl, fun j t ht => ?_⟩
  rw [Tryz.params3] at ht
  have hm := Array.mem_of_getElem? ht
  have hm2 : t ∈ ([3, 26] : List TypeId) := by simpa using hm
  have ha : ([3, 26] : List TypeId).all (fun t => !Tryz.prog.wantsStandIn t) = true := by kernel_rfl
  have := List.all_eq_true.1 ha t hm2
  exact (show Tryz.prog.wantsStandIn t = false by simpa using this)
end Go.Proofs.YtgdnhkdfcjpdiaaGreatDoor.itabVoid
namespace Go.Proofs.YtgdnhkdfcjpdiaaGreatDoor
/-- The statement. -/
theorem itabVoid_holds : Rows.ItabVoidCardSaid :=
  Claim7.holds_tied_plain_at .later [] _ _ _ _ itabVoid.said (fun _ h => by cases h) (by kernel_rfl) (fun _ h => by cases h) itabVoid_row_tie rfl ⟨rfl, rfl⟩ (by kernel_rfl) rfl itabVoid.plain (by kernel_rfl)
#print axioms itabVoid_holds
end Go.Proofs.YtgdnhkdfcjpdiaaGreatDoor
