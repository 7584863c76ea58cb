/-
  What Used of layer 11 returns, for every load: no statement is proved here.
-/
import Derived.Test.YtaahljjmofjdmaaPtrE
namespace Go.Proofs.Ytaahljjmofjdmaa
open Go.ChangeShapes Go.WideShapes Go.ChangeAt Go.RowKit Go.Shelf
set_option linter.unusedVariables false
attribute [local go_sem] Oper.semAt_some

theorem box_later {w w' : World} {g t : Nat} {v : Value} (h : Boxed w g t v) (k : Below w.heap.size w w') : Boxed w' g t v := (k.block g h.lt).trans h
theorem bxL_own {β : Type} (B g : Nat) (p : Ld) : OwnFrom B (fun (_ : β) W => BxL W g p) := fun s A A' row hs hg hr => (hg.block g hs.lt (fun e => by
  obtain ⟨_, o, ho, hc⟩ := hr g e.symm
  rw [show A.heap[g]? = _ from hs] at ho; cases ho; cases hc)).trans hs
theorem boxF_own {β : Type} (B g t : Nat) (v : β → Value) : OwnFrom B (fun (s : β) W => Boxed W g t (v s)) := fun s A A' row hs hg hr => (hg.block g hs.lt (fun e => by
  obtain ⟨_, o, ho, hc⟩ := hr g e.symm
  rw [show A.heap[g]? = _ from hs] at ho; cases ho; cases hc)).trans hs
theorem belF_own {β : Type} (B : Nat) (w : World) (h : w.heap.size ≤ B) : OwnFrom B (fun (_ : β) W => Below w.heap.size w W) := fun s A A' row hs hg hr => hs.grown hg hs.size (fun k e => Nat.le_trans h (hr k e).1)
theorem kg_put (g : Nat) {w : World} (hg : g < w.heap.size) (W : World) (l : Nat) (o o' : Obj) (hl : w.heap.size ≤ l) (h : W.heap[l]? = some o) (h1 : o.isCells = false) (h2 : o.isWalk = false) : Kg g W (W.putObj l o') := by
  have hb := grownBy_putObj' W l o'
  refine ⟨hb.size, ?_⟩
  have hlt := (Array.getElem?_eq_some_iff.1 h).1
  exact hb.block g (by omega) (fun e => by injection e with e; omega)
set_option maxRecDepth 100000 in
set_option maxHeartbeats 2000000 in
theorem used_any (p : Ld) (w : World) : Calls Try.prog 13 #[.agg p.cs.toArray] w fun e w' => e = .returned (.int .i64 ((usedP (allP p 27) : Nat) : Int)) ∧ Below w.heap.size w w' := by
  refine (callsIn_wide (n := 3)).1 ?_
  have hf1 : Fence.wide.fn 27 := trivial
  refine callsIn_of_wp_marks Try.func13 rfl trivial ?_ rfl
  simp only [Try.ntmps13, List.size_toArray, List.length_cons, List.length_nil, Nat.reduceAdd, Nat.reduceSub, Array.replicate_succ, Array.replicate_zero, List.push_toArray, List.append_toArray, List.nil_append, List.cons_append]
  gi_wp2_with (first
    | (refine atI_boxL wide_fn (by rfl) _ (by rfl) p (by rfl) ?_; intro g1 w1 a1 r1 b1
       have r2 := r1.later ((Below.refl _ w1).alloc (Nat.le_refl _) (.cells #[.int .i64 0] 3))
       have u2 := Boxed.new w1 3 (.int .i64 0)
       have b2 : Below w1.heap.size w1 (w1.alloc (.cells #[.int .i64 0] 3)) := (Below.refl _ w1).alloc (Nat.le_refl _) _)
    | (refine atI_getL wide_fn (by rfl) _ (by rfl) g1 (by rfl) p r2 ?_)
    | (gi_at_call 27; refine (callsIn_wide.2 (pointers_any p _)).mono ?_; rintro e w3 ⟨gp, rfl, hgp, rP, b3⟩))
  have u3 := box_later u2 b3
  have B3 := bnext (bnext b1 b2 (Nat.le_refl _)) b3 (Nat.le_refl _)
  have hgu : w.heap.size ≤ w1.heap.size := b1.size
  have hne : ¬ w1.heap.size = gp := by have := u2.lt; omega
  have hlt := rP.lt
  clear r2 u2 b3 b2 b1 r1 a1 hgp
  generalize w1.heap.size = gu at *
  refine wpIn_rangeFunc_ownG (by rfl) (by omega) (gf := 31) (lb := #[.pointer (some ⟨gp, 0, none⟩)]) rfl trivial (enters_of Try.func31 (by kernel_rfl) rfl)
    (pointers_stops p gp (3 - 1) (by omega) w3 rP) Kg.trans (kg_put gp hlt) (Below.refl _ _) (fun _ => rfl)
    (fun pre W => Boxed W gu 3 (.int .i64 ((usedP pre : Nat) : Int)) ∧ BxL W gp p ∧ Below w.heap.size w W)
    (fun _ _ _ => False)
    (OwnFrom.and (boxF_own _ gu 3 (fun pre : List UInt16 => Value.int .i64 ((usedP pre : Nat) : Int))) (OwnFrom.and (bxL_own _ gp p) (belF_own _ w B3.size)))
    (fun _ _ _ _ _ hs _ _ => hs)
    ⟨u3, rP, B3⟩
    (fun x => { tmps := #[.agg p.cs.toArray, .pointer (some ⟨g1, 0, none⟩), .int .i64 0, .pointer (some ⟨gu, 0, none⟩), .int .u16 (x.toNat : Int), .agg p.cs.toArray, .func (.func 31) #[] #[.pointer (some ⟨gp, 0, none⟩)], .int .u16 (x.toNat : Int), undef, undef, undef, undef, undef], defers := [] }) ?assign ?body ?done ?stop
  case assign =>
    intro l x W K hK
    gi_wp2
    exact hK
  case body =>
    rintro l pre x W ⟨hu, hx, hB⟩ hl
    have hc := hu.cell
    have hf := hu.frozen
    have hle := usedP_le pre
    have hs := usedP_snoc pre x
    have e1 : IntKind.i64.wrap (((usedP pre : Nat) : Int) + 1) = ((usedP pre : Nat) : Int) + 1 := i64_small (by omega) (by omega)
    by_cases h0 : x.toNat = 0
    · rw [if_pos h0] at hs
      have h0' : (x.toNat : Int) = 0 := by omega
      gi_wp2
      refine ⟨KeepsFrom.refl _ _, ⟨Nat.le_refl _, rfl⟩, ?_, hx, hB⟩
      show Boxed W gu 3 (.int .i64 ((usedP (pre ++ [x]) : Nat) : Int))
      rw [hs]; exact hu
    · rw [if_neg h0] at hs
      have h0' : ((x.toNat : Int) != 0) = true := by rw [bne_iff_ne]; omega
      have hg := grownBy_setCell' W gu (.int .i64 (((usedP pre : Nat) : Int) + 1))
      have hk : Kg gp W _ := ⟨hg.size, hg.block gp hx.lt (fun e => by injection e with e; exact hne e.symm)⟩
      gi_wp2
      refine ⟨(KeepsOthers.setCell _ _ _).from _, hk, ?_, hk.bx hx, hB.setCell (p := ⟨gu, 0, none⟩) hgu _⟩
      show Boxed _ gu 3 (.int .i64 ((usedP (pre ++ [x]) : Nat) : Int))
      rw [hs, Int.natCast_add]
      exact hu.set _
  case done =>
    rintro D ys W hD rfl ⟨hu, hx, hB⟩ hK
    have hc := hu.cell
    gi_wp2
    refine ⟨by simp, .inl ⟨_, _, rfl, run_takeDeferred hK, ?_⟩⟩
    exact ⟨_, results_tmp rfl _ _ _, rfl, hB.trans (belowK_b (w := w) (Nat.le_refl _) W D _ _ (by have := B3.size; omega) hK rfl rfl)⟩
  case stop =>
    rintro D c pre W _ _ h _
    exact h.elim
end Go.Proofs.Ytaahljjmofjdmaa
