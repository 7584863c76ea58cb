/-
  What All of layer 11 returns, for every load: no statement is proved here.
-/
import Derived.Test.YtaahljjmofjdmaaPtrF
namespace Go.Proofs.Ytaahljjmofjdmaa
open Go.ChangeShapes Go.WideShapes Go.ChangeAt Go.RowKit Go.Shelf
set_option linter.unusedVariables false
attribute [local go_sem] Oper.semAt_some

theorem info16 : (Try.prog.info? 24).map (fun i => (i.zero, i.size, i.bytes)) = some (some (.int .u16 0), 1, 2) := by kernel_rfl
def c16 (x : UInt16) : Value := .int .u16 (x.toNat : Int)
/-- A slice of numbers of two bytes, of one's own. -/
def Ow2 (B : Nat) (w : World) (g cap : Nat) (l : List UInt16) : Prop := w.ownsRow B 24 1 (.slice (some ⟨g, 0, none⟩) l.length cap) l.length (l.map c16)
theorem Ow2.there {B : Nat} {w : World} {g cap : Nat} {l : List UInt16} (h : Ow2 B w g cap l) : B ≤ g ∧ ∃ cur, w.heap[g]? = some (.cells cur 24 (0, 0)) ∧ cur.toList.take l.length = l.map c16 := by
  rcases h.2 with ⟨e, _⟩ | ⟨g', c', cur, e1, e2, e3, e4, e5, e6, e7⟩
  · injection e with e; cases e
  · injection e1 with e1
    injection e1 with e1
    injection e1 with e1
    subst e1
    rw [Nat.mul_one] at e7
    exact ⟨e2, cur, e3, e7⟩
theorem Ow2.lt {B : Nat} {w : World} {g cap : Nat} {l : List UInt16} (h : Ow2 B w g cap l) : g < w.heap.size := by
  obtain ⟨_, cur, e, _⟩ := h.there
  exact (Array.getElem?_eq_some_iff.1 e).1
theorem ow2_own {β : Type} (K B g cap : Nat) (f : β → List UInt16) : OwnFrom K (fun (s : β) W => Ow2 B W g cap (f s)) := fun s A A' row hs hg hr => World.ownsRow.kept hs hg (.inr (fun e => by
  obtain ⟨_, o, ho, hc⟩ := hr g e.symm
  obtain ⟨_, cur, e3, _⟩ := hs.there
  rw [e3] at ho; cases ho; cases hc))
set_option maxRecDepth 100000 in
set_option maxHeartbeats 2000000 in
theorem all_any (p : Ld) (w : World) : Calls Try.prog 11 #[.agg p.cs.toArray] w fun e w' => ∃ g, e = .returned (.slice (some ⟨g, 0, none⟩) 27 27) ∧ Ow2 w.heap.size w' g 27 (allP p 27) ∧ Below w.heap.size w w' := by
  refine (callsIn_wide (n := 3)).1 ?_
  obtain ⟨i0, hi, hz0, hz1, hz2⟩ := info_parts info16
  have hf1 : Fence.wide.fn 27 := trivial
  refine callsIn_of_wp_marks Try.func11 rfl trivial ?_ rfl
  simp only [Try.ntmps11, List.size_toArray, List.length_cons, List.length_nil, Nat.reduceAdd, Nat.reduceSub, Array.replicate_succ, Array.replicate_zero, List.push_toArray, List.append_toArray, List.nil_append, List.cons_append]
  gi_wp2_with (first
    | (refine atI_boxL wide_fn (by rfl) _ (by rfl) p (by rfl) ?_; intro g1 w1 a1 r1 b1)
    | (gi_at_make; refine wpListIn_make_own _ rfl _ _ 30 rfl w.heap.size 24 i0 (.int .u16 0) 1 Try.underlying30 hi hz0 hz1 .i64 .i64 27 27 rfl rfl rfl (by rw [hz2]; decide) (by decide) b1.size ?_; intro w2 o2 gr2
       have b2 : Below w1.heap.size w1 w2 := (Below.refl _ w1).grown gr2 (Nat.le_refl _) (fun k e => by cases e)
       have r2 := (r1.later b2).later ((Below.refl _ w2).alloc (Nat.le_refl _) (.cells #[.slice (some ⟨w1.heap.size, 0, none⟩) 0 27] 30))
       have u2 := Boxed.new w2 30 (.slice (some ⟨w1.heap.size, 0, none⟩) 0 27)
       have b3 : Below w2.heap.size w2 (w2.alloc (.cells #[.slice (some ⟨w1.heap.size, 0, none⟩) 0 27] 30)) := (Below.refl _ w2).alloc (Nat.le_refl _) _)
    | (refine atI_getL wide_fn (by rfl) _ (by rfl) g1 (by rfl) p r2 ?_)
    | (gi_at_call 27; refine (callsIn_wide.2 (pointers_any p _)).mono ?_; rintro e w4 ⟨gp, rfl, hgp, rP, b4⟩))
  have B3 := bnext (bnext b1 b2 (Nat.le_refl _)) b3 (Nat.le_refl _)
  have B4 := bnext B3 b4 (Nat.le_refl _)
  have u4 := box_later u2 b4
  have q2 : Ow2 w.heap.size w2 w1.heap.size 27 [] := o2
  have q4 : Ow2 w.heap.size w4 w1.heap.size 27 [] := World.ownsRow.kept (World.ownsRow.kept q2 (grown_of b3) (.inr (fun e => by simp [Value.ownBlock] at e))) (grown_of b4) (.inr (fun e => by simp [Value.ownBlock] at e))
  have hs : w1.heap.size < w2.heap.size := q2.lt
  have hbp : w2.heap.size < gp := by have := u2.lt; omega
  have hgs : w.heap.size ≤ w1.heap.size := b1.size
  have hlt := rP.lt
  clear r2 u2 q2 o2 gr2 b4 b3 b2 b1 r1 a1 hgp B3
  generalize w1.heap.size = gs at *
  generalize w2.heap.size = gb at *
  refine wpIn_rangeFunc_ownG (by rfl) (by omega) (gf := 31) (lb := #[.pointer (some ⟨gp, 0, none⟩)]) rfl trivial (enters_of Try.func31 (by kernel_rfl) rfl)
    (pointers_stops p gp (3 - 1) (by omega) w4 rP) Kg.trans (kg_put gp hlt) (Below.refl _ _) (fun _ => rfl)
    (fun pre W => Ow2 w.heap.size W gs 27 pre ∧ Boxed W gb 30 (.slice (some ⟨gs, 0, none⟩) pre.length 27) ∧ BxL W gp p ∧ Below w.heap.size w W)
    (fun _ _ _ => False)
    (OwnFrom.and (ow2_own _ w.heap.size gs 27 (fun pre : List UInt16 => pre)) (OwnFrom.and (boxF_own _ gb 30 (fun pre : List UInt16 => Value.slice (some ⟨gs, 0, none⟩) pre.length 27)) (OwnFrom.and (bxL_own _ gp p) (belF_own _ w B4.size))))
    (fun _ _ _ _ _ hs _ _ => hs)
    ⟨q4, u4, rP, B4⟩
    (fun x => { tmps := #[.agg p.cs.toArray, .pointer (some ⟨g1, 0, none⟩), .slice none 0 0, .pointer (some ⟨gb, 0, none⟩), .int .u16 (x.toNat : Int), .slice (some ⟨gs, 0, none⟩) 0 27, .agg p.cs.toArray, .func (.func 31) #[] #[.pointer (some ⟨gp, 0, none⟩)], .int .u16 (x.toNat : Int), undef, undef, undef, undef, undef], defers := [] }) ?assign ?body ?done ?stop
  case assign =>
    intro l x W K hK
    gi_wp2
    exact hK
  case body =>
    rintro l pre x W ⟨hq, hu, hx, hB⟩ hl
    have hc := hu.cell
    gi_wp2_with (first
      | (gi_at_builtin; refine wpListIn_append_fits _ rfl _ _ 30 rfl w.heap.size 24 i0 1 Try.underlying30 hi hz1 gs pre.length 27 (pre.map c16) rfl (World.ownsRow.alloc hq _) ⟨W.heap.size, 0, none⟩ 1 1 [.int .u16 (x.toNat : Int)] rfl rfl (cell_one_new _ _ _) (by simp [Value.oneCell']) (by omega) ?_; intro v1 ho1 hg1
         have hu1 : Boxed v1 gb 30 (.slice (some ⟨gs, 0, none⟩) pre.length 27) := (hu.alloc _).kept hg1 (fun e => by injection e with e; omega)
         have hc1 := hu1.cell
         have hf1 := hu1.frozen))
    have b1 : Below W.heap.size W (W.alloc (.cells #[.int .u16 (x.toNat : Int)] 24)) := (Below.refl _ W).alloc (Nat.le_refl _) _
    have hg2 := grownBy_setCell' v1 gb (.slice (some ⟨gs, 0, none⟩) (pre.length + 1) 27)
    have hgx : gp < (W.alloc (.cells #[.int .u16 (x.toNat : Int)] 24)).heap.size := Nat.lt_of_lt_of_le hx.lt b1.size
    have hk : Kg gp W (v1.setCell ⟨gb, 0, none⟩ (.slice (some ⟨gs, 0, none⟩) (pre.length + 1) 27)) := by
      refine ⟨Nat.le_trans b1.size (Nat.le_trans hg1.size hg2.size), ?_⟩
      rw [hg2.block gp (Nat.lt_of_lt_of_le hgx hg1.size) (fun e => by injection e with e; omega), hg1.block gp hgx (fun e => by injection e with e; omega), b1.block gp hx.lt]
    have hB2 : Below w.heap.size W (v1.setCell ⟨gb, 0, none⟩ (.slice (some ⟨gs, 0, none⟩) (pre.length + 1) 27)) :=
      (((Below.refl w.heap.size W).alloc hB.size _).grown hg1 (Nat.le_trans hB.size b1.size) (fun k e => by injection e with e; omega)).setCell (p := ⟨gb, 0, none⟩) (by show w.heap.size ≤ gb; omega) _
    refine ⟨?_, hk, ?_, ?_, hk.bx hx, hB.trans hB2⟩
    · refine (((KeepsOthers.alloc W _).trans (KeepsOthers.of_grownBy hg1 fun j o ej hj => ?_)).trans (KeepsOthers.setCell _ _ _)).from _
      injection ej with ej
      subst ej
      obtain ⟨_, cur, e3, _⟩ := Ow2.there (show Ow2 w.heap.size _ gs 27 pre from World.ownsRow.alloc hq (.cells #[.int .u16 (x.toNat : Int)] 24))
      rw [e3] at hj; cases hj; rfl
    · have := World.ownsRow.kept ho1 hg2 (.inr (fun e => by simp [Value.ownBlock] at e; omega))
      show World.ownsRow _ _ _ _ _ _ _
      simpa [c16] using this
    · show Boxed _ gb _ (.slice (some ⟨gs, 0, none⟩) (pre ++ [x]).length 27)
      rw [List.length_append]
      exact hu1.set _
  case done =>
    rintro D ys W hD rfl ⟨hq, hu, hx, hB⟩ hK
    have hc := hu.cell
    gi_wp2
    refine ⟨by simp, .inl ⟨_, _, rfl, run_takeDeferred hK, ?_⟩⟩
    exact ⟨_, results_tmp rfl _ _ _, gs, rfl, ownsRow_putObj hq _ hK rfl, hB.trans (belowK_b (w := w) (Nat.le_refl _) W D _ _ (by have := B4.size; omega) hK rfl rfl)⟩
  case stop =>
    rintro D c pre W _ _ h _
    exact h.elim
end Go.Proofs.Ytaahljjmofjdmaa
