/-
  Lists that both graphs tell: no statement is proved here.
-/
import Derived.Test.YtigchhogclofiaaGreatGpA
import Derived.Test.YtigchhogclofiaaGreatGcB
import Derived.Test.YtigchhogclofiaaGreatGcD
import Derived.Test.YtigchhogclofiaaGreatRgN
namespace Go.Proofs.YtigchhogclofiaaGreat
open Go.ChangeShapes Go.WideShapes Go.ChangeAt Go.RowKit
set_option linter.unusedVariables false
set_option linter.unusedSimpArgs false

theorem up2 {f : FuncId} {args : Array Value} {w : World} {l l' : List Int} (h : Calls Tryz.prog f args w fun e w' => ∃ v, e = .returned v ∧ OwV w' v l ∧ New w.heap.size v ∧ Below w.heap.size w w') (e : l = l') (hw : ∀ x ∈ l', wfi x) :
    Calls Tryz.prog f args w fun e w' => ∃ s : Sv, e = .returned (.slice s.a s.n s.c) ∧ InsS w' s l' ∧ Below w.heap.size w w' ∧ InE (fun x => w.heap.size ≤ x ∧ x < w'.heap.size) s := by
  subst e
  refine h.mono ?_
  rintro e w' ⟨v, rfl, o, n, b⟩
  obtain ⟨s, rfl, _, i, e⟩ := o.ins hw n
  exact ⟨s, rfl, i, b, e⟩
theorem rdS_len (l : List Pt) : ∀ (W late : List Pt), (rdS l late W).length ≤ W.length
  | [], _ => by simp [rdS]
  | a :: t, late => by
    unfold rdS
    split
    · have := rdS_len l t (late ++ [a]); simp; omega
    · have := rdS_len l t late; simp; omega
theorem wf_ids {Z : GZ} (ok : Z.ok 2000) (q : Pt → Bool) : ∀ x ∈ ids (Z.l.filter q), wfi x := fun x hx => by
  unfold ids at hx
  obtain ⟨p, hp, rfl⟩ := List.mem_map.1 hx
  exact (ok.wfp (List.mem_filter.1 hp).1).i
theorem wf_rdy {Z : GZ} (ok : Z.ok 2000) (s : Int) : ∀ x ∈ rdy Z.l s, wfi x := fun x hx => by
  unfold rdy ids at hx
  obtain ⟨p, hp, rfl⟩ := List.mem_map.1 hx
  exact (ok.wfp (wtP_mem.1 (rdS_sub _ _ _ p hp)).1).i
theorem wf_nd {Z : GZ} (ok : Z.ok 2000) (is : List Int) : ∀ x ∈ ids (nd is Z.l), wfi x := fun x hx => by
  unfold ids at hx
  obtain ⟨p, hp, rfl⟩ := List.mem_map.1 hx
  exact (ok.wfp (nd_sub is _ p hp)).i
theorem wf_secs {Z : GZ} (ok : Z.ok 2000) : ∀ x ∈ secs Z.l, wfi x := fun x hx => by
  have h1 := secs_mem.1 hx
  obtain ⟨y, hy⟩ := List.exists_mem_of_ne_nil _ h1
  obtain ⟨p, q1, q2, q3, _⟩ := wts_mem.1 hy
  have := fit_to (ok.ft p q1)
  exact wfi_of (by omega)
theorem len_ids {Z : GZ} (ok : Z.ok 2000) (q : Pt → Bool) : (ids (Z.l.filter q)).length ≤ 100000 := by
  unfold ids
  rw [List.length_map]
  have := List.length_filter_le q Z.l
  have := ok.few
  omega
theorem len_rdy {Z : GZ} (ok : Z.ok 2000) (s : Int) : (rdy Z.l s).length ≤ 100000 := by
  unfold rdy ids
  rw [List.length_map]
  have := rdS_len Z.l (wtP Z.l s) []
  have := ok.fewW s
  omega
theorem len_nd {Z : GZ} (ok : Z.ok 2000) (is : List Int) : (ids (nd is Z.l)).length ≤ 100000 := by
  rw [ids_len]
  have := nd_len is Z.l
  have := ok.few
  omega
theorem len_secs {Z : GZ} (ok : Z.ok 2000) : (secs Z.l).length ≤ 100000 := by
  have := secs_len ok
  omega
theorem wf_last {Z : GZ} (ok : Z.ok 2000) : wfi Z.last := wfi_of (by have := ok.l0; have := ok.lt; omega)
theorem two_i (w : World) (x y : Int) (hx : wfi x) (hy : wfi y) : InsS (w.alloc (.cells #[.int .i64 x, .int .i64 y] 3)) ⟨some ⟨w.heap.size, 0, none⟩, 2, 2⟩ [x, y] := by
  have h := Cs.made w [.int .i64 x, .int .i64 y] 3 (by simp [Value.oneCell'])
  refine ⟨⟨rfl, Nat.le_refl _, (show 2 ≤ maxLen by decide), ?_, fun _ => ⟨w.heap.size, 0, rfl, fun i hi => ?_⟩⟩, fun e => by cases e⟩
  rotate_left
  · simp only at hi
    have h2 : i = 0 ∨ i = 1 := by omega
    rcases h2 with rfl | rfl
    · exact h.cell 0 _ rfl
    · exact h.cell 1 _ rfl
  · intro z hz
    simp at hz
    rcases hz with rfl | rfl
    · exact hx
    · exact hy
theorem cs2_ins {w : World} {g : Nat} {x y : Int} (h : Cs w g [.int .i64 x, .int .i64 y]) (hx : wfi x) (hy : wfi y) : InsS w ⟨some ⟨g, 0, none⟩, 2, 2⟩ [x, y] := by
  refine ⟨⟨rfl, Nat.le_refl _, (show 2 ≤ maxLen by decide), ?_, fun _ => ⟨g, 0, rfl, fun i hi => ?_⟩⟩, fun e => by cases e⟩
  rotate_left
  · simp only at hi
    have h2 : i = 0 ∨ i = 1 := by omega
    rcases h2 with rfl | rfl
    · exact h.cell 0 _ rfl
    · exact h.cell 1 _ rfl
  · intro z hz
    simp at hz
    rcases hz with rfl | rfl
    · exact hx
    · exact hy
theorem build_two (x y : Int) (w : World) : (Instr.buildSlice 28 2 #[(0, .int .i64 x), (1, .int .i64 y)]).run Tryz.prog w = .ok (.slice (some ⟨w.heap.size, 0, none⟩) 2 2) (w.alloc (.cells #[.int .i64 x, .int .i64 y] 3)) := by kernel_rfl
theorem step_bs2I {ops : Array Oper} {o : Oper} {a : Act} {w : World} {K : Act → World → Prop} {Q : Exit → Act → World → Prop} {R : Prop} (hw : Region.wanted o (yielded ops a.tmps) = true) (u v : Operand) (ho : o.op = .buildSlice 28 2 #[(0, u), (1, v)]) (x y : Int) (hx : a.eval u = .int .i64 x) (hy : a.eval v = .int .i64 y)
    (h : ∀ g w', w.heap.size ≤ g → g < w'.heap.size → Cs w' g [.int .i64 x, .int .i64 y] → Below w.heap.size w w' → K (a.put o.dst (.slice (some ⟨g, 0, none⟩) 2 2)) w') : if Region.wanted o (yielded ops a.tmps) = true then Oper.wp Tryz.prog o a w K Q else R := by
  rw [if_pos hw]
  have hr : (execOp a.eval o).run Tryz.prog w = .ok (.value (.slice (some ⟨w.heap.size, 0, none⟩) 2 2)) (w.alloc (.cells #[.int .i64 x, .int .i64 y] 3)) := by simp [execOp, ho, hx, hy, build_two]
  unfold Oper.wp
  rw [hr]
  exact h w.heap.size _ (Nat.le_refl _) (by simp) (Cs.made w [.int .i64 x, .int .i64 y] 3 (by simp [Value.oneCell'])) ((Below.refl _ _).alloc (Nat.le_refl _) _)
end Go.Proofs.YtigchhogclofiaaGreat
