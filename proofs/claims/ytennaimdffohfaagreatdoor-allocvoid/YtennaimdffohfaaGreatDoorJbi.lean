/-
  Texts of my own, joined: no statement is proved here.
-/
import Derived.Test.YtennaimdffohfaaGreatDoorJai
import Derived.Test.YtennaimdffohfaaGreatDoorJaw
set_option linter.unusedSimpArgs false
set_option linter.unusedVariables false
namespace Go.Proofs.YtennaimdffohfaaGreatDoor
open Go.ChangeShapes Go.WideShapes Go.ChangeAt Go.RowKit
set_option maxRecDepth 100000
def Gm.zero : Gm := ⟨0, 0, 0⟩
abbrev gv (s : Gm) : Value := .agg #[.int .i64 s.g, .int .i64 s.i, .int .i64 s.d]
abbrev gc (s : Gm) : List Value := [.int .i64 s.g, .int .i64 s.i, .int .i64 s.d]
theorem gc_one (s : Gm) : ∀ v ∈ gc s, v.oneCell' = true := by
  intro v hv; simp only [List.mem_cons, List.not_mem_nil, or_false] at hv
  rcases hv with rfl | rfl | rfl <;> rfl
def GR (w : World) (g : Nat) (s : Gm) : Prop := ∃ t, w.heap[g]? = some (.cells (gc s).toArray t (0, 0))
section
variable {w w' : World} {g : Nat} {s : Gm} {F : Nat → Prop}
theorem GR.lt (h : GR w g s) : g < w.heap.size := by
  obtain ⟨t, h⟩ := h
  exact (Array.getElem?_eq_some_iff.1 h).1
theorem GR.step (h : GR w g s) (k : Stp F w w') (hg : ¬ F g) : GR w' g s := by
  have hl := h.lt
  obtain ⟨t, h⟩ := h
  exact ⟨t, by rw [k.block g hl hg]; exact h⟩
theorem GR.later (h : GR w g s) (k : Below w.heap.size w w') : GR w' g s := h.step (Stp.of_below k (fun _ => False)) id
theorem GR.c0 (h : GR w g s) : w.cell? ⟨g, 0, none⟩ = some (.int .i64 s.g) := by
  obtain ⟨t, h⟩ := h
  rw [cell_of_row w g 0 _ t (0, 0) h]; rfl
theorem GR.c1 (h : GR w g s) : w.cell? ⟨g, 1, none⟩ = some (.int .i64 s.i) := by
  obtain ⟨t, h⟩ := h
  rw [cell_of_row w g 1 _ t (0, 0) h]; rfl
theorem GR.c2 (h : GR w g s) : w.cell? ⟨g, 2, none⟩ = some (.int .i64 s.d) := by
  obtain ⟨t, h⟩ := h
  rw [cell_of_row w g 2 _ t (0, 0) h]; rfl
theorem GR.frozen (h : GR w g s) (i : Nat) : w.frozen? ⟨g, i, none⟩ = false := by
  obtain ⟨t, h⟩ := h
  simp [World.frozen?, h]
theorem GR.range (h : GR w g s) : w.rangeAt g 0 (gc s) := fun j v hv => by
  obtain ⟨t, h⟩ := h
  rw [cell_of_row w g (0 + j) _ t (0, 0) h, List.getElem?_toArray, Nat.zero_add]; exact hv
theorem GR.there (h : GR w g s) : w.there g 0 3 := fun j hj => by
  refine ⟨?_, h.frozen _⟩
  rw [Nat.zero_add]
  have : j = 0 ∨ j = 1 ∨ j = 2 := by omega
  rcases this with rfl | rfl | rfl
  · rw [h.c0]; rfl
  · rw [h.c1]; rfl
  · rw [h.c2]; rfl
theorem GR.made (w : World) (s : Gm) (t : TypeId) : GR (w.alloc (.cells (gc s).toArray t)) w.heap.size s := ⟨t, heap_alloc_new w _⟩
theorem GR.setCells (h : GR w g s) (s' : Gm) : GR (w.setCells g 0 (gc s')) g s' := by
  have ht := h.there
  obtain ⟨t, h⟩ := h
  have h1 := run_storeCells_cells (P := Tryz.prog) g 0 (gc s') 0 w (fun j hj => by
      have := (ht j (by simpa using hj)).1; simpa using this) (fun j hj => by
      have := (ht j (by simpa using hj)).2; simpa using this) (gc_one s')
  have h2 := run_storeCells_at Tryz.prog g 0 t (gc s') 0 (gc s).toArray w h (by simp) (gc_one s')
  simp only [Nat.add_zero] at h1 h2
  rw [h1] at h2
  injection h2 with _ h2
  rw [h2]
  exact ⟨t, setRow_heap w g _ _ t _ h⟩
end
theorem gUnd : ∃ fs, Tryz.prog.underlying 37 = some (.struct fs) := ⟨_, Tryz.underlying37⟩
theorem gSize : (Tryz.prog.info? 37).map (·.size) = some 3 := by kernel_rfl
theorem gZero (w : World) : (zeroValue 37).run Tryz.prog w = .ok (gv Gm.zero) w := (zero_of_info (v := gv Gm.zero) (n := 3) (by kernel_rfl)).1 w
theorem loadG {w : World} {g : Nat} {s : Gm} (h : GR w g s) : (loadVar 37 ⟨g, 0, none⟩).run Tryz.prog w = .ok (gv s) w := by
  obtain ⟨fs, hf⟩ := gUnd
  exact run_loadVar_mid w g 0 _ (gc s) _ h.range hf rfl gSize
section
variable {ops : Array Oper} {rest : List Oper} {o : Oper} {a : Act} {w : World} {Q : Exit → Act → World → Prop}
theorem at_newG (hw : Region.wanted o (yielded ops a.tmps) = true) (ho : o.op = .alloc 37)
    (h : ∀ g w', w.heap.size ≤ g → g < w'.heap.size → GR w' g Gm.zero → Below w.heap.size w w' → wpList Tryz.prog ops Q rest (a.put o.dst (.pointer (some ⟨g, 0, none⟩))) w') : wpList Tryz.prog ops Q (o :: rest) a w := by
  refine op_val hw _ _ ?_ (h w.heap.size (w.alloc (.cells (gc Gm.zero).toArray 37)) (Nat.le_refl _) (by simp) (GR.made _ _ _) ((Below.refl _ _).alloc (Nat.le_refl _) _))
  have : (Instr.alloc 37 true (.tuple #[])).run Tryz.prog w = .ok (.pointer (some ⟨w.heap.size, 0, none⟩)) (w.alloc (.cells (gc Gm.zero).toArray 37)) := by
    unfold Instr.alloc; rw [Sem.run_bind, gZero]; rfl
  simp only [execOp, ho, Sem.run_bind, this]; rfl
theorem at_boxG (hw : Region.wanted o (yielded ops a.tmps) = true) (x : Operand) (ho : o.op = .box 37 x) (s : Gm) (hx : a.eval x = gv s)
    (h : ∀ g w', w.heap.size ≤ g → g < w'.heap.size → GR w' g s → Below w.heap.size w w' → wpList Tryz.prog ops Q rest (a.put o.dst (.pointer (some ⟨g, 0, none⟩))) w') : wpList Tryz.prog ops Q (o :: rest) a w := by
  refine op_val hw _ _ ?_ (h w.heap.size (w.alloc (.cells (gc s).toArray 37)) (Nat.le_refl _) (by simp) (GR.made _ _ _) ((Below.refl _ _).alloc (Nat.le_refl _) _))
  have : (Instr.box 37 (gv s)).run Tryz.prog w = .ok (.pointer (some ⟨w.heap.size, 0, none⟩)) (w.alloc (.cells (gc s).toArray 37)) := by
    simp [Instr.box, newVar, Value.cells, go_sem]
  simp only [execOp, ho, hx, Sem.run_bind, this]; rfl
theorem at_getG (hw : Region.wanted o (yielded ops a.tmps) = true) (x : Operand) (ho : o.op = .load 37 x) (g : Nat) (hx : a.eval x = .pointer (some ⟨g, 0, none⟩)) (s : Gm) (hR : GR w g s)
    (h : wpList Tryz.prog ops Q rest (a.put o.dst (gv s)) w) : wpList Tryz.prog ops Q (o :: rest) a w := by
  refine op_val hw _ _ ?_ h
  simp [execOp, ho, hx, Instr.loadAt, Instr.sureAddr, loadG hR]
theorem storeG {w : World} {g : Nat} {s : Gm} (h : GR w g s) (s' : Gm) : (storeVar 37 ⟨g, 0, none⟩ (gv s')).run Tryz.prog w = .ok () (w.setCells g 0 (gc s')) :=
  run_storeVar_mid w g 0 _ (gc s').toArray h.there gSize (all_oneCell_toArray (gc_one s'))
theorem at_putG (hw : Region.wanted o (yielded ops a.tmps) = true) (x y : Operand) (ho : o.op = .store 37 x y) (g : Nat) (hx : a.eval x = .pointer (some ⟨g, 0, none⟩)) (s' : Gm) (hy : a.eval y = gv s') (s : Gm) (hR : GR w g s)
    (h : ∀ w', GR w' g s' → Stp (fun x => x = g) w w' → wpList Tryz.prog ops Q rest (a.put o.dst undef) w') : wpList Tryz.prog ops Q (o :: rest) a w := by
  refine op_unit hw _ ?_ (h (w.setCells g 0 (gc s')) (hR.setCells s') (stp_setCells _ _ _ _))
  simp only [execOp, ho, hx, hy, Instr.storeAt, Instr.sureAddr, Sem.run_bind, Sem.run_pure, Result.andThen_ok]
  rw [storeG hR]; rfl
end
section
variable {fn : Func} {p u v : Tmp} {tmps : Array Value} {w : World} {g : Nat} {s : Gm} {x y : Value}
theorem retGt (h : fn.results = #[.cell p 37, .tmp u]) (hp : tmps.getD p undef = .pointer (some ⟨g, 0, none⟩)) (hu : tmps.getD u undef = x) (hR : GR w g s) : (results fn tmps).run Tryz.prog w = .ok (.tuple #[gv s, x]) w := by
  have hp' : tmps[p]?.getD undef = .pointer (some ⟨g, 0, none⟩) := by simpa using hp
  have hu' : tmps[u]?.getD undef = x := by simpa using hu
  simp [results, h, hp', hu', asAddr, loadG hR]
theorem retGtt (h : fn.results = #[.cell p 37, .tmp u, .tmp v]) (hp : tmps.getD p undef = .pointer (some ⟨g, 0, none⟩)) (hu : tmps.getD u undef = x) (hv : tmps.getD v undef = y) (hR : GR w g s) : (results fn tmps).run Tryz.prog w = .ok (.tuple #[gv s, x, y]) w := by
  have hp' : tmps[p]?.getD undef = .pointer (some ⟨g, 0, none⟩) := by simpa using hp
  have hu' : tmps[u]?.getD undef = x := by simpa using hu
  have hv' : tmps[v]?.getD undef = y := by simpa using hv
  simp [results, h, hp', hu', hv', asAddr, loadG hR]
end
section
variable {ops : Array Oper} {o : Oper} {a : Act} {w : World} {K : Act → World → Prop} {Q : Exit → Act → World → Prop} {E : Prop}
theorem step_putG (hgd : o.guard = none) (x y : Operand) (ho : o.op = .store 37 x y) (g : Nat) (hx : a.eval x = .pointer (some ⟨g, 0, none⟩)) (s' : Gm) (hy : a.eval y = gv s') (s : Gm) (hR : GR w g s)
    (h : ∀ w', GR w' g s' → Stp (fun x => x = g) w w' → K (a.put o.dst undef) w') : if Region.wanted o (yielded ops a.tmps) = true then Oper.wp Tryz.prog o a w K Q else E := by
  have hw : Region.wanted o (yielded ops a.tmps) = true := by simp [Region.wanted, hgd]
  rw [if_pos hw]
  have hr : (execOp a.eval o).run Tryz.prog w = .ok .skip (w.setCells g 0 (gc s')) := by
    simp only [execOp, ho, hx, hy, Instr.storeAt, Instr.sureAddr, Sem.run_bind, Sem.run_pure, Result.andThen_ok]
    rw [storeG hR]; rfl
  unfold Oper.wp
  rw [hr]
  exact h _ (hR.setCells s') (stp_setCells _ _ _ _)
theorem step_newG (hgd : o.guard = none) (ho : o.op = .alloc 37)
    (h : ∀ g w', w.heap.size ≤ g → g < w'.heap.size → GR w' g Gm.zero → Below w.heap.size w w' → K (a.put o.dst (.pointer (some ⟨g, 0, none⟩))) w') : if Region.wanted o (yielded ops a.tmps) = true then Oper.wp Tryz.prog o a w K Q else E := by
  have hw : Region.wanted o (yielded ops a.tmps) = true := by simp [Region.wanted, hgd]
  rw [if_pos hw]
  have hi : (Instr.alloc 37 true (.tuple #[])).run Tryz.prog w = .ok (.pointer (some ⟨w.heap.size, 0, none⟩)) (w.alloc (.cells (gc Gm.zero).toArray 37)) := by
    unfold Instr.alloc; rw [Sem.run_bind, gZero]; rfl
  have hr : (execOp a.eval o).run Tryz.prog w = .ok (.value (.pointer (some ⟨w.heap.size, 0, none⟩))) (w.alloc (.cells (gc Gm.zero).toArray 37)) := by
    simp only [execOp, ho, Sem.run_bind, hi]; rfl
  unfold Oper.wp
  rw [hr]
  exact h w.heap.size _ (Nat.le_refl _) (by simp) (GR.made _ _ _) ((Below.refl _ _).alloc (Nat.le_refl _) _)
end
theorem yields_G {ops : Array Oper} {S : World → Prop} {op : Oper} {a : Act} (hw : Region.wanted op (yielded ops a.tmps) = true) (x : Operand) (ho : op.op = .load 37 x) (g : Nat) (hx : a.eval x = .pointer (some ⟨g, 0, none⟩)) (s : Gm) (hS : ∀ w, S w → GR w g s) :
    YieldsIf Tryz.prog ops S op (gv s) a := by
  obtain ⟨fs, hf⟩ := gUnd
  exact yieldsIf_load_mid hw 37 x ho g 0 hx (gc s) _ (fun w h => (hS w h).range) hf rfl gSize
set_option maxHeartbeats 4000000 in
theorem rwhere_hi (s : Gm) (x : Int) (w : World) (h : s.hasW x) (h2 : 2 ≤ x) :
    Calls Tryz.prog 37 #[.agg #[.int .i64 s.g, .int .i64 s.i, .int .i64 s.d], .int .i64 x] w fun e w' => e = .returned (.tuple #[.agg #[.int .i64 (s.kindAt ((x - 2) % s.span)), .int .i64 (s.pg x), .int .i64 (s.indAt ((x - 2) % s.span))], .int .i64 0]) ∧ Below w.heap.size w w' := by
  have hA : Gat ((w.alloc (.cells #[.int .i64 s.g, .int .i64 s.i, .int .i64 s.d] 37)).alloc (.cells #[.int .i64 0, .int .i64 0, .int .i64 0] 91)) w.heap.size s := (Gat.made w s).later (below_made _ _)
  have hZ : Zat ((w.alloc (.cells #[.int .i64 s.g, .int .i64 s.i, .int .i64 s.d] 37)).alloc (.cells #[.int .i64 0, .int .i64 0, .int .i64 0] 91)) (w.heap.size + 1) 3 := by
    have := Zat.made3 (w.alloc (.cells #[.int .i64 s.g, .int .i64 s.i, .int .i64 s.d] 37)) 91
    rwa [size_made] at this
  have bW : Below w.heap.size w ((w.alloc (.cells #[.int .i64 s.g, .int .i64 s.i, .int .i64 s.d] 37)).alloc (.cells #[.int .i64 0, .int .i64 0, .int .i64 0] 91)) := bnext (below_made _ _) (below_made _ _) (Nat.le_refl _)
  have hc := rcheck_anyG s
  obtain ⟨ho, xB, ed, em, g0, g1, r0, r1, _⟩ := Gm.wF h h2
  have e2 : s.err = 0 := if_pos ho
  rw [e2] at hc; clear e2
  obtain ⟨x0, x1⟩ := h
  have i1 := ho.2.2.1
  have i2 := ho.2.2.2.1
  have i3 := ho.2.1
  have i4 := ho.2.2.2.2.1
  have i5 := ho.2.2.2.2.2
  generalize s.pg x = Y at *
  generalize (x - 2) % s.span = R at *
  unfold Gm.span at ed em r1
  have nz : ¬ 2 + s.i + s.d = 0 := by omega
  have ew' : wrap64 Y = Y := by unfold wrap64; omega
  unfold Gm.kindAt Gm.indAt
  by_cases r2 : R = 0
  · subst r2
    go_enter Tryz.func37, Tryz.ntmps37
    go_wp2_with fail
    generalize (w.alloc (.cells #[.int .i64 s.g, .int .i64 s.i, .int .i64 s.d] 37)).alloc (.cells #[.int .i64 0, .int .i64 0, .int .i64 0] 91) = W0 at *
    refine (hc _).mono ?_
    rintro e W ⟨rfl, b1⟩
    have bW1 := bnext bW b1 (Nat.le_refl _)
    have hA1 := hA.later b1
    have hZ1 := hZ.later b1
    clear hA hZ bW b1
    have c0 := hA1.c0
    have c1 := hA1.c1
    have c2 := hA1.c2
    go_wp2_with fail
    refine (rtotal_any s _).mono ?_
    rintro e w2 ⟨rfl, b4⟩
    clear c0 c1 c2
    obtain ⟨c0, c1, c2⟩ := hA1.later b4
    obtain ⟨y0, z0⟩ := hZ1.later b4 0 (by decide)
    obtain ⟨y1, z1⟩ := hZ1.later b4 1 (by decide)
    obtain ⟨y2, z2⟩ := hZ1.later b4 2 (by decide)
    have bW4 := bnext bW1 b4 (Nat.le_refl _)
    clear hZ1 bW1 b4 hA1
    go_wp2
    refine bodyPost_ret (v := .tuple #[.agg #[.int .i64 (2), .int .i64 (Y), .int .i64 (0)], .int .i64 0]) (by simp [results, Tryz.results37, go_sem, World.cell?_setCell_same, World.cell?_setCell_other, y0, y1, y2]) rfl ⟨rfl, ?_⟩
    exact ((bW4.setCell (by simp) _).setCell (by simp) _).setCell (by simp) _
  · by_cases r3 : R = 1
    · subst r3
      go_enter Tryz.func37, Tryz.ntmps37
      go_wp2_with fail
      generalize (w.alloc (.cells #[.int .i64 s.g, .int .i64 s.i, .int .i64 s.d] 37)).alloc (.cells #[.int .i64 0, .int .i64 0, .int .i64 0] 91) = W0 at *
      refine (hc _).mono ?_
      rintro e W ⟨rfl, b1⟩
      have bW1 := bnext bW b1 (Nat.le_refl _)
      have hA1 := hA.later b1
      have hZ1 := hZ.later b1
      clear hA hZ bW b1
      have c0 := hA1.c0
      have c1 := hA1.c1
      have c2 := hA1.c2
      go_wp2_with fail
      refine (rtotal_any s _).mono ?_
      rintro e w2 ⟨rfl, b4⟩
      clear c0 c1 c2
      obtain ⟨c0, c1, c2⟩ := hA1.later b4
      obtain ⟨y0, z0⟩ := hZ1.later b4 0 (by decide)
      obtain ⟨y1, z1⟩ := hZ1.later b4 1 (by decide)
      obtain ⟨y2, z2⟩ := hZ1.later b4 2 (by decide)
      have bW4 := bnext bW1 b4 (Nat.le_refl _)
      clear hZ1 bW1 b4 hA1
      go_wp2
      refine bodyPost_ret (v := .tuple #[.agg #[.int .i64 (3), .int .i64 (Y), .int .i64 (0)], .int .i64 0]) (by simp [results, Tryz.results37, go_sem, World.cell?_setCell_same, World.cell?_setCell_other, y0, y1, y2]) rfl ⟨rfl, ?_⟩
      exact ((bW4.setCell (by simp) _).setCell (by simp) _).setCell (by simp) _
    · rw [if_neg r2, if_neg r2, if_neg r3, if_neg r3]
      by_cases r4 : R < 2 + s.i
      · rw [if_pos r4, if_pos r4]
        go_enter Tryz.func37, Tryz.ntmps37
        go_wp2_with fail
        generalize (w.alloc (.cells #[.int .i64 s.g, .int .i64 s.i, .int .i64 s.d] 37)).alloc (.cells #[.int .i64 0, .int .i64 0, .int .i64 0] 91) = W0 at *
        refine (hc _).mono ?_
        rintro e W ⟨rfl, b1⟩
        have bW1 := bnext bW b1 (Nat.le_refl _)
        have hA1 := hA.later b1
        have hZ1 := hZ.later b1
        clear hA hZ bW b1
        have c0 := hA1.c0
        have c1 := hA1.c1
        have c2 := hA1.c2
        go_wp2_with fail
        refine (rtotal_any s _).mono ?_
        rintro e w2 ⟨rfl, b4⟩
        clear c0 c1 c2
        obtain ⟨c0, c1, c2⟩ := hA1.later b4
        obtain ⟨y0, z0⟩ := hZ1.later b4 0 (by decide)
        obtain ⟨y1, z1⟩ := hZ1.later b4 1 (by decide)
        obtain ⟨y2, z2⟩ := hZ1.later b4 2 (by decide)
        have bW4 := bnext bW1 b4 (Nat.le_refl _)
        clear hZ1 bW1 b4 hA1
        go_wp2
        refine bodyPost_ret (v := .tuple #[.agg #[.int .i64 (4), .int .i64 (Y), .int .i64 (R - 2)], .int .i64 0]) (by simp [results, Tryz.results37, go_sem, World.cell?_setCell_same, World.cell?_setCell_other, y0, y1, y2]) rfl ⟨rfl, ?_⟩
        exact ((bW4.setCell (by simp) _).setCell (by simp) _).setCell (by simp) _
      · rw [if_neg r4, if_neg r4]
        have e5 : R - (2 + s.i) = R - 2 - s.i := by omega
        rw [e5]; clear e5
        go_enter Tryz.func37, Tryz.ntmps37
        go_wp2_with fail
        generalize (w.alloc (.cells #[.int .i64 s.g, .int .i64 s.i, .int .i64 s.d] 37)).alloc (.cells #[.int .i64 0, .int .i64 0, .int .i64 0] 91) = W0 at *
        refine (hc _).mono ?_
        rintro e W ⟨rfl, b1⟩
        have bW1 := bnext bW b1 (Nat.le_refl _)
        have hA1 := hA.later b1
        have hZ1 := hZ.later b1
        clear hA hZ bW b1
        have c0 := hA1.c0
        have c1 := hA1.c1
        have c2 := hA1.c2
        go_wp2_with fail
        refine (rtotal_any s _).mono ?_
        rintro e w2 ⟨rfl, b4⟩
        clear c0 c1 c2
        obtain ⟨c0, c1, c2⟩ := hA1.later b4
        obtain ⟨y0, z0⟩ := hZ1.later b4 0 (by decide)
        obtain ⟨y1, z1⟩ := hZ1.later b4 1 (by decide)
        obtain ⟨y2, z2⟩ := hZ1.later b4 2 (by decide)
        have bW4 := bnext bW1 b4 (Nat.le_refl _)
        clear hZ1 bW1 b4 hA1
        go_wp2
        refine bodyPost_ret (v := .tuple #[.agg #[.int .i64 (0), .int .i64 (Y), .int .i64 (R - 2 - s.i)], .int .i64 0]) (by simp [results, Tryz.results37, go_sem, World.cell?_setCell_same, World.cell?_setCell_other, y0, y1, y2]) rfl ⟨rfl, ?_⟩
        exact ((bW4.setCell (by simp) _).setCell (by simp) _).setCell (by simp) _
set_option maxHeartbeats 2000000 in
theorem rwhere_lo (s : Gm) (x : Int) (w : World) (h : s.hasW x) (h2 : x < 2) :
    Calls Tryz.prog 37 #[.agg #[.int .i64 s.g, .int .i64 s.i, .int .i64 s.d], .int .i64 x] w fun e w' => e = .returned (.tuple #[.agg #[.int .i64 1, .int .i64 0, .int .i64 x], .int .i64 0]) ∧ Below w.heap.size w w' := by
  have hA : Gat ((w.alloc (.cells #[.int .i64 s.g, .int .i64 s.i, .int .i64 s.d] 37)).alloc (.cells #[.int .i64 0, .int .i64 0, .int .i64 0] 91)) w.heap.size s := (Gat.made w s).later (below_made _ _)
  have hZ : Zat ((w.alloc (.cells #[.int .i64 s.g, .int .i64 s.i, .int .i64 s.d] 37)).alloc (.cells #[.int .i64 0, .int .i64 0, .int .i64 0] 91)) (w.heap.size + 1) 3 := by
    have := Zat.made3 (w.alloc (.cells #[.int .i64 s.g, .int .i64 s.i, .int .i64 s.d] 37)) 91
    rwa [size_made] at this
  have bW : Below w.heap.size w ((w.alloc (.cells #[.int .i64 s.g, .int .i64 s.i, .int .i64 s.d] 37)).alloc (.cells #[.int .i64 0, .int .i64 0, .int .i64 0] 91)) := bnext (below_made _ _) (below_made _ _) (Nat.le_refl _)
  have hc := rcheck_anyG s
  have ho : s.ok := by
    by_cases ho : s.ok
    · exact ho
    · have : s.total = 0 := if_neg ho
      have := h.1; have := h.2; omega
  have e2 : s.err = 0 := if_pos ho
  rw [e2] at hc; clear e2
  obtain ⟨x0, x1⟩ := h
  go_enter Tryz.func37, Tryz.ntmps37
  go_wp2_with fail
  generalize (w.alloc (.cells #[.int .i64 s.g, .int .i64 s.i, .int .i64 s.d] 37)).alloc (.cells #[.int .i64 0, .int .i64 0, .int .i64 0] 91) = W0 at *
  refine (hc _).mono ?_
  rintro e W ⟨rfl, b1⟩
  have bW1 := bnext bW b1 (Nat.le_refl _)
  have hA1 := hA.later b1
  have hZ1 := hZ.later b1
  clear hA hZ bW b1
  have c0 := hA1.c0
  have c1 := hA1.c1
  have c2 := hA1.c2
  go_wp2_with fail
  refine (rtotal_any s _).mono ?_
  rintro e w2 ⟨rfl, b4⟩
  clear c0 c1 c2
  obtain ⟨c0, c1, c2⟩ := hA1.later b4
  obtain ⟨y0, z0⟩ := hZ1.later b4 0 (by decide)
  obtain ⟨y1, z1⟩ := hZ1.later b4 1 (by decide)
  obtain ⟨y2, z2⟩ := hZ1.later b4 2 (by decide)
  have bW4 := bnext bW1 b4 (Nat.le_refl _)
  clear hZ1 bW1 b4 hA1
  go_wp2
  refine bodyPost_ret (v := .tuple #[.agg #[.int .i64 (1), .int .i64 (0), .int .i64 (x)], .int .i64 0]) (by simp [results, Tryz.results37, go_sem, World.cell?_setCell_same, World.cell?_setCell_other, y0, y1, y2]) rfl ⟨rfl, ?_⟩
  exact ((bW4.setCell (by simp) _).setCell (by simp) _).setCell (by simp) _
set_option maxHeartbeats 2000000 in
theorem rwhere_no (s : Gm) (x : Int) (w : World) (h : ¬ s.hasW x) :
    Calls Tryz.prog 37 #[.agg #[.int .i64 s.g, .int .i64 s.i, .int .i64 s.d], .int .i64 x] w fun e w' => e = .returned (.tuple #[.agg #[.int .i64 0, .int .i64 0, .int .i64 0], .int .i64 2]) ∧ Below w.heap.size w w' := by
  have hA : Gat ((w.alloc (.cells #[.int .i64 s.g, .int .i64 s.i, .int .i64 s.d] 37)).alloc (.cells #[.int .i64 0, .int .i64 0, .int .i64 0] 91)) w.heap.size s := (Gat.made w s).later (below_made _ _)
  have hZ : Zat ((w.alloc (.cells #[.int .i64 s.g, .int .i64 s.i, .int .i64 s.d] 37)).alloc (.cells #[.int .i64 0, .int .i64 0, .int .i64 0] 91)) (w.heap.size + 1) 3 := by
    have := Zat.made3 (w.alloc (.cells #[.int .i64 s.g, .int .i64 s.i, .int .i64 s.d] 37)) 91
    rwa [size_made] at this
  have bW : Below w.heap.size w ((w.alloc (.cells #[.int .i64 s.g, .int .i64 s.i, .int .i64 s.d] 37)).alloc (.cells #[.int .i64 0, .int .i64 0, .int .i64 0] 91)) := bnext (below_made _ _) (below_made _ _) (Nat.le_refl _)
  have hc := rcheck_anyG s
  by_cases ho : s.ok
  · have e2 : s.err = 0 := if_pos ho
    rw [e2] at hc; clear e2
    by_cases x0 : x < 0
    · go_enter Tryz.func37, Tryz.ntmps37
      go_wp2_with fail
      generalize (w.alloc (.cells #[.int .i64 s.g, .int .i64 s.i, .int .i64 s.d] 37)).alloc (.cells #[.int .i64 0, .int .i64 0, .int .i64 0] 91) = W0 at *
      refine (hc _).mono ?_
      rintro e W ⟨rfl, b1⟩
      have bW1 := bnext bW b1 (Nat.le_refl _)
      have hA1 := hA.later b1
      have hZ1 := hZ.later b1
      clear hA hZ bW b1
      obtain ⟨y0, z0⟩ := hZ1 0 (by decide)
      obtain ⟨y1, z1⟩ := hZ1 1 (by decide)
      obtain ⟨y2, z2⟩ := hZ1 2 (by decide)
      have bW4 := bW1
      clear hZ1 bW1 hA1
      go_wp2
      refine bodyPost_ret (v := .tuple #[.agg #[.int .i64 (0), .int .i64 (0), .int .i64 (0)], .int .i64 2]) (by simp [results, Tryz.results37, go_sem, World.cell?_setCell_same, World.cell?_setCell_other, y0, y1, y2]) rfl ⟨rfl, ?_⟩
      exact ((bW4.setCell (by simp) _).setCell (by simp) _).setCell (by simp) _
    · have x1 : s.total ≤ x := by unfold Gm.hasW at h; omega
      go_enter Tryz.func37, Tryz.ntmps37
      go_wp2_with fail
      generalize (w.alloc (.cells #[.int .i64 s.g, .int .i64 s.i, .int .i64 s.d] 37)).alloc (.cells #[.int .i64 0, .int .i64 0, .int .i64 0] 91) = W0 at *
      refine (hc _).mono ?_
      rintro e W ⟨rfl, b1⟩
      have bW1 := bnext bW b1 (Nat.le_refl _)
      have hA1 := hA.later b1
      have hZ1 := hZ.later b1
      clear hA hZ bW b1
      have c0 := hA1.c0
      have c1 := hA1.c1
      have c2 := hA1.c2
      go_wp2_with fail
      refine (rtotal_any s _).mono ?_
      rintro e w2 ⟨rfl, b4⟩
      clear c0 c1 c2
      obtain ⟨c0, c1, c2⟩ := hA1.later b4
      obtain ⟨y0, z0⟩ := hZ1.later b4 0 (by decide)
      obtain ⟨y1, z1⟩ := hZ1.later b4 1 (by decide)
      obtain ⟨y2, z2⟩ := hZ1.later b4 2 (by decide)
      have bW4 := bnext bW1 b4 (Nat.le_refl _)
      clear hZ1 bW1 b4 hA1
      go_wp2
      refine bodyPost_ret (v := .tuple #[.agg #[.int .i64 (0), .int .i64 (0), .int .i64 (0)], .int .i64 2]) (by simp [results, Tryz.results37, go_sem, World.cell?_setCell_same, World.cell?_setCell_other, y0, y1, y2]) rfl ⟨rfl, ?_⟩
      exact ((bW4.setCell (by simp) _).setCell (by simp) _).setCell (by simp) _
  · have e2 : s.err = 2 := if_neg ho
    rw [e2] at hc; clear e2
    go_enter Tryz.func37, Tryz.ntmps37
    go_wp2_with fail
    generalize (w.alloc (.cells #[.int .i64 s.g, .int .i64 s.i, .int .i64 s.d] 37)).alloc (.cells #[.int .i64 0, .int .i64 0, .int .i64 0] 91) = W0 at *
    refine (hc _).mono ?_
    rintro e W ⟨rfl, b1⟩
    have bW1 := bnext bW b1 (Nat.le_refl _)
    have hA1 := hA.later b1
    have hZ1 := hZ.later b1
    clear hA hZ bW b1
    obtain ⟨y0, z0⟩ := hZ1 0 (by decide)
    obtain ⟨y1, z1⟩ := hZ1 1 (by decide)
    obtain ⟨y2, z2⟩ := hZ1 2 (by decide)
    have bW4 := bW1
    clear hZ1 bW1 hA1
    go_wp2
    refine bodyPost_ret (v := .tuple #[.agg #[.int .i64 (0), .int .i64 (0), .int .i64 (0)], .int .i64 2]) (by simp [results, Tryz.results37, go_sem, World.cell?_setCell_same, World.cell?_setCell_other, y0, y1, y2]) rfl ⟨rfl, ?_⟩
    exact ((bW4.setCell (by simp) _).setCell (by simp) _).setCell (by simp) _
theorem rwhere_any (s : Gm) (x : Int) (w : World) :
    Calls Tryz.prog 37 #[.agg #[.int .i64 s.g, .int .i64 s.i, .int .i64 s.d], .int .i64 x] w fun e w' => e = .returned (.tuple #[.agg #[.int .i64 (s.pk x), .int .i64 (s.pg x), .int .i64 (s.pi x)], .int .i64 (s.werr x)]) ∧ Below w.heap.size w w' := by
  by_cases h : s.hasW x
  · have e : s.werr x = 0 := if_pos h
    rw [e]
    by_cases h2 : x < 2
    · have e1 : s.pk x = 1 := by unfold Gm.pk; rw [if_pos h, if_pos h2]
      have e2 : s.pg x = 0 := by unfold Gm.pg; rw [if_pos h, if_pos h2]
      have e3 : s.pi x = x := by unfold Gm.pi; rw [if_pos h, if_pos h2]
      rw [e1, e2, e3]; exact rwhere_lo s x w h h2
    · have e1 : s.pk x = s.kindAt ((x - 2) % s.span) := by unfold Gm.pk; rw [if_pos h, if_neg h2]
      have e3 : s.pi x = s.indAt ((x - 2) % s.span) := by unfold Gm.pi; rw [if_pos h, if_neg h2]
      rw [e1, e3]; exact rwhere_hi s x w h (by omega)
  · have e : s.werr x = 2 := if_neg h
    have e1 : s.pk x = 0 := if_neg h
    have e2 : s.pg x = 0 := if_neg h
    have e3 : s.pi x = 0 := if_neg h
    rw [e, e1, e2, e3]; exact rwhere_no s x w h
end Go.Proofs.YtennaimdffohfaaGreatDoor
