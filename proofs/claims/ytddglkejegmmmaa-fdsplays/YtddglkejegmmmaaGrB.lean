/-
  Structs in blocks of their own, maps by numbers, and laws at operations on them: no statement is proved here.
-/
import Derived.Test.YtddglkejegmmmaaGrM
import Derived.Test.YtddglkejegmmmaaPlain6
import Derived.Test.YtddglkejegmmmaaOpA
import Derived.Laws.CopyOwn
import Derived.Laws.Cover3
import Derived.Laws.ResultCell
import Derived.Deep.RegionHeld3
import Derived.Maps.AppendAt
namespace Go.Proofs.Ytddglkejegmmmaa
open Go.ChangeShapes Go.WideShapes Go.ChangeAt Go.RowKit
set_option linter.unusedVariables false
set_option linter.unusedSimpArgs false

theorem setCells_heap {w : World} {g o : Nat} {t : TypeId} {cur : Array Value} (vs : List Value) (hg : w.heap[g]? = some (.cells cur t (0, 0))) (hl : o + vs.length ≤ cur.size) (h1 : ∀ v ∈ vs, v.oneCell' = true) :
    (w.setCells g o vs).heap[g]? = some (.cells (cur.toList.take o ++ vs ++ cur.toList.drop (o + vs.length)).toArray t (0, 0)) := by
  have e1 := run_storeCells_cells (P := Try.prog) g o vs 0 w (fun j hj => by
      rw [cell_of_row w g _ _ _ (0, 0) hg, Array.getElem?_eq_getElem (by omega)]; rfl) (fun j hj => by simp [World.frozen?, hg]) h1
  have e2 := run_storeCells_at Try.prog g o t vs 0 cur w hg (by omega) h1
  simp only [Nat.add_zero] at e1 e2
  rw [e1] at e2
  injection e2 with _ e2
  rw [e2]
  exact setRow_heap w g _ _ t _ hg
/-- Block g is just these cells. -/
structure Cs (w : World) (g : Nat) (cs : List Value) : Prop where
  here : ∃ t, w.heap[g]? = some (.cells cs.toArray t (0, 0))
  one : ∀ v ∈ cs, v.oneCell' = true
section
variable {w w' : World} {g : Nat} {cs : List Value} {F : Nat → Prop}
theorem Cs.lt (h : Cs w g cs) : g < w.heap.size := by
  obtain ⟨⟨t, h⟩, _⟩ := h
  exact (Array.getElem?_eq_some_iff.1 h).1
theorem Cs.step (h : Cs w g cs) (k : Stp F w w') (hg : ¬ F g) : Cs w' g cs := by
  have hl := h.lt
  obtain ⟨⟨t, h⟩, h1⟩ := h
  exact ⟨⟨t, by rw [k.block g hl hg]; exact h⟩, h1⟩
theorem Cs.later (h : Cs w g cs) (k : Below w.heap.size w w') : Cs w' g cs := h.step (Stp.of_below k (fun _ => False)) id
theorem Cs.cell (h : Cs w g cs) (i : Nat) (v : Value) (hi : cs[i]? = some v) : w.cell? ⟨g, i, none⟩ = some v := by
  obtain ⟨⟨t, h⟩, _⟩ := h
  rw [cell_of_row w g i _ t (0, 0) h, List.getElem?_toArray]; exact hi
theorem Cs.frozen (h : Cs w g cs) (i : Nat) : w.frozen? ⟨g, i, none⟩ = false := by
  obtain ⟨⟨t, h⟩, _⟩ := h
  simp [World.frozen?, h]
theorem Cs.range (h : Cs w g cs) : w.rangeAt g 0 cs := fun j v hv => by
  rw [Nat.zero_add]; exact h.cell j v hv
theorem Cs.there (h : Cs w g cs) : w.there g 0 cs.length := fun j hj => by
  refine ⟨?_, h.frozen _⟩
  rw [Nat.zero_add, h.cell j _ (List.getElem?_eq_getElem hj)]; rfl
theorem Cs.made (w : World) (cs : List Value) (t : TypeId) (h1 : ∀ v ∈ cs, v.oneCell' = true) : Cs (w.alloc (.cells cs.toArray t)) w.heap.size cs := ⟨⟨t, heap_alloc_new w _⟩, h1⟩
theorem Cs.set (h : Cs w g cs) (i : Nat) (v : Value) (hv : v.oneCell' = true) : Cs (w.setCell ⟨g, i, none⟩ v) g (cs.set i v) := by
  obtain ⟨⟨t, h⟩, h1⟩ := h
  refine ⟨⟨t, ?_⟩, fun x hx => ?_⟩
  · rw [setCell_eq_setRow w g i _ t (0, 0) _ h, setRow_heap w g _ _ t _ h]
    simp
  · rcases List.mem_or_eq_of_mem_set hx with hx | rfl
    · exact h1 x hx
    · exact hv
theorem Cs.ne {g' : Nat} {cs' : List Value} (h : Cs w g cs) (h' : Cs w g' cs') (hl : cs.length ≠ cs'.length) : g ≠ g' := fun e => by
  obtain ⟨⟨t, h⟩, _⟩ := h
  obtain ⟨⟨t', h'⟩, _⟩ := h'
  rw [e, h'] at h
  injection h with h
  injection h with h _ _
  exact hl (by rw [← List.size_toArray, ← h, List.size_toArray])
theorem Cs.notMap {P : Program} {K : TypeId} {b : Nat} {f : Int → Option Value} (h : Cs w g cs) (hm : MpI P K w b f) : g ≠ b := fun e => by
  obtain ⟨⟨t, h⟩, _⟩ := h
  obtain ⟨D, ⟨es, clock, hh, _⟩, _⟩ := hm
  rw [e, hh] at h; cases h
/-- Some of its cells, anew. -/
theorem Cs.setCells (h : Cs w g cs) (o : Nat) (vs : List Value) (hl : o + vs.length ≤ cs.length) (h1 : ∀ v ∈ vs, v.oneCell' = true) : Cs (w.setCells g o vs) g (cs.take o ++ vs ++ cs.drop (o + vs.length)) := by
  obtain ⟨⟨t, h⟩, h2⟩ := h
  have := setCells_heap vs h (by simpa using hl) h1
  refine ⟨⟨t, by simpa using this⟩, fun v hv => ?_⟩
  rcases List.mem_append.1 hv with hv | hv
  · rcases List.mem_append.1 hv with hv | hv
    · exact h2 v (List.mem_of_mem_take hv)
    · exact h1 v hv
  · exact h2 v (List.mem_of_mem_drop hv)
end
/-- The type T is a struct or an array of n cells, whose noughts are z. -/
structure Srt (T : TypeId) (n : Nat) (z : List Value) : Prop where
  und : ∃ d, Try.prog.underlying T = some d ∧ d.isRow = true
  size : (Try.prog.info? T).map (·.size) = some n
  zero : ∀ w, (zeroValue T).run Try.prog w = .ok (.agg z.toArray) w
  len : z.length = n
  one : ∀ v ∈ z, v.oneCell' = true
theorem loadC {T n : Nat} {z : List Value} (hT : Srt T n z) {w : World} {g : Nat} {cs : List Value} (h : Cs w g cs) (hl : cs.length = n) : (loadVar T ⟨g, 0, none⟩).run Try.prog w = .ok (.agg cs.toArray) w := by
  obtain ⟨d, h1, h2⟩ := hT.und
  exact run_loadVar_mid w g 0 _ cs _ h.range h1 h2 (by rw [hT.size]; simp [hl])
theorem Cs.setAll {w : World} {g : Nat} {cs : List Value} (h : Cs w g cs) (cs' : List Value) (hl : cs'.length = cs.length) (h1 : ∀ v ∈ cs', v.oneCell' = true) : Cs (w.setCells g 0 cs') g cs' := by
  have := h.setCells 0 cs' (by omega) h1
  have e : cs.take 0 ++ cs' ++ cs.drop (0 + cs'.length) = cs' := by rw [Nat.zero_add, hl]; simp
  rwa [e] at this
theorem storeC {T n : Nat} {z : List Value} (hT : Srt T n z) {w : World} {g : Nat} {cs : List Value} (h : Cs w g cs) (hl : cs.length = n) (cs' : List Value) (hl' : cs'.length = n) (h1 : ∀ v ∈ cs', v.oneCell' = true) :
    (storeVar T ⟨g, 0, none⟩ (.agg cs'.toArray)).run Try.prog w = .ok () (w.setCells g 0 cs') :=
  run_storeVar_mid w g 0 _ cs'.toArray (by have := h.there; simpa [hl, hl'] using this) (by rw [hT.size]; simp [hl']) (all_oneCell_toArray h1)
section
variable {ops : Array Oper} {rest : List Oper} {o : Oper} {a : Act} {w : World} {Q : Exit → Act → World → Prop}
/-- 'var x T', a parameter that is a variable, a load and a store. -/
theorem at_newC (T n : Nat) (z : List Value) (hT : Srt T n z) (hw : Region.wanted o (yielded ops a.tmps) = true) (ho : o.op = .alloc T)
    (h : ∀ g w', w.heap.size ≤ g → g < w'.heap.size → Cs w' g z → Below w.heap.size w w' → wpList Try.prog ops Q rest (a.put o.dst (.pointer (some ⟨g, 0, none⟩))) w') : wpList Try.prog ops Q (o :: rest) a w := by
  refine op_val hw _ _ ?_ (h w.heap.size (w.alloc (.cells z.toArray T)) (Nat.le_refl _) (by simp) (Cs.made _ _ _ hT.one) ((Below.refl _ _).alloc (Nat.le_refl _) _))
  have : (Instr.alloc T true (.tuple #[])).run Try.prog w = .ok (.pointer (some ⟨w.heap.size, 0, none⟩)) (w.alloc (.cells z.toArray T)) := by
    unfold Instr.alloc; rw [Sem.run_bind, hT.zero]; rfl
  simp only [execOp, ho, Sem.run_bind, this]; rfl
theorem at_boxC (T : Nat) (hw : Region.wanted o (yielded ops a.tmps) = true) (x : Operand) (ho : o.op = .box T x) (cs : List Value) (hx : a.eval x = .agg cs.toArray) (h1 : ∀ v ∈ cs, v.oneCell' = true)
    (h : ∀ g w', w.heap.size ≤ g → g < w'.heap.size → Cs w' g cs → Below w.heap.size w w' → wpList Try.prog ops Q rest (a.put o.dst (.pointer (some ⟨g, 0, none⟩))) w') : wpList Try.prog ops Q (o :: rest) a w := by
  refine op_val hw _ _ ?_ (h w.heap.size (w.alloc (.cells cs.toArray T)) (Nat.le_refl _) (by simp) (Cs.made _ _ _ h1) ((Below.refl _ _).alloc (Nat.le_refl _) _))
  have : (Instr.box T (.agg cs.toArray)).run Try.prog w = .ok (.pointer (some ⟨w.heap.size, 0, none⟩)) (w.alloc (.cells cs.toArray T)) := by
    simp [Instr.box, newVar, Value.cells, go_sem]
  simp only [execOp, ho, hx, Sem.run_bind, this]; rfl
theorem at_getC (T n : Nat) (z : List Value) (hT : Srt T n z) (hw : Region.wanted o (yielded ops a.tmps) = true) (x : Operand) (ho : o.op = .load T x) (g : Nat) (hx : a.eval x = .pointer (some ⟨g, 0, none⟩)) (cs : List Value) (hR : Cs w g cs) (hl : cs.length = n)
    (h : wpList Try.prog ops Q rest (a.put o.dst (.agg cs.toArray)) w) : wpList Try.prog ops Q (o :: rest) a w := by
  refine op_val hw _ _ ?_ h
  simp [execOp, ho, hx, Instr.loadAt, Instr.sureAddr, loadC hT hR hl]
theorem at_putC (T n : Nat) (z : List Value) (hT : Srt T n z) (hw : Region.wanted o (yielded ops a.tmps) = true) (x y : Operand) (ho : o.op = .store T x y) (g : Nat) (hx : a.eval x = .pointer (some ⟨g, 0, none⟩)) (cs' : List Value) (hy : a.eval y = .agg cs'.toArray) (hl' : cs'.length = n) (h1 : ∀ v ∈ cs', v.oneCell' = true) (cs : List Value) (hR : Cs w g cs) (hl : cs.length = n)
    (h : ∀ w', Cs w' g cs' → Stp (fun x => x = g) w w' → wpList Try.prog ops Q rest (a.put o.dst undef) w') : wpList Try.prog ops Q (o :: rest) a w := by
  refine op_unit hw _ ?_ (h (w.setCells g 0 cs') (hR.setAll cs' (by omega) h1) (stp_setCells _ _ _ _))
  simp only [execOp, ho, hx, hy, Instr.storeAt, Instr.sureAddr, Sem.run_bind, Sem.run_pure, Result.andThen_ok]
  rw [storeC hT hR hl cs' hl' h1]; rfl
/-- A map by numbers is made, put at, and looked up. -/
theorem at_makeM (T : Nat) (hw : Region.wanted o (yielded ops a.tmps) = true) (ho : o.op = .makeMap T none)
    (h : ∀ b w', w.heap.size ≤ b → MpI Try.prog 3 w' b (fun _ => none) → Below w.heap.size w w' → wpList Try.prog ops Q rest (a.put o.dst (.map (some b))) w') : wpList Try.prog ops Q (o :: rest) a w := by
  refine op_val hw _ _ ?_ (h w.heap.size (w.alloc (.map #[] 0)) (Nat.le_refl _) (MpI.made w _ _) ((Below.refl _ _).alloc (Nat.le_refl _) _))
  have : (Instr.makeMap T none).run Try.prog w = .ok (.map (some w.heap.size)) (w.alloc (.map #[] 0)) := rfl
  simp [execOp, ho, this]
end
theorem uIntC : Try.prog.underlying 3 = some (.int .i64) := by kernel_rfl
theorem MpI.later {P : Program} {K : TypeId} {w w' : World} {b : Nat} {f : Int → Option Value} (h : MpI P K w b f) (k : Below w.heap.size w w') : MpI P K w' b f := h.step (Stp.of_below k (fun _ => False)) id
theorem MpI.look2 {P : Program} {K E t : TypeId} {w : World} {b : Nat} {f : Int → Option Value} (h : MpI P K w b f) (hk : P.underlying K = some (.int .i64)) (ht : P.underlying t = some (.map K E)) {z : Value} (hz : (zeroValue E).run P w = .ok z w) {k : Int} (hw : (Lit.int .i64 k).wf = true) :
    (Instr.lookup t (.map (some b)) (.int .i64 k) true).run P w = .ok (.tuple #[(f k).getD z, .bool (f k).isSome]) w := by
  obtain ⟨D, h1, hR⟩ := h
  obtain ⟨v, ps, hr, h2⟩ := h1.look_ok (Maps.int_keyed hk) ht hz (zd := .held z) (zp := []) rfl (wfI hw hk)
  rw [hr, hR.has k]
  have e : DataW.held v = D.atKey (keyI k) (.held z) := by injection h2 with h2; injection h2
  cases ef : f k with
  | none => rw [Maps.atKey_of_not_has (hR.none ef)] at e; injection e with e; rw [e]; rfl
  | some u => rw [hR.some ef] at e; injection e with e; rw [e]; rfl
section
variable {ops : Array Oper} {rest : List Oper} {o : Oper} {a : Act} {w : World} {Q : Exit → Act → World → Prop}
theorem at_insM (T E : Nat) (hT : Try.prog.underlying T = some (.map 3 E)) (hw : Region.wanted o (yielded ops a.tmps) = true) (m x y : Operand) (ho : o.op = .insert T m x y) (b : Nat) (f : Int → Option Value) (hm : a.eval m = .map (some b)) (k : Int) (hx : a.eval x = .int .i64 k) (v : Value) (hy : a.eval y = v)
    (hM : MpI Try.prog 3 w b f) (hf : ∀ k, (f k).isSome → 0 ≤ k ∧ k < 2048) (hk : (Lit.int .i64 k).wf = true)
    (h : ∀ w', MpI Try.prog 3 w' b (upd f k (some v)) → Stp (fun x => x = b) w w' → wpList Try.prog ops Q rest (a.put o.dst undef) w') : wpList Try.prog ops Q (o :: rest) a w := by
  obtain ⟨w', r1, r2, r3⟩ := hM.store uIntC hT hf hk v
  refine op_unit hw _ ?_ (h w' r2 (Stp.of_grown r3.grown (by rintro x e; injection e with e; exact .inl e.symm)))
  simp [execOp, ho, hm, hx, hy, r1]
theorem at_look2 (T E : Nat) (hT : Try.prog.underlying T = some (.map 3 E)) (z : Value) (hz : ∀ w, (zeroValue E).run Try.prog w = .ok z w) (hw : Region.wanted o (yielded ops a.tmps) = true) (m x : Operand) (ho : o.op = .lookup T m x true) (b : Nat) (f : Int → Option Value) (hm : a.eval m = .map (some b)) (hM : MpI Try.prog 3 w b f) (k : Int) (hx : a.eval x = .int .i64 k) (hk : (Lit.int .i64 k).wf = true)
    (h : wpList Try.prog ops Q rest (a.put o.dst (.tuple #[(f k).getD z, .bool (f k).isSome])) w) : wpList Try.prog ops Q (o :: rest) a w := by
  refine op_val hw _ _ ?_ h
  simp [execOp, ho, hm, hx, hM.look2 uIntC hT (hz w) hk]
end
section
variable {ops : Array Oper} {o : Oper} {a : Act} {w : World} {S : World → Prop} {K : Act → World → Prop} {Q : Exit → Act → World → Prop} {E : Prop}
/-- In a region that draws: a load of a struct, and a look into a map, that yield the same in every world that may come up. -/
theorem yields_C (T n : Nat) (z : List Value) (hT : Srt T n z) (hw : Region.wanted o (yielded ops a.tmps) = true) (x : Operand) (ho : o.op = .load T x) (g : Nat) (hx : a.eval x = .pointer (some ⟨g, 0, none⟩)) (cs : List Value) (hl : cs.length = n) (hS : ∀ w, S w → Cs w g cs) :
    YieldsIf Try.prog ops S o (.agg cs.toArray) a := by
  obtain ⟨d, h1, h2⟩ := hT.und
  exact yieldsIf_load_mid hw T x ho g 0 hx cs _ (fun w h => (hS w h).range) h1 h2 (by rw [hT.size]; simp [hl])
theorem yields_M (T E : Nat) (hT : Try.prog.underlying T = some (.map 3 E)) (z : Value) (hz : ∀ w, (zeroValue E).run Try.prog w = .ok z w) (hw : Region.wanted o (yielded ops a.tmps) = true) (m x : Operand) (ho : o.op = .lookup T m x false) (b : Nat) (f : Int → Option Value) (hm : a.eval m = .map (some b)) (k : Int) (hx : a.eval x = .int .i64 k) (hk : (Lit.int .i64 k).wf = true) (hS : ∀ w, S w → MpI Try.prog 3 w b f) :
    YieldsIf Try.prog ops S o ((f k).getD z) a := by
  refine Or.inl ⟨hw, fun w hs => ?_⟩
  simp [execOp, ho, hm, hx, (hS w hs).look uIntC hT (hz w) hk]
end
section
variable {fn : Func} {p u v : Tmp} {tmps : Array Value} {w : World} {g T n : Nat} {z cs : List Value} {x y : Value}
theorem retCt (hT : Srt T n z) (h : fn.results = #[.cell p T, .tmp u]) (hp : tmps.getD p undef = .pointer (some ⟨g, 0, none⟩)) (hu : tmps.getD u undef = x) (hR : Cs w g cs) (hl : cs.length = n) : (results fn tmps).run Try.prog w = .ok (.tuple #[.agg cs.toArray, x]) w := by
  have hp' : tmps[p]?.getD undef = .pointer (some ⟨g, 0, none⟩) := by simpa using hp
  have hu' : tmps[u]?.getD undef = x := by simpa using hu
  simp [results, h, hp', hu', asAddr, loadC hT hR hl]
end
section
variable {ops : Array Oper} {rest : List Oper} {o : Oper} {a : Act} {w : World} {Q : Exit → Act → World → Prop}
/-- 'x.f = v', of a number. -/
theorem at_setC (T : Nat) (k : IntKind) (hs : ∀ w, (sizeOf T).run Try.prog w = .ok 1 w) (hw : Region.wanted o (yielded ops a.tmps) = true) (x y : Operand) (ho : o.op = .store T x y) (g i : Nat) (hx : a.eval x = .pointer (some ⟨g, i, none⟩)) (n : Int) (hy : a.eval y = .int k n) (cs : List Value) (hR : Cs w g cs) (hi : i < cs.length)
    (h : ∀ w', Cs w' g (cs.set i (.int k n)) → Stp (fun x => x = g) w w' → wpList Try.prog ops Q rest (a.put o.dst undef) w') : wpList Try.prog ops Q (o :: rest) a w := by
  refine op_unit hw _ ?_ (h (w.setCell ⟨g, i, none⟩ (.int k n)) (hR.set i _ rfl) ((Stp.refl (fun x => x = g) w).setCell (p := ⟨g, i, none⟩) (.inl rfl) _))
  have hc := hR.cell i _ (List.getElem?_eq_getElem hi)
  have hf := hR.frozen i
  simp [execOp, ho, hx, hy, Instr.storeAt, Instr.sureAddr]
  go_simp
/-- A part of a struct, loaded: cells i to i + m - 1. -/
theorem at_getP (T m : Nat) (hT : ∃ d, Try.prog.underlying T = some d ∧ d.isRow = true) (hs : (Try.prog.info? T).map (·.size) = some m) (hw : Region.wanted o (yielded ops a.tmps) = true) (x : Operand) (ho : o.op = .load T x) (g i : Nat) (hx : a.eval x = .pointer (some ⟨g, i, none⟩)) (cs : List Value) (hR : Cs w g cs) (part : List Value) (hp : part = (cs.drop i).take m) (hl : part.length = m)
    (h : wpList Try.prog ops Q rest (a.put o.dst (.agg part.toArray)) w) : wpList Try.prog ops Q (o :: rest) a w := by
  refine op_val hw _ _ ?_ h
  obtain ⟨d, h1, h2⟩ := hT
  have hr : w.rangeAt g i part := fun j v hv => by
    subst hp
    have hj := (List.getElem?_eq_some_iff.1 hv).1
    rw [hl] at hj
    rw [List.getElem?_take, if_pos hj, List.getElem?_drop] at hv
    exact hR.cell (i + j) v hv
  have : (loadVar T ⟨g, i, none⟩).run Try.prog w = .ok (.agg part.toArray) w := run_loadVar_mid w g i _ part _ hr h1 h2 (by rw [hs]; simp [hl])
  simp [execOp, ho, hx, Instr.loadAt, Instr.sureAddr, this]
end
section
variable {ops : Array Oper} {o : Oper} {a : Act} {w : World} {K : Act → World → Prop} {Q : Exit → Act → World → Prop} {E : Prop}
/-- In a region that draws: an alloc and a store of a struct. -/
theorem step_newC (T n : Nat) (z : List Value) (hT : Srt T n z) (hgd : o.guard = none) (ho : o.op = .alloc T)
    (h : ∀ g w', w.heap.size ≤ g → g < w'.heap.size → Cs w' g z → Below w.heap.size w w' → K (a.put o.dst (.pointer (some ⟨g, 0, none⟩))) w') : if Region.wanted o (yielded ops a.tmps) = true then Oper.wp Try.prog o a w K Q else E := by
  have hw : Region.wanted o (yielded ops a.tmps) = true := by simp [Region.wanted, hgd]
  rw [if_pos hw]
  have hi : (Instr.alloc T true (.tuple #[])).run Try.prog w = .ok (.pointer (some ⟨w.heap.size, 0, none⟩)) (w.alloc (.cells z.toArray T)) := by
    unfold Instr.alloc; rw [Sem.run_bind, hT.zero]; rfl
  have hr : (execOp a.eval o).run Try.prog w = .ok (.value (.pointer (some ⟨w.heap.size, 0, none⟩))) (w.alloc (.cells z.toArray T)) := by
    simp only [execOp, ho, Sem.run_bind, hi]; rfl
  unfold Oper.wp
  rw [hr]
  exact h w.heap.size _ (Nat.le_refl _) (by simp) (Cs.made _ _ _ hT.one) ((Below.refl _ _).alloc (Nat.le_refl _) _)
theorem step_putC (T n : Nat) (z : List Value) (hT : Srt T n z) (hgd : o.guard = none) (x y : Operand) (ho : o.op = .store T x y) (g : Nat) (hx : a.eval x = .pointer (some ⟨g, 0, none⟩)) (cs' : List Value) (hy : a.eval y = .agg cs'.toArray) (hl' : cs'.length = n) (h1 : ∀ v ∈ cs', v.oneCell' = true) (cs : List Value) (hR : Cs w g cs) (hl : cs.length = n)
    (h : ∀ w', Cs w' g cs' → Stp (fun x => x = g) w w' → K (a.put o.dst undef) w') : if Region.wanted o (yielded ops a.tmps) = true then Oper.wp Try.prog o a w K Q else E := by
  have hw : Region.wanted o (yielded ops a.tmps) = true := by simp [Region.wanted, hgd]
  rw [if_pos hw]
  have hr : (execOp a.eval o).run Try.prog w = .ok .skip (w.setCells g 0 cs') := by
    simp only [execOp, ho, hx, hy, Instr.storeAt, Instr.sureAddr, Sem.run_bind, Sem.run_pure, Result.andThen_ok]
    rw [storeC hT hR hl cs' hl' h1]; rfl
  unfold Oper.wp
  rw [hr]
  exact h _ (hR.setAll cs' (by omega) h1) (stp_setCells _ _ _ _)
end
section
variable {fn : Func} {p u v : Tmp} {tmps : Array Value} {w : World} {g T n : Nat} {z cs : List Value} {x y : Value}
theorem retC (hT : Srt T n z) (h : fn.results = #[.cell p T]) (hp : tmps.getD p undef = .pointer (some ⟨g, 0, none⟩)) (hR : Cs w g cs) (hl : cs.length = n) : (results fn tmps).run Try.prog w = .ok (.agg cs.toArray) w := by
  have hp' : tmps[p]?.getD undef = .pointer (some ⟨g, 0, none⟩) := by simpa using hp
  simp [results, h, hp', asAddr, loadC hT hR hl]
end
theorem u3 : Try.prog.underlying 3 = some (.int .i64) := by kernel_rfl
section
variable {ops : Array Oper} {rest : List Oper} {o : Oper} {a : Act} {w : World} {Q : Exit → Act → World → Prop}
theorem at_drop {t : TypeId} {b : Nat} {k : Int} {R : World → Prop} (hw : Region.wanted o (yielded ops a.tmps) = true) (x y : Operand) (ho : o.op = Op.call { callee := Callee.builtin Builtin.delete, args := #[x, y], argTypes := #[t, 3] })
    (hx : a.eval x = .map (some b)) (hy : a.eval y = .int .i64 k) (hd : ∀ ty, ∃ w', (Builtin.delete_ #[t, 3] ty #[.map (some b), .int .i64 k]).run Try.prog w = .ok (.tuple #[]) w' ∧ R w')
    (h : ∀ w', R w' → wpList Try.prog ops Q rest (a.put o.dst (.tuple #[])) w') : wpList Try.prog ops Q (o :: rest) a w := by
  obtain ⟨w', hr, hR⟩ := hd o.type
  refine op_val hw _ w' ?_ (h w' hR)
  simp [execOp, ho, resolve, invoke, builtin, hx, hy, hr, Result.andThen]
theorem at_range' {t : TypeId} {b : Nat} {v : Value} {R : World → Prop} (hw : Region.wanted o (yielded ops a.tmps) = true) (x : Operand) (ho : o.op = Op.range t x)
    (hx : a.eval x = .map (some b)) (hd : ∃ w', (Instr.range t (.map (some b))).run Try.prog w = .ok v w' ∧ R w')
    (h : ∀ w', R w' → wpList Try.prog ops Q rest (a.put o.dst v) w') : wpList Try.prog ops Q (o :: rest) a w := by
  obtain ⟨w', hr, hR⟩ := hd
  refine op_val hw _ w' ?_ (h w' hR)
  simp [execOp, ho, hx, hr, Result.andThen]
/-- A step of a range over a map. -/
theorem at_next' {b r : Nat} {f : Int → Option Value} {left : Int → Bool} {cnt : Nat} (hw : Region.wanted o (yielded ops a.tmps) = true) (x : Operand) (ho : o.op = Op.next x false)
    (hx : a.eval x = .pointer (some ⟨r, 0, none⟩)) (h : RgI Try.prog 3 w b r f left cnt)
    (h0 : (∀ k, left k = false) → wpList Try.prog ops Q rest (a.put o.dst (.tuple #[.bool false])) w)
    (h1 : ∀ k v w' cnt', (Lit.int .i64 k).wf = true → left k = true → f k = some v → RgI Try.prog 3 w' b r f (fun x => left x && !decide (x = k)) cnt' → cnt' < cnt → Stp (fun x => x = r) w w' → w'.heap.size = w.heap.size →
      (Instr.entry (.pointer (some ⟨r, 0, none⟩))).run Try.prog w' = .ok (.tuple #[.int .i64 k, v]) w' → wpList Try.prog ops Q rest (a.put o.dst (.tuple #[.bool true, .int .i64 k, v])) w') : wpList Try.prog ops Q (o :: rest) a w := by
  rcases h.next u3 o.type with ⟨hl, hr⟩ | ⟨k, v, w', cnt', hk, hl, hf, hr, hR, hc, hg, hs, he⟩
  · refine op_val hw _ w ?_ (h0 hl)
    simp [execOp, ho, hx, hr, Result.andThen]
  · refine op_val hw _ w' ?_ (h1 k v w' cnt' hk hl hf hR hc (Stp.of_grown hg (by rintro x e; injection e with e; exact .inl e.symm)) hs he)
    simp [execOp, ho, hx, hr, Result.andThen]
end

theorem turned_stp {w w' : World} {b : Nat} (h : w.mapTurned w' b) : Stp (fun x => x = b) w w' := Stp.of_grown h.grown (by rintro x e; injection e with e; exact .inl e.symm)

theorem mp_range {w : World} {b : Nat} {f : Int → Option Value} {t E : TypeId} (h : MpI Try.prog 3 w b f) (ht : Try.prog.underlying t = some (.map 3 E)) :
    ∃ w', (Instr.range t (.map (some b))).run Try.prog w = .ok (.pointer (some ⟨w.heap.size, 0, none⟩)) w' ∧ ∃ cnt, RgI Try.prog 3 w' b w.heap.size f (fun k => (f k).isSome) cnt ∧ Stp (fun _ => False) w w' ∧ w'.heap.size = w.heap.size + 1 := by
  obtain ⟨w', cnt, h1, h2, h3, h4⟩ := h.range u3 ht
  exact ⟨w', h1, cnt, h2, Stp.of_grown h3 (by rintro x e; cases e), h4⟩
end Go.Proofs.Ytddglkejegmmmaa
