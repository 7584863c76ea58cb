/-
  Structs and arrays in blocks of their own, and laws at operations on them; maps by numbers: no statement is proved here.
-/
import Derived.Test.YtbmfoefapbakmaaSealA
namespace Go.Proofs.Ytbmfoefapbakmaa
open Go.ChangeShapes Go.WideShapes Go.ChangeAt Go.RowKit
set_option linter.unusedVariables false

/-- Block g is just these cells. -/
structure Cs (w : World) (g : Nat) (cs : List Value) : Prop where
  here : ∃ t, w.heap[g]? = some (.cells cs.toArray t (0, 0))
  one : ∀ v ∈ cs, v.oneCell' = true
section
variable {w w' : World} {g : Nat} {cs : List Value} {F : Nat → Prop}
theorem Cs.lt (h : Cs w g cs) : g < w.heap.size := by
  obtain ⟨⟨t, h⟩, _⟩ := h
  exact (Array.getElem?_eq_some_iff.1 h).1
theorem Cs.step (h : Cs w g cs) (k : Stp F w w') (hg : ¬ F g) : Cs w' g cs := by
  have hl := h.lt
  obtain ⟨⟨t, h⟩, h1⟩ := h
  exact ⟨⟨t, by rw [k.block g hl hg]; exact h⟩, h1⟩
theorem Cs.later (h : Cs w g cs) (k : Below w.heap.size w w') : Cs w' g cs := h.step (Stp.of_below k (fun _ => False)) id
theorem Cs.cell (h : Cs w g cs) (i : Nat) (v : Value) (hi : cs[i]? = some v) : w.cell? ⟨g, i, none⟩ = some v := by
  obtain ⟨⟨t, h⟩, _⟩ := h
  rw [cell_of_row w g i _ t (0, 0) h, List.getElem?_toArray]; exact hi
theorem Cs.frozen (h : Cs w g cs) (i : Nat) : w.frozen? ⟨g, i, none⟩ = false := by
  obtain ⟨⟨t, h⟩, _⟩ := h
  simp [World.frozen?, h]
theorem Cs.range (h : Cs w g cs) : w.rangeAt g 0 cs := fun j v hv => by
  rw [Nat.zero_add]; exact h.cell j v hv
theorem Cs.there (h : Cs w g cs) : w.there g 0 cs.length := fun j hj => by
  refine ⟨?_, h.frozen _⟩
  rw [Nat.zero_add, h.cell j _ (List.getElem?_eq_getElem hj)]; rfl
theorem Cs.made (w : World) (cs : List Value) (t : TypeId) (h1 : ∀ v ∈ cs, v.oneCell' = true) : Cs (w.alloc (.cells cs.toArray t)) w.heap.size cs := ⟨⟨t, heap_alloc_new w _⟩, h1⟩
theorem Cs.setCells (h : Cs w g cs) (cs' : List Value) (hl : cs'.length = cs.length) (h1 : ∀ v ∈ cs', v.oneCell' = true) : Cs (w.setCells g 0 cs') g cs' := by
  have ht := h.there
  obtain ⟨⟨t, h⟩, _⟩ := h
  have e1 := run_storeCells_cells (P := Try.prog) g 0 cs' 0 w (fun j hj => by
      have := (ht j (by omega)).1; simpa using this) (fun j hj => by
      have := (ht j (by omega)).2; simpa using this) h1
  have e2 := run_storeCells_at Try.prog g 0 t cs' 0 cs.toArray w h (by simp [hl]) h1
  simp only [Nat.add_zero] at e1 e2
  rw [e1] at e2
  injection e2 with _ e2
  rw [e2]
  have : (List.take 0 cs.toArray.toList ++ cs' ++ List.drop (0 + cs'.length) cs.toArray.toList) = cs' := by
    simp [hl]
  rw [this]
  exact ⟨⟨t, setRow_heap w g _ _ t _ h⟩, h1⟩
end
/-- The type T is a struct or an array of n cells, whose noughts are z. -/
structure Srt (T : TypeId) (n : Nat) (z : List Value) : Prop where
  und : ∃ d, Try.prog.underlying T = some d ∧ d.isRow = true
  size : (Try.prog.info? T).map (·.size) = some n
  zero : ∀ w, (zeroValue T).run Try.prog w = .ok (.agg z.toArray) w
  len : z.length = n
  one : ∀ v ∈ z, v.oneCell' = true
theorem loadC {T n : Nat} {z : List Value} (hT : Srt T n z) {w : World} {g : Nat} {cs : List Value} (h : Cs w g cs) (hl : cs.length = n) : (loadVar T ⟨g, 0, none⟩).run Try.prog w = .ok (.agg cs.toArray) w := by
  obtain ⟨d, h1, h2⟩ := hT.und
  exact run_loadVar_mid w g 0 _ cs _ h.range h1 h2 (by rw [hT.size]; simp [hl])
theorem storeC {T n : Nat} {z : List Value} (hT : Srt T n z) {w : World} {g : Nat} {cs : List Value} (h : Cs w g cs) (hl : cs.length = n) (cs' : List Value) (hl' : cs'.length = n) (h1 : ∀ v ∈ cs', v.oneCell' = true) :
    (storeVar T ⟨g, 0, none⟩ (.agg cs'.toArray)).run Try.prog w = .ok () (w.setCells g 0 cs') :=
  run_storeVar_mid w g 0 _ cs'.toArray (by have := h.there; simpa [hl, hl'] using this) (by rw [hT.size]; simp [hl']) (all_oneCell_toArray h1)
section
variable {ops : Array Oper} {rest : List Oper} {o : Oper} {a : Act} {w : World} {Q : Exit → Act → World → Prop}
/-- 'var x T', a parameter that is a variable, a load and a store. -/
theorem at_newC (T n : Nat) (z : List Value) (hT : Srt T n z) (hw : Region.wanted o (yielded ops a.tmps) = true) (ho : o.op = .alloc T)
    (h : ∀ g w', w.heap.size ≤ g → g < w'.heap.size → Cs w' g z → Below w.heap.size w w' → wpList Try.prog ops Q rest (a.put o.dst (.pointer (some ⟨g, 0, none⟩))) w') : wpList Try.prog ops Q (o :: rest) a w := by
  refine op_val hw _ _ ?_ (h w.heap.size (w.alloc (.cells z.toArray T)) (Nat.le_refl _) (by simp) (Cs.made _ _ _ hT.one) ((Below.refl _ _).alloc (Nat.le_refl _) _))
  have : (Instr.alloc T true (.tuple #[])).run Try.prog w = .ok (.pointer (some ⟨w.heap.size, 0, none⟩)) (w.alloc (.cells z.toArray T)) := by
    unfold Instr.alloc; rw [Sem.run_bind, hT.zero]; rfl
  simp only [execOp, ho, Sem.run_bind, this]; rfl
theorem at_boxC (T : Nat) (hw : Region.wanted o (yielded ops a.tmps) = true) (x : Operand) (ho : o.op = .box T x) (cs : List Value) (hx : a.eval x = .agg cs.toArray) (h1 : ∀ v ∈ cs, v.oneCell' = true)
    (h : ∀ g w', w.heap.size ≤ g → g < w'.heap.size → Cs w' g cs → Below w.heap.size w w' → wpList Try.prog ops Q rest (a.put o.dst (.pointer (some ⟨g, 0, none⟩))) w') : wpList Try.prog ops Q (o :: rest) a w := by
  refine op_val hw _ _ ?_ (h w.heap.size (w.alloc (.cells cs.toArray T)) (Nat.le_refl _) (by simp) (Cs.made _ _ _ h1) ((Below.refl _ _).alloc (Nat.le_refl _) _))
  have : (Instr.box T (.agg cs.toArray)).run Try.prog w = .ok (.pointer (some ⟨w.heap.size, 0, none⟩)) (w.alloc (.cells cs.toArray T)) := by
    simp [Instr.box, newVar, Value.cells, go_sem]
  simp only [execOp, ho, hx, Sem.run_bind, this]; rfl
theorem at_getC (T n : Nat) (z : List Value) (hT : Srt T n z) (hw : Region.wanted o (yielded ops a.tmps) = true) (x : Operand) (ho : o.op = .load T x) (g : Nat) (hx : a.eval x = .pointer (some ⟨g, 0, none⟩)) (cs : List Value) (hR : Cs w g cs) (hl : cs.length = n)
    (h : wpList Try.prog ops Q rest (a.put o.dst (.agg cs.toArray)) w) : wpList Try.prog ops Q (o :: rest) a w := by
  refine op_val hw _ _ ?_ h
  simp [execOp, ho, hx, Instr.loadAt, Instr.sureAddr, loadC hT hR hl]
theorem at_putC (T n : Nat) (z : List Value) (hT : Srt T n z) (hw : Region.wanted o (yielded ops a.tmps) = true) (x y : Operand) (ho : o.op = .store T x y) (g : Nat) (hx : a.eval x = .pointer (some ⟨g, 0, none⟩)) (cs' : List Value) (hy : a.eval y = .agg cs'.toArray) (hl' : cs'.length = n) (h1 : ∀ v ∈ cs', v.oneCell' = true) (cs : List Value) (hR : Cs w g cs) (hl : cs.length = n)
    (h : ∀ w', Cs w' g cs' → Stp (fun x => x = g) w w' → wpList Try.prog ops Q rest (a.put o.dst undef) w') : wpList Try.prog ops Q (o :: rest) a w := by
  refine op_unit hw _ ?_ (h (w.setCells g 0 cs') (hR.setCells cs' (by omega) h1) (stp_setCells _ _ _ _))
  simp only [execOp, ho, hx, hy, Instr.storeAt, Instr.sureAddr, Sem.run_bind, Sem.run_pure, Result.andThen_ok]
  rw [storeC hT hR hl cs' hl' h1]; rfl
/-- A map by numbers is made, put at, and looked up. -/
theorem at_makeM (T : Nat) (hw : Region.wanted o (yielded ops a.tmps) = true) (ho : o.op = .makeMap T none)
    (h : ∀ b w', w.heap.size ≤ b → MpI Try.prog 3 w' b (fun _ => none) → Below w.heap.size w w' → wpList Try.prog ops Q rest (a.put o.dst (.map (some b))) w') : wpList Try.prog ops Q (o :: rest) a w := by
  refine op_val hw _ _ ?_ (h w.heap.size (w.alloc (.map #[] 0)) (Nat.le_refl _) (MpI.made w _ _) ((Below.refl _ _).alloc (Nat.le_refl _) _))
  have : (Instr.makeMap T none).run Try.prog w = .ok (.map (some w.heap.size)) (w.alloc (.map #[] 0)) := rfl
  simp [execOp, ho, this]
end
theorem uIntC : Try.prog.underlying 3 = some (.int .i64) := by kernel_rfl
theorem MpI.later {P : Program} {K : TypeId} {w w' : World} {b : Nat} {f : Int → Option Value} (h : MpI P K w b f) (k : Below w.heap.size w w') : MpI P K w' b f := h.step (Stp.of_below k (fun _ => False)) id
theorem MpI.look2 {P : Program} {K E t : TypeId} {w : World} {b : Nat} {f : Int → Option Value} (h : MpI P K w b f) (hk : P.underlying K = some (.int .i64)) (ht : P.underlying t = some (.map K E)) {z : Value} (hz : (zeroValue E).run P w = .ok z w) {k : Int} (hw : (Lit.int .i64 k).wf = true) :
    (Instr.lookup t (.map (some b)) (.int .i64 k) true).run P w = .ok (.tuple #[(f k).getD z, .bool (f k).isSome]) w := by
  obtain ⟨D, h1, hR⟩ := h
  obtain ⟨v, ps, hr, h2⟩ := h1.look_ok (Maps.int_keyed hk) ht hz (zd := .held z) (zp := []) rfl (wfI hw hk)
  rw [hr, hR.has k]
  have e : DataW.held v = D.atKey (keyI k) (.held z) := by injection h2 with h2; injection h2
  cases ef : f k with
  | none => rw [Maps.atKey_of_not_has (hR.none ef)] at e; injection e with e; rw [e]; rfl
  | some u => rw [hR.some ef] at e; injection e with e; rw [e]; rfl
section
variable {ops : Array Oper} {rest : List Oper} {o : Oper} {a : Act} {w : World} {Q : Exit → Act → World → Prop}
theorem at_insM (T E : Nat) (hT : Try.prog.underlying T = some (.map 3 E)) (hw : Region.wanted o (yielded ops a.tmps) = true) (m x y : Operand) (ho : o.op = .insert T m x y) (b : Nat) (f : Int → Option Value) (hm : a.eval m = .map (some b)) (k : Int) (hx : a.eval x = .int .i64 k) (v : Value) (hy : a.eval y = v)
    (hM : MpI Try.prog 3 w b f) (hf : ∀ k, (f k).isSome → 0 ≤ k ∧ k < 2048) (hk : (Lit.int .i64 k).wf = true)
    (h : ∀ w', MpI Try.prog 3 w' b (upd f k (some v)) → Stp (fun x => x = b) w w' → wpList Try.prog ops Q rest (a.put o.dst undef) w') : wpList Try.prog ops Q (o :: rest) a w := by
  obtain ⟨w', r1, r2, r3⟩ := hM.store uIntC hT hf hk v
  refine op_unit hw _ ?_ (h w' r2 (Stp.of_grown r3.grown (by rintro x e; injection e with e; exact .inl e.symm)))
  simp [execOp, ho, hm, hx, hy, r1]
theorem at_look2 (T E : Nat) (hT : Try.prog.underlying T = some (.map 3 E)) (z : Value) (hz : ∀ w, (zeroValue E).run Try.prog w = .ok z w) (hw : Region.wanted o (yielded ops a.tmps) = true) (m x : Operand) (ho : o.op = .lookup T m x true) (b : Nat) (f : Int → Option Value) (hm : a.eval m = .map (some b)) (hM : MpI Try.prog 3 w b f) (k : Int) (hx : a.eval x = .int .i64 k) (hk : (Lit.int .i64 k).wf = true)
    (h : wpList Try.prog ops Q rest (a.put o.dst (.tuple #[(f k).getD z, .bool (f k).isSome])) w) : wpList Try.prog ops Q (o :: rest) a w := by
  refine op_val hw _ _ ?_ h
  simp [execOp, ho, hm, hx, hM.look2 uIntC hT (hz w) hk]
end
section
variable {ops : Array Oper} {o : Oper} {a : Act} {w : World} {S : World → Prop} {K : Act → World → Prop} {Q : Exit → Act → World → Prop} {E : Prop}
/-- In a region that draws: a load of a struct, and a look into a map, that yield the same in every world that may come up. -/
theorem yields_C (T n : Nat) (z : List Value) (hT : Srt T n z) (hw : Region.wanted o (yielded ops a.tmps) = true) (x : Operand) (ho : o.op = .load T x) (g : Nat) (hx : a.eval x = .pointer (some ⟨g, 0, none⟩)) (cs : List Value) (hl : cs.length = n) (hS : ∀ w, S w → Cs w g cs) :
    YieldsIf Try.prog ops S o (.agg cs.toArray) a := by
  obtain ⟨d, h1, h2⟩ := hT.und
  exact yieldsIf_load_mid hw T x ho g 0 hx cs _ (fun w h => (hS w h).range) h1 h2 (by rw [hT.size]; simp [hl])
theorem yields_M (T E : Nat) (hT : Try.prog.underlying T = some (.map 3 E)) (z : Value) (hz : ∀ w, (zeroValue E).run Try.prog w = .ok z w) (hw : Region.wanted o (yielded ops a.tmps) = true) (m x : Operand) (ho : o.op = .lookup T m x false) (b : Nat) (f : Int → Option Value) (hm : a.eval m = .map (some b)) (k : Int) (hx : a.eval x = .int .i64 k) (hk : (Lit.int .i64 k).wf = true) (hS : ∀ w, S w → MpI Try.prog 3 w b f) :
    YieldsIf Try.prog ops S o ((f k).getD z) a := by
  refine Or.inl ⟨hw, fun w hs => ?_⟩
  simp [execOp, ho, hm, hx, (hS w hs).look uIntC hT (hz w) hk]
end
section
variable {fn : Func} {p u v : Tmp} {tmps : Array Value} {w : World} {g T n : Nat} {z cs : List Value} {x y : Value}
theorem retCt (hT : Srt T n z) (h : fn.results = #[.cell p T, .tmp u]) (hp : tmps.getD p undef = .pointer (some ⟨g, 0, none⟩)) (hu : tmps.getD u undef = x) (hR : Cs w g cs) (hl : cs.length = n) : (results fn tmps).run Try.prog w = .ok (.tuple #[.agg cs.toArray, x]) w := by
  have hp' : tmps[p]?.getD undef = .pointer (some ⟨g, 0, none⟩) := by simpa using hp
  have hu' : tmps[u]?.getD undef = x := by simpa using hu
  simp [results, h, hp', hu', asAddr, loadC hT hR hl]
end
/-- A part of an array, from l on: of m cells, or all. -/
theorem lenA {T n : Nat} (hT : Arr T n) : Try.prog.arrayLen T = n := by unfold Program.arrayLen; rw [hT.und]
theorem elemA {T n : Nat} (hT : Arr T n) : Try.prog.elem T = 5 := by unfold Program.elem; rw [hT.und]
theorem undA {T n : Nat} (hT : Arr T n) : Try.prog.underlying T = some (.array (Try.prog.arrayLen T) (Try.prog.elem T)) := by rw [lenA hT, elemA hT]; exact hT.und
theorem sizeU8 (w : World) : (sizeOf 5).run Try.prog w = .ok 1 w := by kernel_rfl
theorem run_subA {T n : Nat} (hT : Arr T n) (w : World) (g l m : Nat) (h2 : l + m ≤ n) (h3 : l < n) (h : Int) (hh : h = (l : Int) + m) :
    (Instr.sliceAt T (.pointer (some ⟨g, 0, none⟩)) (some (.int .i64 l)) (some (.int .i64 h)) none).run Try.prog w = .ok (.slice (some ⟨g, l, none⟩) m (n - l)) w := by
  subst hh
  rw [run_sliceAt_array_lh w T ⟨g, 0, none⟩ (undA hT) .i64 .i64 (l : Int) ((l : Int) + m) (by omega) (by omega) (by rw [lenA hT]; omega), elemA hT, sizeU8, lenA hT]
  simp only [Result.andThen, slicedAt, Int.toNat_natCast]
  rw [if_neg (by omega), show ((l : Int) + m).toNat - l = m by omega, Addr.add_mid, Nat.mul_one, Nat.zero_add]
theorem run_subL {T n : Nat} (hT : Arr T n) (w : World) (g l : Nat) (h3 : l < n) :
    (Instr.sliceAt T (.pointer (some ⟨g, 0, none⟩)) (some (.int .i64 l)) none none).run Try.prog w = .ok (.slice (some ⟨g, l, none⟩) (n - l) (n - l)) w := by
  rw [run_sliceAt_array_l w T ⟨g, 0, none⟩ (undA hT) .i64 (l : Int) (by omega) (by rw [lenA hT]; omega), elemA hT, sizeU8, lenA hT]
  simp only [Result.andThen, slicedAt, Int.toNat_natCast]
  rw [if_neg (by omega), Addr.add_mid, Nat.mul_one, Nat.zero_add]
section
variable {ops : Array Oper} {rest : List Oper} {o : Oper} {a : Act} {w : World} {Q : Exit → Act → World → Prop}
theorem at_subA (T n : Nat) (hT : Arr T n) (hw : Region.wanted o (yielded ops a.tmps) = true) (x lo hi : Operand) (ho : o.op = .slice T x (some lo) (some hi) none) (g l m : Nat) (h : Int) (hx : a.eval x = .pointer (some ⟨g, 0, none⟩)) (hlo : a.eval lo = .int .i64 l) (hhi : a.eval hi = .int .i64 h) (hh : h = (l : Int) + m) (h2 : l + m ≤ n) (h3 : l < n)
    (hK : wpList Try.prog ops Q rest (a.put o.dst (.slice (some ⟨g, l, none⟩) m (n - l))) w) : wpList Try.prog ops Q (o :: rest) a w := by
  refine op_val hw _ _ ?_ hK
  simp [execOp, ho, hx, hlo, hhi, run_subA hT w g l m h2 h3 h hh]
theorem at_subL (T n : Nat) (hT : Arr T n) (hw : Region.wanted o (yielded ops a.tmps) = true) (x lo : Operand) (ho : o.op = .slice T x (some lo) none none) (g l : Nat) (hx : a.eval x = .pointer (some ⟨g, 0, none⟩)) (hlo : a.eval lo = .int .i64 l) (h3 : l < n)
    (hK : wpList Try.prog ops Q rest (a.put o.dst (.slice (some ⟨g, l, none⟩) (n - l) (n - l))) w) : wpList Try.prog ops Q (o :: rest) a w := by
  refine op_val hw _ _ ?_ hK
  simp [execOp, ho, hx, hlo, run_subL hT w g l h3]
/-- 'copy' of bytes into the middle of a row. -/
theorem at_copyB (hgd : o.guard = none) (d s : Operand)
    (ho : o.op = .call { callee := .builtin .copy, args := #[d, s], argTypes := #[28, 28] }) (g off dLen dCap : Nat) (x : Option Addr) (sLen sCap : Nat)
    (hd : a.eval d = .slice (some ⟨g, off, none⟩) dLen dCap) (hs : a.eval s = .slice x sLen sCap) (l l2 : List UInt8) (hR : Row w g l) (hB : Bs w x sLen sCap (ints l2)) (h0 : 0 < sLen) (h1 : sLen ≤ dLen) (h2 : off + sLen ≤ l.length)
    (h : ∀ w', Row w' g (splice l off l2) → Stp (fun x => x = g) w w' → wpList Try.prog ops Q rest (a.put o.dst (goInt sLen)) w') : wpList Try.prog ops Q (o :: rest) a w := by
  refine wpList_plain hgd fun K hK => ?_
  obtain ⟨b, off2, rfl, hc⟩ := hB.cell h0
  have hlen : l2.length = sLen := by have := hB.len; rwa [ints_len] at this
  obtain ⟨t, hg⟩ := hR
  have hrun := run_copy_row (P := Try.prog) w 28 28 o.type 5 g off dLen dCap ⟨b, off2, none⟩ sLen sCap (cells l).toArray t (cells l2) (by kernel_rfl) (by kernel_rfl) hg
    (by rw [List.length_map, hlen]; exact (Nat.min_eq_left h1).symm) (fun j v hv => by
      have hj := (List.getElem?_eq_some_iff.1 hv).1
      rw [List.length_map, hlen] at hj
      rw [Addr.add_mid, hc j hj, ints_getD, ← hv, List.getElem?_map, List.getElem?_eq_getElem (by omega), List.getD_eq_getElem?_getD, List.getElem?_eq_getElem (by omega)]
      rfl) (by rw [List.length_map, hlen]; simpa using h2) (cells_one _)
  have e : (List.take off (cells l).toArray.toList ++ cells l2 ++ List.drop (off + (cells l2).length) (cells l).toArray.toList) = cells (splice l off l2) := by
    unfold splice; simp [cells]
  rw [e, List.length_map, hlen] at hrun
  unfold Oper.wp
  simp only [execOp, ho, resolve, invoke, builtin]
  simp [hd, hs, hrun, Result.andThen]
  exact hK _ _ (h _ (Row.setRow ⟨t, hg⟩ _) (stp_setRow _ _ _))
end
/-- Bytes of a slice, loaded as an array. -/
theorem bs_rangeOf {w : World} {b off n c : Nat} {l : List UInt8} (h : Bs w (some ⟨b, off, none⟩) n c (ints l)) : w.rangeAt b off (cells l) := fun j v hv => by
  have hj := (List.getElem?_eq_some_iff.1 hv).1
  have hl : l.length = n := by have := h.len; rwa [ints_len] at this
  rw [List.length_map] at hj
  obtain ⟨b', o', e, hc⟩ := h.cell (by omega)
  injection e with e
  injection e with e1 e2
  subst e1; subst e2
  rw [hc j (by omega), ints_getD, ← hv, List.getElem?_map, List.getElem?_eq_getElem hj, List.getD_eq_getElem?_getD, List.getElem?_eq_getElem hj]
  rfl
section
variable {ops : Array Oper} {rest : List Oper} {o : Oper} {a : Act} {w : World} {Q : Exit → Act → World → Prop}
theorem at_getBs (T n : Nat) (hT : Arr T n) (hw : Region.wanted o (yielded ops a.tmps) = true) (x : Operand) (ho : o.op = .load T x) (b off c : Nat) (hx : a.eval x = .pointer (some ⟨b, off, none⟩)) (l : List UInt8) (hB : Bs w (some ⟨b, off, none⟩) n c (ints l))
    (h : wpList Try.prog ops Q rest (a.put o.dst (.agg (cells l).toArray)) w) : wpList Try.prog ops Q (o :: rest) a w := by
  have hl : l.length = n := by have := hB.len; rwa [ints_len] at this
  refine op_val hw _ _ ?_ h
  have : (loadVar T ⟨b, off, none⟩).run Try.prog w = .ok (.agg (cells l).toArray) w := run_loadVar_mid w b off _ (cells l) _ (bs_rangeOf hB) hT.und rfl (by rw [hT.size]; simp [hl])
  simp [execOp, ho, hx, Instr.loadAt, Instr.sureAddr, this]
end
end Go.Proofs.Ytbmfoefapbakmaa
