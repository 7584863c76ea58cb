/-
  Rows of bytes in memory, and laws at operations on arrays of 64 and of 54 bytes: no statement is proved here.
-/
import Derived.Test.YteceapdkgidenaaRows
import Derived.Test.YteceapdkgidenaaSealM
import Derived.Test.YteceapdkgidenaaNumG
import Derived.Test.YteceapdkgidenaaOpA
import Derived.Laws.CopyOwn
import Derived.Laws.Cover3
import Derived.Laws.ResultCell
import Derived.Deep.RegionHeld3
namespace Go.Proofs.Yteceapdkgidenaa
open Go.ChangeShapes Go.WideShapes Go.ChangeAt Go.RowKit
set_option linter.unusedVariables false

abbrev cells (l : List UInt8) : List Value := l.map Extern.Stop.cell
/-- Block g is a row of just the bytes l. -/
def Row (w : World) (g : Nat) (l : List UInt8) : Prop := ∃ t, w.heap[g]? = some (.cells (cells l).toArray t (0, 0))
section
variable {w w' : World} {g : Nat} {l : List UInt8} {F : Nat → Prop}
theorem Row.lt (h : Row w g l) : g < w.heap.size := by
  obtain ⟨t, h⟩ := h
  exact (Array.getElem?_eq_some_iff.1 h).1
theorem Row.step (h : Row w g l) (k : Stp F w w') (hg : ¬ F g) : Row w' g l := by
  have hl := h.lt
  obtain ⟨t, h⟩ := h
  exact ⟨t, by rw [k.block g hl hg]; exact h⟩
theorem Row.later (h : Row w g l) (k : Below w.heap.size w w') : Row w' g l := h.step (Stp.of_below k (fun _ => False)) id
theorem Row.cell (h : Row w g l) (i : Nat) (hi : i < l.length) : w.cell? ⟨g, i, none⟩ = some (.int .u8 ((l.getD i 0).toNat : Int)) := by
  obtain ⟨t, h⟩ := h
  rw [cell_of_row w g i _ t (0, 0) h, List.getElem?_toArray, List.getElem?_map, List.getElem?_eq_getElem hi]
  rw [List.getD_eq_getElem?_getD, List.getElem?_eq_getElem hi]; rfl
theorem Row.frozen (h : Row w g l) (i : Nat) : w.frozen? ⟨g, i, none⟩ = false := by
  obtain ⟨t, h⟩ := h
  simp [World.frozen?, h]
theorem Row.range (h : Row w g l) : w.rangeAt g 0 (cells l) := fun j v hv => by
  obtain ⟨t, h⟩ := h
  rw [cell_of_row w g (0 + j) _ t (0, 0) h, List.getElem?_toArray, Nat.zero_add]; exact hv
theorem Row.there (h : Row w g l) : w.there g 0 l.length := fun j hj => by
  refine ⟨?_, h.frozen _⟩
  rw [Nat.zero_add, h.cell j hj]; rfl
theorem Row.bs (h : Row w g l) (o n c : Nat) (hn : o + n ≤ l.length) (hc : n ≤ c) (hm : c ≤ maxLen) : Bs w (some ⟨g, o, none⟩) n c (ints ((l.drop o).take n)) := by
  refine ⟨by rw [ints_len]; simp; omega, hc, hm, (fun h => by cases h), ints_byte _, fun h0 => ⟨g, o, rfl, fun i hi => ?_⟩⟩
  rw [h.cell (o + i) (by omega), ints_getD]
  rw [List.getD_eq_getElem?_getD, List.getD_eq_getElem?_getD, List.getElem?_take, if_pos hi, List.getElem?_drop]
theorem Row.bs0 (h : Row w g l) (n c : Nat) (hn : n ≤ l.length) (hc : n ≤ c) (hm : c ≤ maxLen) : Bs w (some ⟨g, 0, none⟩) n c (ints (l.take n)) := by
  have := h.bs 0 n c (by omega) hc hm; rwa [List.drop_zero] at this
theorem Row.made (w : World) (l : List UInt8) (t : TypeId) : Row (w.alloc (.cells (cells l).toArray t)) w.heap.size l := ⟨t, heap_alloc_new w _⟩
theorem Row.set (h : Row w g l) (i : Nat) (x : UInt8) : Row (w.setCell ⟨g, i, none⟩ (.int .u8 (x.toNat : Int))) g (l.set i x) := by
  obtain ⟨t, h⟩ := h
  refine ⟨t, ?_⟩
  rw [setCell_eq_setRow w g i _ t (0, 0) _ h, setRow_heap w g _ _ t _ h]
  congr 2
  simp [cells, Extern.Stop.cell, List.map_set]
theorem Row.setRow (h : Row w g l) (l' : List UInt8) : Row (w.setRow g (cells l').toArray) g l' := by
  obtain ⟨t, h⟩ := h
  exact ⟨t, setRow_heap w g _ _ t _ h⟩
theorem stp_setRow (w : World) (g : Nat) (cs : Array Value) : Stp (fun x => x = g) w (w.setRow g cs) :=
  ⟨rfl, rfl, rfl, by simp [World.setRow], fun k hk hn => setRow_other w g k cs hn⟩
theorem Row.setCells (h : Row w g l) (l' : List UInt8) (hl : l'.length = l.length) : Row (w.setCells g 0 (cells l')) g l' := by
  obtain ⟨t, h⟩ := h
  have h1 := run_storeCells_cells (P := Try.prog) g 0 (cells l') 0 w (fun j hj => by
      have := (Row.there ⟨t, h⟩ j (by simpa [hl] using hj)).1; simpa using this) (fun j hj => by
      have := (Row.there ⟨t, h⟩ j (by simpa [hl] using hj)).2; simpa using this) (cells_one l')
  have h2 := run_storeCells_at Try.prog g 0 t (cells l') 0 (cells l).toArray w h (by simp [hl]) (cells_one l')
  simp only [Nat.add_zero] at h1 h2
  rw [h1] at h2
  injection h2 with _ h2
  rw [h2]
  have : (List.take 0 (cells l).toArray.toList ++ cells l' ++ List.drop (0 + (cells l').length) (cells l).toArray.toList) = cells l' := by
    simp [hl]
  rw [this]
  exact Row.setRow ⟨t, h⟩ l'
end

/-- The arrays' types. -/
structure Arr (T : TypeId) (n : Nat) : Prop where
  und : Try.prog.underlying T = some (.array n 5)
  size : (Try.prog.info? T).map (·.size) = some n
  zero : ∀ w, (zeroValue T).run Try.prog w = .ok (.agg (cells (List.replicate n 0)).toArray) w
theorem arrB : Arr 23 64 := ⟨by kernel_rfl, by kernel_rfl, fun w => (zero_of_info (v := .agg (cells (List.replicate 64 0)).toArray) (n := 64) (by kernel_rfl)).1 w⟩
theorem arrL : Arr 35 54 := ⟨by kernel_rfl, by kernel_rfl, fun w => (zero_of_info (v := .agg (cells (List.replicate 54 0)).toArray) (n := 54) (by kernel_rfl)).1 w⟩
theorem loadA {T n : Nat} (hT : Arr T n) {w : World} {g : Nat} {l : List UInt8} (h : Row w g l) (hl : l.length = n) : (loadVar T ⟨g, 0, none⟩).run Try.prog w = .ok (.agg (cells l).toArray) w :=
  run_loadVar_mid w g 0 _ (cells l) _ h.range hT.und rfl (by rw [hT.size]; simp [hl])
theorem buildB (w : World) : (Instr.build 23 #[]).run Try.prog w = .ok (.agg (cells (List.replicate 64 0)).toArray) w := by kernel_rfl
theorem buildL (w : World) : (Instr.build 35 #[]).run Try.prog w = .ok (.agg (cells (List.replicate 54 0)).toArray) w := by kernel_rfl
set_option maxRecDepth 100000 in
theorem eqA {T n : Nat} (hT : Arr T n) (a b : List UInt8) (ha : a.length = n) (hb : b.length = n) (w : World) : (Op.equalIn 10000 T (.agg (cells a).toArray) (.agg (cells b).toArray)).run Try.prog w = .ok (a == b) w :=
  run_equalIn_bytes w 9998 _ 5 n hT.und (by kernel_rfl) (fun w => rfl) a b ha hb
theorem eqB (a b : Blk) (w : World) : (Op.equalIn 10000 23 (.agg a.cs.toArray) (.agg b.cs.toArray)).run Try.prog w = .ok (decide (a = b)) w := by
  rw [← Blk.beq]; exact eqA arrB a.l b.l a.len b.len w
theorem eqL (a b : Ld) (w : World) : (Op.equalIn 10000 35 (.agg a.cs.toArray) (.agg b.cs.toArray)).run Try.prog w = .ok (decide (a = b)) w := by
  rw [← Ld.beq]; exact eqA arrL a.l b.l a.len b.len w
theorem guardB : Try.prog.eqGuardType Try.prog.depth 23 = false := by kernel_rfl
theorem guardL : Try.prog.eqGuardType Try.prog.depth 35 = false := by kernel_rfl

section
variable {ops : Array Oper} {rest : List Oper} {o : Oper} {a : Act} {w : World} {Q : Exit → Act → World → Prop}
/-- 'var x T'. -/
theorem at_new (T n : Nat) (hT : Arr T n) (hw : Region.wanted o (yielded ops a.tmps) = true) (ho : o.op = .alloc T)
    (h : ∀ g w', w.heap.size ≤ g → g < w'.heap.size → Row w' g (List.replicate n 0) → Below w.heap.size w w' → wpList Try.prog ops Q rest (a.put o.dst (.pointer (some ⟨g, 0, none⟩))) w') : wpList Try.prog ops Q (o :: rest) a w := by
  refine op_val hw _ _ ?_ (h w.heap.size (w.alloc (.cells (cells (List.replicate n 0)).toArray T)) (Nat.le_refl _) (by simp) (Row.made _ _ _) ((Below.refl _ _).alloc (Nat.le_refl _) _))
  have : (Instr.alloc T true (.tuple #[])).run Try.prog w = .ok (.pointer (some ⟨w.heap.size, 0, none⟩)) (w.alloc (.cells (cells (List.replicate n 0)).toArray T)) := by
    unfold Instr.alloc; rw [Sem.run_bind, hT.zero]; rfl
  simp only [execOp, ho, Sem.run_bind, this]; rfl
/-- A parameter that is a variable. -/
theorem at_box (T n : Nat) (hT : Arr T n) (hw : Region.wanted o (yielded ops a.tmps) = true) (x : Operand) (ho : o.op = .box T x) (l : List UInt8) (hx : a.eval x = .agg (cells l).toArray) (hl : l.length = n)
    (h : ∀ g w', w.heap.size ≤ g → g < w'.heap.size → Row w' g l → Below w.heap.size w w' → wpList Try.prog ops Q rest (a.put o.dst (.pointer (some ⟨g, 0, none⟩))) w') : wpList Try.prog ops Q (o :: rest) a w := by
  refine op_val hw _ _ ?_ (h w.heap.size (w.alloc (.cells (cells l).toArray T)) (Nat.le_refl _) (by simp) (Row.made _ _ _) ((Below.refl _ _).alloc (Nat.le_refl _) _))
  have : (Instr.box T (.agg (cells l).toArray)).run Try.prog w = .ok (.pointer (some ⟨w.heap.size, 0, none⟩)) (w.alloc (.cells (cells l).toArray T)) := by
    simp [Instr.box, newVar, Value.cells, go_sem]
  simp only [execOp, ho, hx, Sem.run_bind, this]; rfl
/-- 'T{}'. -/
theorem at_bldB (hw : Region.wanted o (yielded ops a.tmps) = true) (ho : o.op = .build 23 #[]) (h : wpList Try.prog ops Q rest (a.put o.dst (.agg Blk.zero.cs.toArray)) w) : wpList Try.prog ops Q (o :: rest) a w := by
  refine op_val hw _ _ ?_ h
  simp only [execOp, ho, Sem.run_bind, List.map_toArray, List.map_nil, buildB]; rfl
theorem at_bldL (hw : Region.wanted o (yielded ops a.tmps) = true) (ho : o.op = .build 35 #[]) (h : wpList Try.prog ops Q rest (a.put o.dst (.agg Ld.zero.cs.toArray)) w) : wpList Try.prog ops Q (o :: rest) a w := by
  refine op_val hw _ _ ?_ h
  simp only [execOp, ho, Sem.run_bind, List.map_toArray, List.map_nil, buildL]; rfl
theorem at_get (T n : Nat) (hT : Arr T n) (hw : Region.wanted o (yielded ops a.tmps) = true) (x : Operand) (ho : o.op = .load T x) (g : Nat) (hx : a.eval x = .pointer (some ⟨g, 0, none⟩)) (l : List UInt8) (hR : Row w g l) (hl : l.length = n)
    (h : wpList Try.prog ops Q rest (a.put o.dst (.agg (cells l).toArray)) w) : wpList Try.prog ops Q (o :: rest) a w := by
  refine op_val hw _ _ ?_ h
  simp [execOp, ho, hx, Instr.loadAt, Instr.sureAddr, loadA hT hR hl]
theorem at_put (T n : Nat) (hT : Arr T n) (hw : Region.wanted o (yielded ops a.tmps) = true) (x y : Operand) (ho : o.op = .store T x y) (g : Nat) (hx : a.eval x = .pointer (some ⟨g, 0, none⟩)) (l' : List UInt8) (hy : a.eval y = .agg (cells l').toArray) (hl' : l'.length = n) (l : List UInt8) (hR : Row w g l) (hl : l.length = n)
    (h : ∀ w', Row w' g l' → Stp (fun x => x = g) w w' → wpList Try.prog ops Q rest (a.put o.dst undef) w') : wpList Try.prog ops Q (o :: rest) a w := by
  refine op_unit hw _ ?_ (h (w.setCells g 0 (cells l')) (hR.setCells l' (by omega)) (stp_setCells _ _ _ _))
  simp only [execOp, ho, hx, hy, Instr.storeAt, Instr.sureAddr, Sem.run_bind, Sem.run_pure, Result.andThen_ok]
  rw [run_storeVar_mid w g 0 _ (cells l').toArray (by have := hR.there; simpa [hl, hl'] using this) (by rw [hT.size]; simp [hl']) (all_oneCell_toArray (cells_one l'))]
  rfl
/-- 'b[i] = x'. -/
theorem at_byte (hw : Region.wanted o (yielded ops a.tmps) = true) (x y : Operand) (ho : o.op = .store 5 x y) (g i : Nat) (hx : a.eval x = .pointer (some ⟨g, i, none⟩)) (z : UInt8) (v : Int) (hy : a.eval y = .int .u8 v) (hv : v = (z.toNat : Int)) (l : List UInt8) (hR : Row w g l) (hi : i < l.length)
    (h : ∀ w', Row w' g (l.set i z) → Stp (fun x => x = g) w w' → wpList Try.prog ops Q rest (a.put o.dst undef) w') : wpList Try.prog ops Q (o :: rest) a w := by
  subst hv
  refine op_unit hw _ ?_ (h (w.setCell ⟨g, i, none⟩ (.int .u8 (z.toNat : Int))) (hR.set i z) ((Stp.refl (fun x => x = g) w).setCell (p := ⟨g, i, none⟩) (.inl rfl) _))
  have hc := hR.cell i hi
  have hf := hR.frozen i
  have hs : (Try.prog.info? 5).map (·.size) = some 1 := by kernel_rfl
  have hu : Try.prog.underlying 5 = some (.int .u8) := by kernel_rfl
  simp [execOp, ho, hx, hy, Instr.storeAt, Instr.sureAddr]
  go_simp
/-- '*(*T)(s)': the slice is long enough. -/
theorem at_arr (T n : Nat) (hT : Arr T n) (hw : Region.wanted o (yielded ops a.tmps) = true) (x : Operand) (ho : o.op = .sliceToArrayPointer T x) (p : Option Addr) (len cap : Nat) (hx : a.eval x = .slice p len cap) (hn : n ≤ len)
    (h : wpList Try.prog ops Q rest (a.put o.dst (.pointer p)) w) : wpList Try.prog ops Q (o :: rest) a w := by
  refine op_val hw _ _ ?_ h
  simp [execOp, ho, hx, run_arrayAt w T 5 n p len cap hT.und hn]
end
section
variable {T n : Nat} (hT : Arr T n) {fn : Func} {p u v : Tmp} {tmps : Array Value} {w : World} {g : Nat} {l : List UInt8} {x y : Value}
theorem retA (hT : Arr T n) (h : fn.results = #[.cell p T]) (hp : tmps.getD p undef = .pointer (some ⟨g, 0, none⟩)) (hR : Row w g l) (hl : l.length = n) : (results fn tmps).run Try.prog w = .ok (.agg (cells l).toArray) w := by
  have hp' : tmps[p]?.getD undef = .pointer (some ⟨g, 0, none⟩) := by simpa using hp
  simp [results, h, hp', asAddr, loadA hT hR hl]
theorem retAt (hT : Arr T n) (h : fn.results = #[.cell p T, .tmp u]) (hp : tmps.getD p undef = .pointer (some ⟨g, 0, none⟩)) (hu : tmps.getD u undef = x) (hR : Row w g l) (hl : l.length = n) : (results fn tmps).run Try.prog w = .ok (.tuple #[.agg (cells l).toArray, x]) w := by
  have hp' : tmps[p]?.getD undef = .pointer (some ⟨g, 0, none⟩) := by simpa using hp
  have hu' : tmps[u]?.getD undef = x := by simpa using hu
  simp [results, h, hp', hu', asAddr, loadA hT hR hl]
theorem retAtt (hT : Arr T n) (h : fn.results = #[.cell p T, .tmp u, .tmp v]) (hp : tmps.getD p undef = .pointer (some ⟨g, 0, none⟩)) (hu : tmps.getD u undef = x) (hv : tmps.getD v undef = y) (hR : Row w g l) (hl : l.length = n) : (results fn tmps).run Try.prog w = .ok (.tuple #[.agg (cells l).toArray, x, y]) w := by
  have hp' : tmps[p]?.getD undef = .pointer (some ⟨g, 0, none⟩) := by simpa using hp
  have hu' : tmps[u]?.getD undef = x := by simpa using hu
  have hv' : tmps[v]?.getD undef = y := by simpa using hv
  simp [results, h, hp', hu', hv', asAddr, loadA hT hR hl]
theorem retTAt (hT : Arr T n) (h : fn.results = #[.tmp u, .cell p T, .tmp v]) (hp : tmps.getD p undef = .pointer (some ⟨g, 0, none⟩)) (hu : tmps.getD u undef = x) (hv : tmps.getD v undef = y) (hR : Row w g l) (hl : l.length = n) : (results fn tmps).run Try.prog w = .ok (.tuple #[x, .agg (cells l).toArray, y]) w := by
  have hp' : tmps[p]?.getD undef = .pointer (some ⟨g, 0, none⟩) := by simpa using hp
  have hu' : tmps[u]?.getD undef = x := by simpa using hu
  have hv' : tmps[v]?.getD undef = y := by simpa using hv
  simp [results, h, hp', hu', hv', asAddr, loadA hT hR hl]
end
/-- In a region that draws: a store of a whole row. -/
theorem step_put {ops : Array Oper} {o : Oper} {a : Act} {w : World} {K : Act → World → Prop} {Q : Exit → Act → World → Prop} {E : Prop} (T n : Nat) (hT : Arr T n) (hgd : o.guard = none) (x y : Operand) (ho : o.op = .store T x y) (g : Nat) (hx : a.eval x = .pointer (some ⟨g, 0, none⟩)) (l' : List UInt8) (hy : a.eval y = .agg (cells l').toArray) (hl' : l'.length = n) (l : List UInt8) (hR : Row w g l) (hl : l.length = n)
    (h : ∀ w', Row w' g l' → Stp (fun x => x = g) w w' → K (a.put o.dst undef) w') : if Region.wanted o (yielded ops a.tmps) = true then Oper.wp Try.prog o a w K Q else E := by
  have hw : Region.wanted o (yielded ops a.tmps) = true := by simp [Region.wanted, hgd]
  rw [if_pos hw]
  have hr : (execOp a.eval o).run Try.prog w = .ok .skip (w.setCells g 0 (cells l')) := by
    simp only [execOp, ho, hx, hy, Instr.storeAt, Instr.sureAddr, Sem.run_bind, Sem.run_pure, Result.andThen_ok]
    rw [run_storeVar_mid w g 0 _ (cells l').toArray (by have := hR.there; simpa [hl, hl'] using this) (by rw [hT.size]; simp [hl']) (all_oneCell_toArray (cells_one l'))]
    rfl
  unfold Oper.wp
  rw [hr]
  exact h (w.setCells g 0 (cells l')) (hR.setCells l' (by omega)) (stp_setCells _ _ _ _)
/-- In a region that draws: a load of a whole row, where the row lies in every world that may come up. -/
theorem yields_row {ops : Array Oper} {S : World → Prop} {op : Oper} {a : Act} (T n : Nat) (hT : Arr T n) (hw : Region.wanted op (yielded ops a.tmps) = true) (x : Operand) (ho : op.op = .load T x) (g : Nat) (hx : a.eval x = .pointer (some ⟨g, 0, none⟩)) (l : List UInt8) (hl : l.length = n) (hS : ∀ w, S w → Row w g l) :
    YieldsIf Try.prog ops S op (.agg (cells l).toArray) a :=
  yieldsIf_load_mid hw T x ho g 0 hx (cells l) _ (fun w h => (hS w h).range) hT.und rfl (by rw [hT.size]; simp [hl])
/-- 'copy' of the first bytes of a row into the middle of another, as one step of a region that draws. -/
theorem step_copyR {ops : Array Oper} {o : Oper} {a : Act} {w : World} {K : Act → World → Prop} {Q : Exit → Act → World → Prop} {E : Prop} (hgd : o.guard = none) (d s : Operand)
    (ho : o.op = .call { callee := .builtin .copy, args := #[d, s], argTypes := #[24, 24] }) (g off dLen dCap g2 sLen sCap : Nat)
    (hd : a.eval d = .slice (some ⟨g, off, none⟩) dLen dCap) (hs : a.eval s = .slice (some ⟨g2, 0, none⟩) sLen sCap) (l l2 : List UInt8) (hR : Row w g l) (hR2 : Row w g2 l2) (h1 : sLen ≤ dLen) (h2 : off + sLen ≤ l.length) (h3 : sLen ≤ l2.length)
    (h : ∀ w', Row w' g (splice l off (l2.take sLen)) → Stp (fun x => x = g) w w' → K (a.put o.dst (goInt sLen)) w') :
    if Region.wanted o (yielded ops a.tmps) = true then Oper.wp Try.prog o a w K Q else E := by
  have hw : Region.wanted o (yielded ops a.tmps) = true := by simp [Region.wanted, hgd]
  rw [if_pos hw]
  have hlen : (cells (l2.take sLen)).length = sLen := by simp; omega
  obtain ⟨t, hg⟩ := hR
  have hrun := run_copy_row (P := Try.prog) w 24 24 o.type 5 g off dLen dCap ⟨g2, 0, none⟩ sLen sCap (cells l).toArray t (cells (l2.take sLen)) (by kernel_rfl) (by kernel_rfl) hg
    (by rw [hlen]; exact (Nat.min_eq_left h1).symm) (fun j v hv => by
      have := hR2.range j v (by
        have hj := (List.getElem?_eq_some_iff.1 hv).1
        rw [List.getElem?_map, List.getElem?_take] at hv
        rw [hlen] at hj
        rw [if_pos hj] at hv
        rw [List.getElem?_map]; exact hv)
      rw [Addr.add_mid]; exact this) (by rw [hlen]; simpa using h2) (cells_one _)
  rw [hlen] at hrun
  unfold Oper.wp
  simp only [execOp, ho, resolve, invoke, builtin]
  have e : (List.take off (cells l).toArray.toList ++ cells (l2.take sLen) ++ List.drop (off + sLen) (cells l).toArray.toList) = cells (splice l off (l2.take sLen)) := by
    unfold splice
    have : (l2.take sLen).length = sLen := by simp; omega
    rw [this]; simp [cells]
  rw [e] at hrun
  simp [hd, hs, hrun, Result.andThen]
  exact h _ (Row.setRow ⟨t, hg⟩ _) (stp_setRow _ _ _)
section
variable {ops : Array Oper} {rest : List Oper} {o : Oper} {a : Act} {w : World} {Q : Exit → Act → World → Prop}
theorem at_getB (hw : Region.wanted o (yielded ops a.tmps) = true) (x : Operand) (ho : o.op = .load 23 x) (g : Nat) (hx : a.eval x = .pointer (some ⟨g, 0, none⟩)) (b : Blk) (hR : Row w g b.l)
    (h : wpList Try.prog ops Q rest (a.put o.dst (.agg b.cs.toArray)) w) : wpList Try.prog ops Q (o :: rest) a w := at_get 23 64 arrB hw x ho g hx b.l hR b.len h
theorem at_getL (hw : Region.wanted o (yielded ops a.tmps) = true) (x : Operand) (ho : o.op = .load 35 x) (g : Nat) (hx : a.eval x = .pointer (some ⟨g, 0, none⟩)) (b : Ld) (hR : Row w g b.l)
    (h : wpList Try.prog ops Q rest (a.put o.dst (.agg b.cs.toArray)) w) : wpList Try.prog ops Q (o :: rest) a w := at_get 35 54 arrL hw x ho g hx b.l hR b.len h
end
end Go.Proofs.Yteceapdkgidenaa
