/-
  Entries in memory, and laws at operations on them: no statement is proved here.
-/
import Derived.Test.YtbmfoefapbakmaaCsA
import Derived.Test.YtbmfoefapbakmaaOwnA
import Derived.Test.YtbmfoefapbakmaaCopA
import Derived.Test.YtbmfoefapbakmaaDirM
import Derived.Lib.BufferWrite
import Derived.Laws.StructEq
import Derived.Laws.IdiomStrings
namespace Go.Proofs.Ytbmfoefapbakmaa
open Go.ChangeShapes Go.WideShapes Go.ChangeAt Go.RowKit
set_option linter.unusedVariables false

theorem ar13 : Arr 24 13 := ⟨by kernel_rfl, by kernel_rfl, fun w => (zero_of_info (v := .agg (cells (List.replicate 13 0)).toArray) (n := 13) (by kernel_rfl)).1 w⟩
theorem ar2d : Arr 54 2 := ⟨by kernel_rfl, by kernel_rfl, fun w => (zero_of_info (v := .agg (cells (List.replicate 2 0)).toArray) (n := 2) (by kernel_rfl)).1 w⟩
theorem srtE : Srt 23 2 Ent.zero.cs :=
  ⟨⟨_, Try.underlying23, rfl⟩, by kernel_rfl, fun w => (zero_of_info (v := .agg Ent.zero.cs.toArray) (n := 2) (by kernel_rfl)).1 w, rfl, Ent.cs_one _⟩
theorem bldE0 (w : World) : (Instr.build 23 #[]).run Try.prog w = .ok (.agg Ent.zero.cs.toArray) w := by kernel_rfl
theorem bldE2 (n : Int) (s : List UInt8) (w : World) : (Instr.build 23 #[(0, .int .i64 n), (1, .string (str s))]).run Try.prog w = .ok (.agg (Ent.mk n s).cs.toArray) w := by kernel_rfl
theorem bld13 (w : World) : (Instr.build 24 #[]).run Try.prog w = .ok (.agg (cells z13).toArray) w := by kernel_rfl
theorem uStr : Try.prog.underlying 9 = some .string := by kernel_rfl
theorem szStr (w : World) : (sizeOf 9).run Try.prog w = .ok 1 w := by kernel_rfl
theorem eq13 (a b : List UInt8) (ha : a.length = 13) (hb : b.length = 13) (w : World) : (Op.equalIn 10000 24 (.agg (cells a).toArray) (.agg (cells b).toArray)).run Try.prog w = .ok (a == b) w := eqA ar13 a b ha hb w
theorem guard13 : Try.prog.eqGuardType Try.prog.depth 24 = false := by kernel_rfl
theorem guardE : Try.prog.eqGuardType Try.prog.depth 23 = false := by kernel_rfl
theorem eqE (x y : Ent) (w : World) : (Op.equalIn 10000 23 (.agg x.cs.toArray) (.agg y.cs.toArray)).run Try.prog w = .ok (x.sameB y) w := by
  rw [run_equalIn_agg w 9999 23 x.cs.toArray y.cs.toArray (by kernel_rfl) (by kernel_rfl)]
  have f0 : Try.prog.underlying 23 = _ := Try.underlying23
  have f1 : Try.prog.underlying 3 = _ := Try.underlying3
  have f2 := uStr
  have p0 : ∀ (z : Ent) (w : World), (part 3 z.cs.toArray 0).run Try.prog w = .ok (.int .i64 z.n) w := fun z w => by kernel_rfl
  have p1 : ∀ (z : Ent) (w : World), (part 9 z.cs.toArray 1).run Try.prog w = .ok (.string (str z.s)) w := fun z w => by kernel_rfl
  have e0 : ∀ w, (Op.equalIn 9999 3 (.int .i64 x.n) (.int .i64 y.n)).run Try.prog w = .ok (x.n == y.n) w := fun w => run_equalIn_int w 9998 _ .i64 .i64 x.n y.n f1
  have e1 : ∀ w, (Op.equalIn 9999 9 (.string (str x.s)) (.string (str y.s))).run Try.prog w = .ok (x.s == y.s) w := fun w => by
    rw [run_equalIn_string w 9998 _ _ _ f2, str_list, str_list]
  simp [Program.fieldsOf, f0, Op.eqFields, p0, p1, e0, e1]
  unfold Ent.sameB Ent.same
  by_cases h : x.n = y.n
  · by_cases h2 : x.s = y.s
    · simp [h, h2]
    · simp [h, h2]
  · simp [h]
section
variable {ops : Array Oper} {rest : List Oper} {o : Oper} {a : Act} {w : World} {Q : Exit → Act → World → Prop}
theorem at_bldE0 (hw : Region.wanted o (yielded ops a.tmps) = true) (ho : o.op = .build 23 #[]) (h : wpList Try.prog ops Q rest (a.put o.dst (.agg Ent.zero.cs.toArray)) w) : wpList Try.prog ops Q (o :: rest) a w := by
  refine op_val hw _ _ ?_ h
  simp only [execOp, ho, Sem.run_bind, List.map_toArray, List.map_nil, bldE0]; rfl
theorem at_bld13 (hw : Region.wanted o (yielded ops a.tmps) = true) (ho : o.op = .build 24 #[]) (h : wpList Try.prog ops Q rest (a.put o.dst (.agg (cells z13).toArray)) w) : wpList Try.prog ops Q (o :: rest) a w := by
  refine op_val hw _ _ ?_ h
  simp only [execOp, ho, Sem.run_bind, List.map_toArray, List.map_nil, bld13]; rfl
theorem at_bldE2 (hw : Region.wanted o (yielded ops a.tmps) = true) (x y : Operand) (ho : o.op = .build 23 #[(0, x), (1, y)]) (n : Int) (s : List UInt8) (hx : a.eval x = .int .i64 n) (hy : a.eval y = .string (str s))
    (h : wpList Try.prog ops Q rest (a.put o.dst (.agg (Ent.mk n s).cs.toArray)) w) : wpList Try.prog ops Q (o :: rest) a w := by
  refine op_val hw _ _ ?_ h
  simp [execOp, ho, hx, hy, bldE2]
theorem at_boxE (hw : Region.wanted o (yielded ops a.tmps) = true) (y : Operand) (ho : o.op = .box 23 y) (x : Ent) (hx : a.eval y = .agg x.cs.toArray)
    (h : ∀ g w', w.heap.size ≤ g → g < w'.heap.size → Cs w' g x.cs → Below w.heap.size w w' → wpList Try.prog ops Q rest (a.put o.dst (.pointer (some ⟨g, 0, none⟩))) w') : wpList Try.prog ops Q (o :: rest) a w :=
  at_boxC 23 hw y ho x.cs hx x.cs_one h
theorem at_newE (hw : Region.wanted o (yielded ops a.tmps) = true) (ho : o.op = .alloc 23)
    (h : ∀ g w', w.heap.size ≤ g → g < w'.heap.size → Cs w' g Ent.zero.cs → Below w.heap.size w w' → wpList Try.prog ops Q rest (a.put o.dst (.pointer (some ⟨g, 0, none⟩))) w') : wpList Try.prog ops Q (o :: rest) a w :=
  at_newC 23 2 Ent.zero.cs srtE hw ho h
theorem at_getE (hw : Region.wanted o (yielded ops a.tmps) = true) (y : Operand) (ho : o.op = .load 23 y) (g : Nat) (hx : a.eval y = .pointer (some ⟨g, 0, none⟩)) (x : Ent) (hR : Cs w g x.cs)
    (h : wpList Try.prog ops Q rest (a.put o.dst (.agg x.cs.toArray)) w) : wpList Try.prog ops Q (o :: rest) a w :=
  at_getC 23 2 Ent.zero.cs srtE hw y ho g hx x.cs hR rfl h
theorem at_putE (hw : Region.wanted o (yielded ops a.tmps) = true) (y z : Operand) (ho : o.op = .store 23 y z) (g : Nat) (hx : a.eval y = .pointer (some ⟨g, 0, none⟩)) (x : Ent) (hy : a.eval z = .agg x.cs.toArray) (x0 : Ent) (hR : Cs w g x0.cs)
    (h : ∀ w', Cs w' g x.cs → Stp (fun x => x = g) w w' → wpList Try.prog ops Q rest (a.put o.dst undef) w') : wpList Try.prog ops Q (o :: rest) a w :=
  at_putC 23 2 Ent.zero.cs srtE hw y z ho g hx x.cs hy rfl x.cs_one x0.cs hR rfl h
theorem setE (w : World) (g i : Nat) (v : Value) (cs : List Value) (hR : Cs w g cs) (hv : v.oneCell' = true) : Cs (w.setCell ⟨g, i, none⟩ v) g (cs.set i v) := by
  obtain ⟨⟨t, h⟩, h1⟩ := hR
  refine ⟨⟨t, ?_⟩, fun x hx => ?_⟩
  · rw [setCell_eq_setRow w g i _ t (0, 0) _ h, setRow_heap w g _ _ t _ h]
    simp
  · rcases List.mem_or_eq_of_mem_set hx with hx | rfl
    · exact h1 x hx
    · exact hv
/-- 'e.Name = s'. -/
theorem at_setS (hw : Region.wanted o (yielded ops a.tmps) = true) (x y : Operand) (ho : o.op = .store 9 x y) (g : Nat) (hx : a.eval x = .pointer (some ⟨g, 1, none⟩)) (s : List UInt8) (hy : a.eval y = .string (str s)) (e : Ent) (hR : Cs w g e.cs)
    (h : ∀ w', Cs w' g (Ent.mk e.n s).cs → Stp (fun x => x = g) w w' → wpList Try.prog ops Q rest (a.put o.dst undef) w') : wpList Try.prog ops Q (o :: rest) a w := by
  refine op_unit hw _ ?_ (h (w.setCell ⟨g, 1, none⟩ (.string (str s))) (setE w g 1 _ e.cs hR rfl) ((Stp.refl (fun x => x = g) w).setCell (p := ⟨g, 1, none⟩) (.inl rfl) _))
  have hc := hR.cell 1 _ rfl
  have hf := hR.frozen 1
  have hs := szStr
  simp [execOp, ho, hx, hy, Instr.storeAt, Instr.sureAddr]
  go_simp
/-- 'e.Ino = n'. -/
theorem szInt (w : World) : (sizeOf 3).run Try.prog w = .ok 1 w := by kernel_rfl
theorem at_setN (hw : Region.wanted o (yielded ops a.tmps) = true) (x y : Operand) (ho : o.op = .store 3 x y) (g : Nat) (hx : a.eval x = .pointer (some ⟨g, 0, none⟩)) (n : Int) (hy : a.eval y = .int .i64 n) (e : Ent) (hR : Cs w g e.cs)
    (h : ∀ w', Cs w' g (Ent.mk n e.s).cs → Stp (fun x => x = g) w w' → wpList Try.prog ops Q rest (a.put o.dst undef) w') : wpList Try.prog ops Q (o :: rest) a w := by
  refine op_unit hw _ ?_ (h (w.setCell ⟨g, 0, none⟩ (.int .i64 n)) (setE w g 0 _ e.cs hR rfl) ((Stp.refl (fun x => x = g) w).setCell (p := ⟨g, 0, none⟩) (.inl rfl) _))
  have hc := hR.cell 0 _ rfl
  have hf := hR.frozen 0
  have hs := szInt
  simp [execOp, ho, hx, hy, Instr.storeAt, Instr.sureAddr]
  go_simp
/-- 'copy' of a text into the middle of a row. -/
theorem run_copyT (w : World) (tp : TypeId) (g off dLen dCap : Nat) (t l : List UInt8) (hR : Row w g l) (h1 : t.length ≤ dLen) (h2 : off + t.length ≤ l.length) :
    (Builtin.copy_ #[28, 9] tp #[.slice (some ⟨g, off, none⟩) dLen dCap, .string (str t)]).run Try.prog w = .ok (goInt t.length) (w.setRow g (cells (splice l off t)).toArray) := by
  obtain ⟨ty, hg⟩ := hR
  have hrun := Lib.run_copy_row_string (P := Try.prog) w 28 9 tp 5 g off dLen dCap (str t) (cells l).toArray ty (by kernel_rfl) (by kernel_rfl) hg (by rw [str_size]; exact h1) (by rw [str_size]; simpa using h2)
  rw [str_size] at hrun
  have e : (List.take off (cells l).toArray.toList ++ Lib.byteCells (str t).data.toList ++ List.drop (off + t.length) (cells l).toArray.toList) = cells (splice l off t) := by
    unfold splice
    rw [show (str t).data.toList = t by unfold str; simp]
    simp only [cells, List.map_append, List.map_take, List.map_drop, List.append_assoc]
    rfl
  rw [e] at hrun
  exact hrun
end
section
variable {ops : Array Oper} {o : Oper} {a : Act} {w : World} {S : World → Prop}
theorem yields_E (hw : Region.wanted o (yielded ops a.tmps) = true) (y : Operand) (ho : o.op = .load 23 y) (g : Nat) (hx : a.eval y = .pointer (some ⟨g, 0, none⟩)) (x : Ent) (hS : ∀ w, S w → Cs w g x.cs) :
    YieldsIf Try.prog ops S o (.agg x.cs.toArray) a :=
  yields_C 23 2 Ent.zero.cs srtE hw y ho g hx x.cs rfl hS
end
section
variable {ops : Array Oper} {o : Oper} {a : Act} {w : World} {K : Act → World → Prop} {Q : Exit → Act → World → Prop} {E : Prop}
theorem step_copyT (hgd : o.guard = none) (d s : Operand)
    (ho : o.op = .call { callee := .builtin .copy, args := #[d, s], argTypes := #[28, 9] }) (g off dLen dCap : Nat)
    (hd : a.eval d = .slice (some ⟨g, off, none⟩) dLen dCap) (t : List UInt8) (hs : a.eval s = .string (str t)) (l : List UInt8) (hR : Row w g l) (h1 : t.length ≤ dLen) (h2 : off + t.length ≤ l.length)
    (h : ∀ w', Row w' g (splice l off t) → Stp (fun x => x = g) w w' → K (a.put o.dst (goInt t.length)) w') :
    if Region.wanted o (yielded ops a.tmps) = true then Oper.wp Try.prog o a w K Q else E := by
  have hw : Region.wanted o (yielded ops a.tmps) = true := by simp [Region.wanted, hgd]
  rw [if_pos hw]
  have hrun := run_copyT w o.type g off dLen dCap t l hR h1 h2
  unfold Oper.wp
  simp only [execOp, ho, resolve, invoke, builtin]
  simp [hd, hs, hrun, Result.andThen]
  exact h _ (hR.setRow _) (stp_setRow _ _ _)
end
section
variable {fn : Func} {p u v : Tmp} {tmps : Array Value} {w : World} {g T n : Nat} {z cs : List Value} {x y : Value}
theorem retCd (hT : Srt T n z) (h : fn.results = #[.cell p T]) (hp : tmps.getD p undef = .pointer (some ⟨g, 0, none⟩)) (hR : Cs w g cs) (hl : cs.length = n) : (results fn tmps).run Try.prog w = .ok (.agg cs.toArray) w := by
  have hp' : tmps[p]?.getD undef = .pointer (some ⟨g, 0, none⟩) := by simpa using hp
  simp [results, h, hp', asAddr, loadC hT hR hl]
theorem retCtt (hT : Srt T n z) (h : fn.results = #[.cell p T, .tmp u, .tmp v]) (hp : tmps.getD p undef = .pointer (some ⟨g, 0, none⟩)) (hu : tmps.getD u undef = x) (hv : tmps.getD v undef = y) (hR : Cs w g cs) (hl : cs.length = n) : (results fn tmps).run Try.prog w = .ok (.tuple #[.agg cs.toArray, x, y]) w := by
  have hp' : tmps[p]?.getD undef = .pointer (some ⟨g, 0, none⟩) := by simpa using hp
  have hu' : tmps[u]?.getD undef = x := by simpa using hu
  have hv' : tmps[v]?.getD undef = y := by simpa using hv
  simp [results, h, hp', hu', hv', asAddr, loadC hT hR hl]
end
/-- Cells of an entry in its block. -/
theorem Cs.ent {w : World} {g : Nat} {x : Ent} (h : Cs w g x.cs) : w.cell? ⟨g, 0, none⟩ = some (.int .i64 x.n) ∧ w.cell? ⟨g, 1, none⟩ = some (.string (str x.s)) :=
  ⟨h.cell 0 _ rfl, h.cell 1 _ rfl⟩
/-- 'string(b)'. -/
theorem str_nums (l : List UInt8) : strOfNums (ints l) = str l := by
  unfold strOfNums ints str
  rw [List.map_map]
  congr 2
  conv => rhs; rw [← List.map_id l]
  refine List.map_congr_left fun x _ => ?_
  simp
theorem bs_text {w : World} {a : Option Addr} {n c : Nat} {l : List UInt8} (h : Bs w a n c (ints l)) : (convert 28 9 (.slice a n c)).run Try.prog w = .ok (.string (str l)) w := by
  have := h.convert (P := Try.prog) 28 5 9 (by kernel_rfl) (by kernel_rfl) (by kernel_rfl)
  rw [this, str_nums]
end Go.Proofs.Ytbmfoefapbakmaa
