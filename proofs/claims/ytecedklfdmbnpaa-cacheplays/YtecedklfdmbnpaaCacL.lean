/-
  Laws at operations on blocks and on what a sector is held with: no statement is proved here.
-/
import Derived.Test.YtecedklfdmbnpaaCacC
namespace Go.Proofs.Ytecedklfdmbnpaa
open Go.ChangeShapes Go.WideShapes Go.ChangeAt Go.RowKit
set_option linter.unusedVariables false
set_option linter.unusedSimpArgs false

theorem fold_set : ∀ (vs : List Value) (off j : Nat) (cs : List Value), off + j + vs.length ≤ cs.length →
    (vs.zipIdx j).foldl (fun (a : Array Value) (x : Value × Nat) => a.setIfInBounds (off + x.2) x.1) cs.toArray = (cs.take (off + j) ++ vs ++ cs.drop (off + j + vs.length)).toArray
  | [], off, j, cs, h => by simp
  | v :: r, off, j, cs, h => by
    have hl : off + j < cs.length := by simp at h; omega
    rw [List.zipIdx_cons, List.foldl_cons]
    simp only [List.setIfInBounds_toArray]
    rw [fold_set r off (j + 1) (cs.set (off + j) v) (by simp at h ⊢; omega)]
    congr 1
    have e1 : (cs.set (off + j) v).take (off + (j + 1)) = cs.take (off + j) ++ [v] := by
      rw [show off + (j + 1) = off + j + 1 by omega, List.take_add_one, List.getElem?_set_self hl, List.take_set, List.set_eq_of_length_le (by simp; omega)]; rfl
    have e2 : (cs.set (off + j) v).drop (off + (j + 1) + r.length) = cs.drop (off + j + (v :: r).length) := by
      rw [List.drop_set_of_lt (by omega)]
      congr 1; simp; omega
    rw [e1, e2]; simp
theorem fill_pg (b : Blk) (X : List Value) (hX : X.length = 64) : Instr.fill ([(0, 64), (64, 1), (65, 1)].toArray[·]?) (X ++ [Value.bool false, .int .i64 0]).toArray [(0, .agg b.cs.toArray)] = some (Pg.cs ⟨b, false, 0⟩).toArray := by
  have hf := fold_set b.cs 0 0 (X ++ [Value.bool false, .int .i64 0]) (by simp [hX, b.cs_len])
  have hd : (X ++ [Value.bool false, .int .i64 0]).drop (0 + 0 + b.cs.length) = [Value.bool false, .int .i64 0] := by
    rw [b.cs_len, show 0 + 0 + 64 = X.length by rw [hX]]; simp
  rw [hd] at hf
  simp only [Instr.fill, Value.cells]
  simp [hX, b.cs_len]
  simpa [Pg.cs] using hf
theorem build_pg (b : Blk) (w : World) : (Instr.build 85 #[(0, .agg b.cs.toArray)]).run Try.prog w = .ok (.agg (Pg.cs ⟨b, false, 0⟩).toArray) w := by
  refine run_build w _ _ _ ?_
  have h : Try.prog.built 85 [(0, .agg b.cs.toArray)] = Instr.fill ([(0, 64), (64, 1), (65, 1)].toArray[·]?) ((List.replicate 64 (Value.int .u8 0)) ++ [Value.bool false, .int .i64 0]).toArray [(0, .agg b.cs.toArray)] := by kernel_rfl
  refine h.trans (fill_pg b _ (by simp))
section
variable {ops : Array Oper} {rest : List Oper} {o : Oper} {a : Act} {w : World} {Q : Exit → Act → World → Prop}
/-- 'var x Block', a parameter that is a variable, a load and a store. -/
theorem at_newB (hw : Region.wanted o (yielded ops a.tmps) = true) (ho : o.op = .alloc 42)
    (h : ∀ g w', w.heap.size ≤ g → g < w'.heap.size → Cs w' g Blk.zero.cs → Below w.heap.size w w' → wpList Try.prog ops Q rest (a.put o.dst (.pointer (some ⟨g, 0, none⟩))) w') : wpList Try.prog ops Q (o :: rest) a w :=
  at_alloc hw ho (h w.heap.size _ (Nat.le_refl _) (by simp) (Cs.made _ _ _ Blk.zero.cs_one) ((Below.refl _ _).alloc (Nat.le_refl _) _))
theorem at_boxC (T : Nat) (hw : Region.wanted o (yielded ops a.tmps) = true) (x : Operand) (ho : o.op = .box T x) (cs : List Value) (hx : a.eval x = .agg cs.toArray) (h1 : ∀ v ∈ cs, v.oneCell' = true)
    (h : ∀ g w', w.heap.size ≤ g → g < w'.heap.size → Cs w' g cs → Below w.heap.size w w' → wpList Try.prog ops Q rest (a.put o.dst (.pointer (some ⟨g, 0, none⟩))) w') : wpList Try.prog ops Q (o :: rest) a w := by
  refine wpList_val hw _ _ ?_ (h w.heap.size (w.alloc (.cells cs.toArray T)) (Nat.le_refl _) (by simp) (Cs.made _ _ _ h1) ((Below.refl _ _).alloc (Nat.le_refl _) _))
  have : (Instr.box T (.agg cs.toArray)).run Try.prog w = .ok (.pointer (some ⟨w.heap.size, 0, none⟩)) (w.alloc (.cells cs.toArray T)) := by
    simp [Instr.box, newVar, Value.cells, go_sem]
  simp only [execOp, ho, hx, Sem.run_bind, this]; rfl
theorem at_boxB (hw : Region.wanted o (yielded ops a.tmps) = true) (x : Operand) (ho : o.op = .box 42 x) (b : Blk) (hx : a.eval x = .agg b.cs.toArray)
    (h : ∀ g w', w.heap.size ≤ g → g < w'.heap.size → Cs w' g b.cs → Below w.heap.size w w' → wpList Try.prog ops Q rest (a.put o.dst (.pointer (some ⟨g, 0, none⟩))) w') : wpList Try.prog ops Q (o :: rest) a w :=
  at_boxC _ hw x ho b.cs hx b.cs_one h
theorem at_getB (hw : Region.wanted o (yielded ops a.tmps) = true) (x : Operand) (ho : o.op = .load 42 x) (g : Nat) (hx : a.eval x = .pointer (some ⟨g, 0, none⟩)) (b : Blk) (hR : w.rangeAt g 0 b.cs)
    (h : wpList Try.prog ops Q rest (a.put o.dst (.agg b.cs.toArray)) w) : wpList Try.prog ops Q (o :: rest) a w := at_load hw x ho g 0 hx b hR h
theorem at_putB (hw : Region.wanted o (yielded ops a.tmps) = true) (x y : Operand) (ho : o.op = .store 42 x y) (g : Nat) (hx : a.eval x = .pointer (some ⟨g, 0, none⟩)) (b : Blk) (hy : a.eval y = .agg b.cs.toArray) (c : Blk) (hR : Cs w g c.cs)
    (h : ∀ w', Cs w' g b.cs → Stp (fun x => x = g) w w' → wpList Try.prog ops Q rest (a.put o.dst undef) w') : wpList Try.prog ops Q (o :: rest) a w := by
  refine at_store hw x y ho g 0 hx b hy (by have := hR.there; rwa [c.cs_len] at this) (h _ ?_ (Stp.of_setCells w g 0 b.cs (.inl rfl)))
  have := hR.setCells 0 b.cs (by rw [c.cs_len, b.cs_len]; omega) b.cs_one
  have e : c.cs.take 0 ++ b.cs ++ c.cs.drop (0 + b.cs.length) = b.cs := by
    rw [List.drop_eq_nil_of_le (by rw [c.cs_len, b.cs_len]; omega)]; simp
  rwa [e] at this
/-- A block's bytes, put into a page. -/
theorem at_putP (hw : Region.wanted o (yielded ops a.tmps) = true) (x y : Operand) (ho : o.op = .store 42 x y) (g : Nat) (hx : a.eval x = .pointer (some ⟨g, 0, none⟩)) (b : Blk) (hy : a.eval y = .agg b.cs.toArray) (q : Pg) (hR : Cs w g q.cs)
    (h : ∀ w', Cs w' g (Pg.cs ⟨b, q.ch, q.pn⟩) → Stp (fun x => x = g) w w' → wpList Try.prog ops Q rest (a.put o.dst undef) w') : wpList Try.prog ops Q (o :: rest) a w := by
  refine at_store hw x y ho g 0 hx b hy (fun j hj => ?_) (h _ (Pg.set_b hR b) (Stp.of_setCells w g 0 b.cs (.inl rfl)))
  exact hR.there j (by rw [q.cs_len]; omega)
theorem at_bldP (hw : Region.wanted o (yielded ops a.tmps) = true) (x : Operand) (ho : o.op = .build 85 #[(0, x)]) (b : Blk) (hx : a.eval x = .agg b.cs.toArray)
    (h : wpList Try.prog ops Q rest (a.put o.dst (.agg (Pg.cs ⟨b, false, 0⟩).toArray)) w) : wpList Try.prog ops Q (o :: rest) a w := by
  refine wpList_val hw _ _ ?_ h
  simp [execOp, ho, hx, build_pg]
theorem at_boxP (hw : Region.wanted o (yielded ops a.tmps) = true) (x : Operand) (ho : o.op = .box 85 x) (q : Pg) (hx : a.eval x = .agg q.cs.toArray)
    (h : ∀ g w', w.heap.size ≤ g → g < w'.heap.size → Cs w' g q.cs → Below w.heap.size w w' → wpList Try.prog ops Q rest (a.put o.dst (.pointer (some ⟨g, 0, none⟩))) w') : wpList Try.prog ops Q (o :: rest) a w :=
  at_boxC _ hw x ho q.cs hx q.cs_one h
theorem at_insP (hw : Region.wanted o (yielded ops a.tmps) = true) (m x y : Operand) (ho : o.op = .mapUpdate 77 m x y) (b : Nat) (f : Int → Option Value) (hm : a.eval m = .map (some b)) (k : Int) (hx : a.eval x = .int .i64 k) (v : Value) (hy : a.eval y = v)
    (hM : MpI Try.prog 3 w b f) (hf : ∀ k, (f k).isSome → 0 ≤ k ∧ k < 2048) (hk : (Lit.int .i64 k).wf = true)
    (h : ∀ w', MpI Try.prog 3 w' b (upd f k (some v)) → Stp (fun x => x = b) w w' → wpList Try.prog ops Q rest (a.put o.dst undef) w') : wpList Try.prog ops Q (o :: rest) a w := by
  obtain ⟨w', r1, r2, r3⟩ := hM.store u3 uPgs hf hk v
  refine wpList_unit hw _ ?_ (h w' r2 (turned_stp r3))
  simp [execOp, ho, hm, hx, hy, r1]
end
section
variable {fn : Func} {p u v : Tmp} {tmps : Array Value} {w : World} {g : Nat} {x : Value} {b : Blk}
theorem retBt (h : fn.results = #[.cell p 42, .tmp u]) (hp : tmps.getD p undef = .pointer (some ⟨g, 0, none⟩)) (hu : tmps.getD u undef = x) (hR : Cs w g b.cs) : (results fn tmps).run Try.prog w = .ok (.tuple #[.agg b.cs.toArray, x]) w := by
  have hp' : tmps[p]?.getD undef = .pointer (some ⟨g, 0, none⟩) := by simpa using hp
  have hu' : tmps[u]?.getD undef = x := by simpa using hu
  have := load36 (Cs.range hR)
  simp [results, h, hp', hu', asAddr, this]
end
end Go.Proofs.Ytecedklfdmbnpaa
