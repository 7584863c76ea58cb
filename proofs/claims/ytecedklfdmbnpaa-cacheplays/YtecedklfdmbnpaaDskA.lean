/-
  What a disk of layer 4 is in memory; laws at operations on blocks: no statement is proved here.
-/
import Derived.Test.YtecedklfdmbnpaaRows
import Derived.Test.YtecedklfdmbnpaaPowB2
import Derived.Test.YtecedklfdmbnpaaPlain5
import Derived.Deep.RegionHeld3
namespace Go.Proofs.Ytecedklfdmbnpaa
open Go.ChangeShapes Go.WideShapes Go.ChangeAt Go.RowKit
set_option linter.unusedVariables false

theorem info36 : (Try.prog.info? 42).map (fun i => (i.zero, i.size, i.bytes)) = some (some (.agg Blk.zero.cs.toArray), 64, 64) := by kernel_rfl
theorem size36 (b : Blk) : (Try.prog.info? 42).map (·.size) = some b.cs.length := by
  rw [b.cs_len]; kernel_rfl
theorem size36' (b : Blk) : (Try.prog.info? 42).map (·.size) = some b.cs.toArray.size := by
  rw [List.size_toArray, b.cs_len]; kernel_rfl
theorem zero36 (w : World) : (zeroValue 42).run Try.prog w = .ok (.agg Blk.zero.cs.toArray) w := (zero_of_info (v := .agg Blk.zero.cs.toArray) (n := 64) (by kernel_rfl)).1 w
theorem u36 : Try.prog.underlying 42 = some (.array 64 5) := by kernel_rfl
theorem u3 : Try.prog.underlying 3 = some (.int .i64) := by kernel_rfl
theorem u63 : Try.prog.underlying 69 = some (.map 3 42) := by kernel_rfl
theorem u64 : Try.prog.underlying 70 = some (.map 3 73) := by kernel_rfl
theorem u41 : Try.prog.underlying 73 = some (.slice 42) := by kernel_rfl
theorem zero41 (w : World) : (zeroValue 73).run Try.prog w = .ok (.slice none 0 0) w := (zero_of_info (v := .slice none 0 0) (n := 1) (by kernel_rfl)).1 w
theorem guard36 : Try.prog.eqGuardType Try.prog.depth 42 = false := by kernel_rfl
set_option maxRecDepth 20000 in
theorem eq36 (a b : Blk) (w : World) : (Op.equalIn 10000 42 (.agg a.cs.toArray) (.agg b.cs.toArray)).run Try.prog w = .ok (decide (a = b)) w := by
  rw [← Blk.beq]
  exact run_equalIn_bytes w 9998 _ 5 64 u36 (by kernel_rfl) (fun w => rfl) a.l b.l a.len b.len
theorem load36 {w : World} {b o : Nat} {c : Blk} (h : w.rangeAt b o c.cs) : (loadVar 42 ⟨b, o, none⟩).run Try.prog w = .ok (.agg c.cs.toArray) w :=
  run_loadVar_mid w b o _ c.cs _ h u36 rfl (size36 c)
theorem build36 (w : World) : (Instr.build 42 #[]).run Try.prog w = .ok (.agg Blk.zero.cs.toArray) w := by
  kernel_rfl

section
variable {ops : Array Oper} {rest : List Oper} {o : Oper} {a : Act} {w : World} {Q : Exit → Act → World → Prop}
/-- An operation that is wanted, by its run. -/
theorem wpList_val (hw : Region.wanted o (yielded ops a.tmps) = true) (v : Value) (w' : World) (hr : (execOp a.eval o).run Try.prog w = .ok (.value v) w') (h : wpList Try.prog ops Q rest (a.put o.dst v) w') : wpList Try.prog ops Q (o :: rest) a w := by
  refine wpList_step fun K hK => ?_
  rw [if_pos hw]; unfold Oper.wp; rw [hr]; exact hK _ _ h
theorem wpList_unit (hw : Region.wanted o (yielded ops a.tmps) = true) (w' : World) (hr : (execOp a.eval o).run Try.prog w = .ok .skip w') (h : wpList Try.prog ops Q rest (a.put o.dst undef) w') : wpList Try.prog ops Q (o :: rest) a w := by
  refine wpList_step fun K hK => ?_
  rw [if_pos hw]; unfold Oper.wp; rw [hr]; exact hK _ _ h
/-- 'var x Block'. -/
theorem at_alloc (hw : Region.wanted o (yielded ops a.tmps) = true) (ho : o.op = .alloc 42) (h : wpList Try.prog ops Q rest (a.put o.dst (.pointer (some ⟨w.heap.size, 0, none⟩))) (w.alloc (.cells Blk.zero.cs.toArray 42))) : wpList Try.prog ops Q (o :: rest) a w := by
  refine wpList_val hw _ _ ?_ h
  have : (Instr.alloc 42 true (.tuple #[])).run Try.prog w = .ok (.pointer (some ⟨w.heap.size, 0, none⟩)) (w.alloc (.cells Blk.zero.cs.toArray 42)) := by
    unfold Instr.alloc; rw [Sem.run_bind, zero36]; rfl
  simp only [execOp, ho, Sem.run_bind, this]; rfl
/-- 'Block{}'. -/
theorem at_build (hw : Region.wanted o (yielded ops a.tmps) = true) (ho : o.op = .build 42 #[]) (h : wpList Try.prog ops Q rest (a.put o.dst (.agg Blk.zero.cs.toArray)) w) : wpList Try.prog ops Q (o :: rest) a w := by
  refine wpList_val hw _ _ ?_ h
  simp only [execOp, ho, Sem.run_bind, List.map_toArray, List.map_nil, build36]; rfl
theorem at_load (hw : Region.wanted o (yielded ops a.tmps) = true) (x : Operand) (ho : o.op = .load 42 x) (b off : Nat) (hx : a.eval x = .pointer (some ⟨b, off, none⟩)) (c : Blk) (hc : w.rangeAt b off c.cs)
    (h : wpList Try.prog ops Q rest (a.put o.dst (.agg c.cs.toArray)) w) : wpList Try.prog ops Q (o :: rest) a w := by
  refine wpList_val hw _ _ ?_ h
  simp [execOp, ho, hx, Instr.loadAt, Instr.sureAddr, load36 hc]
theorem at_store (hw : Region.wanted o (yielded ops a.tmps) = true) (x y : Operand) (ho : o.op = .store 42 x y) (b off : Nat) (hx : a.eval x = .pointer (some ⟨b, off, none⟩)) (c : Blk) (hy : a.eval y = .agg c.cs.toArray) (ht : w.there b off 64)
    (h : wpList Try.prog ops Q rest (a.put o.dst undef) (w.setCells b off c.cs)) : wpList Try.prog ops Q (o :: rest) a w := by
  refine wpList_unit hw _ ?_ h
  simp only [execOp, ho, hx, hy, Instr.storeAt, Instr.sureAddr, Sem.run_bind, Sem.run_pure, Result.andThen_ok]
  rw [run_storeVar_mid w b off _ c.cs.toArray (by rw [List.size_toArray, c.cs_len]; exact ht) (size36' c) c.arr]
  simp
theorem at_look {t E : TypeId} {b : Nat} {f : Int → Option Value} (hw : Region.wanted o (yielded ops a.tmps) = true) (x y : Operand) (ho : o.op = .lookup t x y false) (ht : Try.prog.underlying t = some (.map 3 E)) (z : Value) (hz : (zeroValue E).run Try.prog w = .ok z w)
    (k : Int) (hx : a.eval x = .map (some b)) (hy : a.eval y = .int .i64 k) (hm : MpI Try.prog 3 w b f) (hk : (Lit.int .i64 k).wf = true) (h : wpList Try.prog ops Q rest (a.put o.dst ((f k).getD z)) w) : wpList Try.prog ops Q (o :: rest) a w := by
  refine wpList_val hw _ _ ?_ h
  simp [execOp, ho, hx, hy, hm.look u3 ht hz hk]
end
theorem setCells_made (w : World) (t : TypeId) (b c : Blk) : (w.alloc (.cells b.cs.toArray t)).setCells w.heap.size 0 c.cs = w.alloc (.cells c.cs.toArray t) := by
  have key : ∀ t', (w.alloc (.cells b.cs.toArray t')).setCells w.heap.size 0 c.cs = w.alloc (.cells c.cs.toArray t') := fun t' => by
    have := (run_storeCells_cells (P := Try.prog) w.heap.size 0 c.cs 0 (w.alloc (.cells b.cs.toArray t')) (fun j hj => by
      have := (made_there w b.cs.toArray t' j (by rw [List.size_toArray, b.cs_len]; rw [c.cs_len] at hj; exact hj)).1; simpa using this) (fun j hj => by
      have := (made_there w b.cs.toArray t' j (by rw [List.size_toArray, b.cs_len]; rw [c.cs_len] at hj; exact hj)).2; simp) c.cs_one)
    have hr := run_storeCells_at Try.prog w.heap.size 0 t' c.cs 0 b.cs.toArray (w.alloc (.cells b.cs.toArray t')) (heap_alloc_new w _) (by rw [List.size_toArray, b.cs_len, c.cs_len]; omega) c.cs_one
    simp only [Nat.add_zero, Nat.zero_add] at this hr
    rw [this] at hr
    injection hr with _ hr
    rw [hr, World.setRow_alloc_new]
    congr 2
    simp [b.cs_len, c.cs_len]
  exact key t

/-- A slice of blocks that reads as the list l. -/
structure Bls (w : World) (a : Option Addr) (n c : Nat) (l : List Blk) : Prop where
  len : l.length = n
  le : n ≤ c
  cap : c ≤ maxLen
  cell : 0 < n → ∃ b o, a = some ⟨b, o, none⟩ ∧ ∀ i, i < n → w.rangeAt b (o + i * 64) (l.getD i Blk.zero).cs
theorem Bls.nilSlice (w : World) : Bls w none 0 0 [] := ⟨rfl, Nat.le_refl _, by decide, fun h => absurd h (by omega)⟩
theorem Bls.step {F : Nat → Prop} {w w' : World} {a : Option Addr} {n c : Nat} {l : List Blk} (h : Bls w a n c l) (k : Stp F w w') (hF : ∀ x : Addr, a = some x → ¬ F x.block) : Bls w' a n c l :=
  ⟨h.len, h.le, h.cap, fun hn => by obtain ⟨b, o, rfl, hc⟩ := h.cell hn; exact ⟨b, o, rfl, fun i hi => k.range (hc i hi) (hF _ rfl)⟩⟩
def flat (l : List Blk) : List Value := l.flatMap Blk.cs
theorem flat_len (l : List Blk) : (flat l).length = l.length * 64 := by
  unfold flat
  induction l with
  | nil => rfl
  | cons a r ih => rw [List.flatMap_cons, List.length_append, ih, a.cs_len, List.length_cons]; omega
theorem flat_get : ∀ (l : List Blk) (i j : Nat), i < l.length → j < 64 → (flat l)[i * 64 + j]? = (l.getD i Blk.zero).cs[j]?
  | [], i, j, h, _ => by simp at h
  | a :: r, 0, j, _, hj => by
    unfold flat; rw [List.flatMap_cons, List.getElem?_append_left (by rw [a.cs_len]; omega)]; simp
  | a :: r, i + 1, j, h, hj => by
    have := flat_get r i j (by simpa using h) hj
    unfold flat at *
    rw [List.flatMap_cons, List.getElem?_append_right (by rw [a.cs_len]; omega), a.cs_len, show (i + 1) * 64 + j - 64 = i * 64 + j by omega, this]; simp
theorem flat_one (l : List Blk) : ∀ v ∈ flat l, v.oneCell' = true := by
  intro v hv; unfold flat at hv; obtain ⟨b, _, hb⟩ := List.mem_flatMap.1 hv; exact b.cs_one v hb
theorem flat_snoc (l : List Blk) (b : Blk) : flat (l ++ [b]) = flat l ++ b.cs := by unfold flat; simp
/-- A slice that owns its row reads so. -/
theorem Bls.own {w : World} {r n c : Nat} {l : List Blk} (h : w.ownsRow 0 42 64 (.slice (some ⟨r, 0, none⟩) n c) n (flat l)) (hl : l.length = n) : Bls w (some ⟨r, 0, none⟩) n c l := by
  have hcs := h.cells (g := r) rfl
  rcases h.2 with ⟨e, _⟩ | ⟨g, cap, cur, e, _, hg, h1, h2, h3, h4⟩
  · injection e with e; cases e
  · injection e with e e2 e3; subst e3
    refine ⟨hl, h1, h2, fun hn => ⟨r, 0, rfl, fun i hi j v hv => ?_⟩⟩
    have hj : j < 64 := by have := (List.getElem?_eq_some_iff.1 hv).1; rw [Blk.cs_len] at this; exact this
    have := hcs (i * 64 + j) v (by rw [flat_get l i j (by omega) hj]; exact hv)
    rw [Addr.add_mid] at this
    rw [show 0 + i * 64 + j = 0 + (i * 64 + j) by omega]; exact this
/-- The first k of it. -/
theorem Bls.take {w : World} {a : Option Addr} {n c k : Nat} {l : List Blk} (h : Bls w a n c l) (hk : k ≤ n) : Bls w a k c (l.take k) := by
  have hl := h.len
  refine ⟨by simp; omega, Nat.le_trans hk h.le, h.cap, fun h0 => ?_⟩
  obtain ⟨b, o, e, hc⟩ := h.cell (by omega)
  refine ⟨b, o, e, fun i hi => ?_⟩
  have := hc i (by omega)
  rw [List.getD_eq_getElem?_getD] at this ⊢
  rw [List.getElem?_take, if_pos hi]; exact this

/-- What a disk holds: how many sectors, what is stable, what waits, how many writes. -/
structure DS where
  n : Nat
  st : Int → Blk
  wt : Int → List Blk
  wr : Int
abbrev DS.inn (S : DS) (k : Int) : Prop := 0 ≤ k ∧ k < S.n
structure DS.ok (S : DS) : Prop where
  n1 : 1 ≤ S.n
  n2 : S.n ≤ 2048
  st : ∀ k, ¬ S.inn k → S.st k = Blk.zero
  wt : ∀ k, ¬ S.inn k → S.wt k = []
def stF (S : DS) : Int → Option Value := fun k => if S.st k = Blk.zero then none else some (.agg (S.st k).cs.toArray)
theorem stF_get (S : DS) (k : Int) : (stF S k).getD (.agg Blk.zero.cs.toArray) = .agg (S.st k).cs.toArray := by
  unfold stF; split <;> rename_i h
  · rw [h]; rfl
  · rfl
theorem stF_few {S : DS} (h : S.ok) : ∀ k, (stF S k).isSome → 0 ≤ k ∧ k < 2048 := fun k hk => by
  have : S.inn k := Decidable.byContradiction fun hn => by unfold stF at hk; rw [if_pos (h.st k hn)] at hk; cases hk
  unfold DS.inn at this; have := h.n2; omega
/-- The code's disk at g: its maps at m1, m2; f: what the second one holds; F: the blocks that it takes. -/
structure Dk (w : World) (g : Nat) (sp : Value) (m1 m2 : Nat) (S : DS) (f : Int → Option Value) (F : Nat → Prop) : Prop where
  c0 : w.cell? ⟨g, 0, none⟩ = some (.int .i64 S.n)
  c1 : w.cell? ⟨g, 1, none⟩ = some sp
  c2 : w.cell? ⟨g, 2, none⟩ = some (.map (some m1))
  c3 : w.cell? ⟨g, 3, none⟩ = some (.map (some m2))
  c4 : w.cell? ⟨g, 4, none⟩ = some (.int .i64 S.wr)
  z4 : w.frozen? ⟨g, 4, none⟩ = false
  st : MpI Try.prog 3 w m1 (stF S)
  ok : S.ok
  fg : F g
  f1 : F m1
  f2 : F m2
  ne : m1 ≠ m2
  lt : ∀ x, F x → x < w.heap.size
  w0 : ∀ k, S.wt k = [] → f k = none
  w1 : ∀ k, S.wt k ≠ [] → ∃ r c, f k = some (.slice (some ⟨r, 0, none⟩) (S.wt k).length c) ∧ F r ∧ r ≠ g ∧ w.ownsRow 0 42 64 (.slice (some ⟨r, 0, none⟩) (S.wt k).length c) (S.wt k).length (flat (S.wt k))
  apart : ∀ k k' r, (f k).bind Value.ownBlock = some r → (f k').bind Value.ownBlock = some r → k = k'
/-- Nothing of it changed. -/
theorem Dk.step {B F : Nat → Prop} {w w' : World} {g m1 m2 : Nat} {sp : Value} {S : DS} {f : Int → Option Value} (h : Dk w g sp m1 m2 S f F) (k : Stp B w w') (hB : ∀ x, F x → ¬ B x) : Dk w' g sp m1 m2 S f F := by
  have hg := hB g h.fg
  refine ⟨k.cell h.c0 hg, k.cell h.c1 hg, k.cell h.c2 hg, k.cell h.c3 hg, k.cell h.c4 hg, by rw [k.frozen (p := ⟨g, 4, none⟩) (h.lt g h.fg) hg]; exact h.z4, h.st.step k (hB m1 h.f1), h.ok, h.fg, h.f1, h.f2, h.ne,
    fun x hx => Nat.lt_of_lt_of_le (h.lt x hx) k.size, h.w0, fun j hj => ?_, h.apart⟩
  obtain ⟨r, c, e, hF, hr, ho⟩ := h.w1 j hj
  refine ⟨r, c, e, hF, hr, ho.1, ?_⟩
  rcases ho.2 with h2 | ⟨g', cap, cur, e2, e3, e4, e5⟩
  · exact .inl h2
  · refine .inr ⟨g', cap, cur, e2, e3, ?_, e5⟩
    have : g' = r := by injection e2 with e2; injection e2 with e2; injection e2 with e2; exact e2.symm
    subst this
    rw [k.block g' (h.lt g' hF) (hB g' hF)]; exact e4
/-- What waits at k, as a slice. -/
theorem Dk.waits {F : Nat → Prop} {w : World} {g m1 m2 : Nat} {sp : Value} {S : DS} {f : Int → Option Value} (h : Dk w g sp m1 m2 S f F) (k : Int) : ∃ a c, (f k).getD (.slice none 0 0) = .slice a (S.wt k).length c ∧ Bls w a (S.wt k).length c (S.wt k) := by
  by_cases e : S.wt k = []
  · rw [h.w0 k e, e]; exact ⟨none, 0, rfl, Bls.nilSlice w⟩
  · obtain ⟨r, c, e1, _, _, ho⟩ := h.w1 k e
    rw [e1]; exact ⟨_, c, rfl, Bls.own ho rfl⟩
/-- The disk, whole. -/
def Disk (w : World) (g : Nat) (sp : Value) (S : DS) (F : Nat → Prop) : Prop := ∃ m1 m2 f, Dk w g sp m1 m2 S f F ∧ MpI Try.prog 3 w m2 f
theorem Disk.step {B F : Nat → Prop} {w w' : World} {g : Nat} {sp : Value} {S : DS} (h : Disk w g sp S F) (k : Stp B w w') (hB : ∀ x, F x → ¬ B x) : Disk w' g sp S F := by
  obtain ⟨m1, m2, f, h1, h2⟩ := h
  exact ⟨m1, m2, f, h1.step k hB, h2.step k (hB m2 h1.f2)⟩
theorem Disk.lt {F : Nat → Prop} {w : World} {g : Nat} {sp : Value} {S : DS} (h : Disk w g sp S F) : ∀ x, F x → x < w.heap.size := by obtain ⟨m1, m2, f, h1, h2⟩ := h; exact h1.lt
theorem Disk.ok {F : Nat → Prop} {w : World} {g : Nat} {sp : Value} {S : DS} (h : Disk w g sp S F) : S.ok := by obtain ⟨m1, m2, f, h1, h2⟩ := h; exact h1.ok
end Go.Proofs.Ytecedklfdmbnpaa
