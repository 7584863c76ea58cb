/-
  Slices of the document's changes (a number and a sector), in memory: no statement is proved here.
-/
import Derived.Test.YtjbgcbokffaemaaSupK
import Derived.Test.YtjbgcbokffaemaaSealJ
import Derived.Great.BuildSlice
namespace Go.Proofs.Ytjbgcbokffaemaa
open Go.ChangeShapes Go.WideShapes Go.ChangeAt Go.RowKit
set_option linter.unusedVariables false

/-- A change's cells. -/
def chc (x : Nat × Blk) : List Value := .int .i64 (x.1 : Int) :: x.2.cs
theorem chc_len (x : Nat × Blk) : (chc x).length = 65 := by unfold chc; simp [x.2.cs_len]
theorem chc_one (x : Nat × Blk) : ∀ v ∈ chc x, v.oneCell' = true := by
  intro v hv; unfold chc at hv
  rcases List.mem_cons.1 hv with rfl | h
  · rfl
  · exact x.2.cs_one v h
def flatC (l : List (Nat × Blk)) : List Value := l.flatMap chc
theorem flatC_len (l : List (Nat × Blk)) : (flatC l).length = l.length * 65 := by
  unfold flatC
  induction l with
  | nil => rfl
  | cons a r ih => rw [List.flatMap_cons, List.length_append, ih, chc_len, List.length_cons]; omega
theorem flatC_get : ∀ (l : List (Nat × Blk)) (i j : Nat), i < l.length → j < 65 → (flatC l)[i * 65 + j]? = (chc (l.getD i (0, Blk.zero)))[j]?
  | [], i, j, h, _ => by simp at h
  | a :: r, 0, j, _, hj => by
    unfold flatC; rw [List.flatMap_cons, List.getElem?_append_left (by rw [chc_len]; omega)]; simp
  | a :: r, i + 1, j, h, hj => by
    have := flatC_get r i j (by simpa using h) hj
    unfold flatC at *
    rw [List.flatMap_cons, List.getElem?_append_right (by rw [chc_len]; omega), chc_len, show (i + 1) * 65 + j - 65 = i * 65 + j by omega, this]; simp
theorem flatC_snoc (l : List (Nat × Blk)) (x : Nat × Blk) : flatC (l ++ [x]) = flatC l ++ chc x := by unfold flatC; simp
theorem fold_set : ∀ (vs : List Value) (off j : Nat) (cs : List Value), off + j + vs.length ≤ cs.length →
    (vs.zipIdx j).foldl (fun (a : Array Value) (x : Value × Nat) => a.setIfInBounds (off + x.2) x.1) cs.toArray = (cs.take (off + j) ++ vs ++ cs.drop (off + j + vs.length)).toArray
  | [], off, j, cs, h => by simp
  | v :: r, off, j, cs, h => by
    have hl : off + j < cs.length := by simp at h; omega
    rw [List.zipIdx_cons, List.foldl_cons]
    simp only [List.setIfInBounds_toArray]
    rw [fold_set r off (j + 1) (cs.set (off + j) v) (by simp at h ⊢; omega)]
    congr 1
    have e1 : (cs.set (off + j) v).take (off + (j + 1)) = cs.take (off + j) ++ [v] := by
      rw [show off + (j + 1) = off + j + 1 by omega, List.take_add_one, List.getElem?_set_self hl, List.take_set, List.set_eq_of_length_le (by simp; omega)]; rfl
    have e2 : (cs.set (off + j) v).drop (off + (j + 1) + r.length) = cs.drop (off + j + (v :: r).length) := by
      rw [List.drop_set_of_lt (by omega)]
      congr 1; simp; omega
    rw [e1, e2]; simp
theorem infoC : (Try.prog.info? 51).map (fun i => (i.zero, i.size, i.bytes)) = some (some (.agg (Value.int .i64 0 :: List.replicate 64 (.int .u8 0)).toArray), 65, 72) := by kernel_rfl
theorem uChs : Try.prog.underlying 46 = some (.slice 51) := by kernel_rfl
theorem fill_ch (k : Int) (b : Blk) (Z : List Value) (hZ : Z.length = 64) : Instr.fill ([(0, 1), (1, 64)].toArray[·]?) (Value.int .i64 0 :: Z).toArray [(0, .int .i64 k), (1, .agg b.cs.toArray)] = some (Value.int .i64 k :: b.cs).toArray := by
  have hf := fold_set b.cs 1 0 (Value.int .i64 k :: Z) (by simp [hZ, b.cs_len])
  have hd : (Value.int .i64 k :: Z).drop (1 + 0 + b.cs.length) = [] := List.drop_of_length_le (by simp [hZ, b.cs_len])
  rw [hd] at hf
  simp only [Instr.fill, Value.cells]
  simp [hZ, b.cs_len]
  simpa using hf
theorem build_ch (k : Int) (b : Blk) (w : World) : (Instr.build 51 #[(0, .int .i64 k), (1, .agg b.cs.toArray)]).run Try.prog w = .ok (.agg (Value.int .i64 k :: b.cs).toArray) w := by
  refine run_build w _ _ _ ?_
  have h : Try.prog.built 51 [(0, .int .i64 k), (1, .agg b.cs.toArray)] = Instr.fill ([(0, 1), (1, 64)].toArray[·]?) (Value.int .i64 0 :: List.replicate 64 (.int .u8 0)).toArray [(0, .int .i64 k), (1, .agg b.cs.toArray)] := by kernel_rfl
  refine h.trans (fill_ch k b _ (by simp))
theorem bslice_ch (x : Nat × Blk) (w : World) : (Instr.buildSlice 46 1 #[(0, .agg (chc x).toArray)]).run Try.prog w = .ok (.slice (some ⟨w.heap.size, 0, none⟩) 1 1) (w.alloc (.cells (chc x).toArray 51)) := by
  obtain ⟨ie, hie, hz, hs, hb⟩ := info_parts infoC
  refine run_buildSlice w _ _ 1 _ (chc x).toArray ie _ uChs hie hz (by rw [hs]; omega) (by rw [hs]; omega) ?_
  rw [hs]
  have := Great.fill_whole (s := 65) (by omega) [.agg (chc x).toArray] ((Array.range (1 * 65)).map ((Value.agg (Value.int .i64 0 :: List.replicate 64 (.int .u8 0)).toArray).cells[· % (Value.agg (Value.int .i64 0 :: List.replicate 64 (.int .u8 0)).toArray).cells.size]!)) (by intro v hv; simp at hv; subst hv; simp [Value.cells, chc_len]) (by simp)
  simpa [Value.cells] using this
/-- The slice at the head of block g is a call's own, and holds these changes. -/
def OwC (B : Nat) (w : World) (g cap : Nat) (l : List (Nat × Blk)) : Prop := w.ownsRow B 51 65 (.slice (some ⟨g, 0, none⟩) l.length cap) l.length (flatC l)
section
variable {B : Nat} {w w' : World} {g cap : Nat} {l : List (Nat × Blk)} {F : Nat → Prop}
theorem OwC.lt (h : OwC B w g cap l) : B ≤ g ∧ g < w.heap.size := own_lt h
theorem OwC.step (h : OwC B w g cap l) (k : Stp F w w') (hg : ¬ F g) : OwC B w' g cap l := by
  have hl := h.lt.2
  refine ⟨h.1, ?_⟩
  rcases h.2 with h2 | ⟨g', c', cur, e1, e2, e3, e4⟩
  · exact .inl h2
  · refine .inr ⟨g', c', cur, e1, e2, ?_, e4⟩
    have : g' = g := by injection e1 with e1; injection e1 with e1; injection e1 with e1; exact e1.symm
    subst this
    rw [k.block g' hl hg]; exact e3
theorem OwC.later (h : OwC B w g cap l) (k : Below w.heap.size w w') : OwC B w' g cap l := h.step (Stp.of_below k (fun _ => False)) id
theorem OwC.made (w : World) (hB : B ≤ w.heap.size) : OwC B (w.alloc (.cells #[] 51)) w.heap.size 0 [] := World.ownsRow_made w #[] 0 hB (Nat.zero_le _) rfl
theorem OwC.capB (h : OwC B w g cap l) : l.length ≤ cap ∧ cap ≤ maxLen := by
  rcases h.2 with ⟨e, _⟩ | ⟨g', c', cur, e1, e2, e3, e4, e5, _⟩
  · injection e with e; cases e
  · injection e1 with _ _ e1; subst e1; exact ⟨e4, e5⟩
theorem OwC.at (h : OwC B w g cap l) (j : Nat) (hj : j < l.length) : w.rangeAt g (j * 65) (chc (l.getD j (0, Blk.zero))) := fun i v hv => by
  have hi : i < 65 := by have := (List.getElem?_eq_some_iff.1 hv).1; rw [chc_len] at this; exact this
  have hcs := World.ownsRow.cells h (g := g) rfl
  have := hcs (j * 65 + i) v (by rw [flatC_get l j i hj hi]; exact hv)
  rw [Addr.add_mid, Nat.zero_add] at this; exact this
end
section
variable {ops : Array Oper} {rest : List Oper} {o : Oper} {a : Act} {w : World} {Q : Exit → Act → World → Prop}
theorem at_bldC (hw : Region.wanted o (yielded ops a.tmps) = true) (x y : Operand) (ho : o.op = .build 51 #[(0, x), (1, y)]) (k : Nat) (hx : a.eval x = .int .i64 (k : Int)) (b : Blk) (hy : a.eval y = .agg b.cs.toArray)
    (h : wpList Try.prog ops Q rest (a.put o.dst (.agg (chc (k, b)).toArray)) w) : wpList Try.prog ops Q (o :: rest) a w := by
  refine op_val hw _ _ ?_ h
  simp [execOp, ho, hx, hy, build_ch]; rfl
theorem at_bsC (hw : Region.wanted o (yielded ops a.tmps) = true) (x : Operand) (ho : o.op = .buildSlice 46 1 #[(0, x)]) (y : Nat × Blk) (hx : a.eval x = .agg (chc y).toArray)
    (h : ∀ g w', w.heap.size ≤ g → w'.rangeAt g 0 (chc y) → Below w.heap.size w w' → wpList Try.prog ops Q rest (a.put o.dst (.slice (some ⟨g, 0, none⟩) 1 1)) w') : wpList Try.prog ops Q (o :: rest) a w := by
  refine op_val hw _ _ ?_ (h w.heap.size _ (Nat.le_refl _) (made_range w (chc y) 51) ((Below.refl _ _).alloc (Nat.le_refl _) _))
  simp [execOp, ho, hx, bslice_ch]
theorem at_bs0C (hw : Region.wanted o (yielded ops a.tmps) = true) (ho : o.op = .buildSlice 46 0 #[])
    (h : ∀ g w', w.heap.size ≤ g → OwC w.heap.size w' g 0 [] → Below w.heap.size w w' → wpList Try.prog ops Q rest (a.put o.dst (.slice (some ⟨g, 0, none⟩) 0 0)) w') : wpList Try.prog ops Q (o :: rest) a w := by
  refine op_val hw _ _ ?_ (h w.heap.size _ (Nat.le_refl _) (OwC.made w (Nat.le_refl _)) ((Below.refl _ _).alloc (Nat.le_refl _) _))
  have : (Instr.buildSlice 46 0 #[]).run Try.prog w = .ok (.slice (some ⟨w.heap.size, 0, none⟩) 0 0) (w.alloc (.cells #[] 51)) := by kernel_rfl
  simp [execOp, ho, this]
theorem at_appC {B g cap : Nat} {l : List (Nat × Blk)} (hgd : o.guard = none) (s x : Operand)
    (ho : o.op = .call { callee := .builtin .append, args := #[s, x], argTypes := #[46, 46] }) (hs : a.eval s = .slice (some ⟨g, 0, none⟩) l.length cap) (h0 : OwC B w g cap l)
    (g2 : Nat) (y : Nat × Blk) (hx : a.eval x = .slice (some ⟨g2, 0, none⟩) 1 1) (hr : w.rangeAt g2 0 (chc y)) (hbig : l.length ≤ 100) (hB : B ≤ w.heap.size)
    (h : ∀ g' cap' w', OwC B w' g' cap' (l ++ [y]) → Stp (fun x => B ≤ x) w w' → wpList Try.prog ops Q rest (a.put o.dst (.slice (some ⟨g', 0, none⟩) (l ++ [y]).length cap')) w') : wpList Try.prog ops Q (o :: rest) a w := by
  obtain ⟨i0, hi, hz0, hz1, hz2⟩ := info_parts infoC
  refine wpList_append_own_at w hgd s x 46 ho B 51 i0 _ 65 72 uChs hi hz0 hz1 hz2 (by simp [Value.cells]) (by decide) _ l.length (flatC l) hs h0 ⟨g2, 0, none⟩ 1 1 (chc y) hx (by rw [chc_len]) (fun j u hj => by rw [Addr.add_mid]; exact hr j u hj) (chc_one y) (by unfold maxLen; omega) (by omega) hB ?_
  intro v' w' h1 h2 h3 h4
  obtain ⟨g', cap', rfl, _⟩ := own_some h1 (fun e => by have := (h3.1 e).2; omega)
  have hle : (l ++ [y]).length = l.length + 1 := by simp
  have := h g' cap' w' ?_ (Stp.of_grown h2 (fun x e => .inl ?_))
  · rwa [hle] at this
  · unfold OwC; rw [hle, flatC_snoc]; exact h1
  · have e' : some g = some x := e; injection e' with e'; subst e'; exact h0.lt.1
end
/-- A slice of changes that reads as the list L. -/
def ChV (w : World) (v : Value) (L : List (Nat × Blk)) : Prop := ∃ a c, v = .slice a L.length c ∧ L.length ≤ c ∧ c ≤ maxLen ∧ (0 < L.length → ∃ g, a = some ⟨g, 0, none⟩ ∧ ∀ j, j < L.length → w.rangeAt g (j * 65) (chc (L.getD j (0, Blk.zero))))
theorem ChV.later {w w' : World} {v : Value} {L : List (Nat × Blk)} (h : ChV w v L) (k : Below w.heap.size w w') : ChV w' v L := by
  obtain ⟨a, c, e, h1, h2, h3⟩ := h
  refine ⟨a, c, e, h1, h2, fun h0 => ?_⟩
  obtain ⟨g, e2, h4⟩ := h3 h0
  exact ⟨g, e2, fun j hj => (Stp.of_below k (fun _ => False)).range (h4 j hj) id⟩
end Go.Proofs.Ytjbgcbokffaemaa
