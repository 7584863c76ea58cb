/-
  Maps of sectors by numbers, counted; what Mend of layer 8 returns, for every disk: no statement is proved here.
-/
import Derived.Test.YtjbgcbokffaemaaSupI
namespace Go.Proofs.Ytjbgcbokffaemaa
open Go.ChangeShapes Go.WideShapes Go.ChangeAt Go.RowKit
set_option linter.unusedVariables false

def vB (f : Int → Option Blk) : Int → Option Value := fun k => (f k).map fun x => .agg x.cs.toArray
def updB (f : Int → Option Blk) (k : Int) (v : Blk) : Int → Option Blk := fun x => if x = k then some v else f x
theorem vB_upd (f : Int → Option Blk) (k : Int) (v : Blk) : upd (vB f) k (some (.agg v.cs.toArray)) = vB (updB f k v) := by
  funext x; unfold upd vB updB
  by_cases h : x = k
  · simp [h]
  · simp [h]
/-- Block b is a map of n sectors, at just the keys of f. -/
def MpN (w : World) (b : Nat) (f : Int → Option Blk) (n : Nat) : Prop :=
  ∃ D, w.ownsMap Try.prog 3 heldElem b 4096 D ∧ Reads D (vB f) ∧ Maps.size D = n
theorem uInt : Try.prog.underlying 3 = some (.int .i64) := by kernel_rfl
theorem uMap : Try.prog.underlying 43 = some (.map 3 32) := by kernel_rfl
theorem zBlk (w : World) : (zeroValue 32).run Try.prog w = .ok (.agg Blk.zero.cs.toArray) w := arrB.zero w
section
variable {w w' : World} {b n : Nat} {f : Int → Option Blk} {F : Nat → Prop}
theorem MpN.mp (h : MpN w b f n) : MpI Try.prog 3 w b (vB f) := by obtain ⟨D, h1, h2, _⟩ := h; exact ⟨D, h1, h2⟩
theorem MpN.lt (h : MpN w b f n) : b < w.heap.size := h.mp.lt
theorem MpN.step (h : MpN w b f n) (k : Stp F w w') (hb : ¬ F b) : MpN w' b f n := by
  have hl := h.lt
  obtain ⟨D, ⟨es, clock, hh, rest⟩, hR⟩ := h
  exact ⟨D, ⟨es, clock, (k.block b hl hb).trans hh, rest⟩, hR⟩
theorem MpN.later (h : MpN w b f n) (k : Below w.heap.size w w') : MpN w' b f n := h.step (Stp.of_below k (fun _ => False)) id
theorem MpN.made (w : World) : MpN (w.alloc (.map #[] 0)) w.heap.size (fun _ => none) 0 :=
  ⟨_, (World.ownsMap_made w Try.prog 3 heldElem).mono (by omega), reads_empty, rfl⟩
theorem MpN.len (h : MpN w b f n) (ty : TypeId) : (Builtin.len_ #[43] ty #[.map (some b)]).run Try.prog w = .ok (.int .i64 (n : Int)) w := by
  obtain ⟨D, h1, _, h3⟩ := h
  rw [h1.len uMap ty, h3]
set_option maxRecDepth 100000 in
theorem MpN.look2 (h : MpN w b f n) {k : Int} (hw : (Lit.int .i64 k).wf = true) : (Instr.lookup 43 (.map (some b)) (.int .i64 k) true).run Try.prog w = .ok (.tuple #[.agg ((f k).getD Blk.zero).cs.toArray, .bool (f k).isSome]) w := by
  obtain ⟨D, h1, hR, _⟩ := h
  obtain ⟨v, ps, hr, h2⟩ := h1.look_ok (Maps.int_keyed uInt) uMap (zBlk w) (zd := .held (.agg Blk.zero.cs.toArray)) (zp := []) rfl (wfI hw uInt)
  rw [hr, hR.has k]
  have e : DataW.held v = D.atKey (keyI k) (.held (.agg Blk.zero.cs.toArray)) := by injection h2 with h2; injection h2
  cases ef : f k with
  | none =>
    have ev : vB f k = none := by unfold vB; rw [ef]; rfl
    rw [Maps.atKey_of_not_has (hR.none ev)] at e; injection e with e; rw [e, ev]; rfl
  | some u =>
    have ev : vB f k = some (.agg u.cs.toArray) := by unfold vB; rw [ef]; rfl
    rw [hR.some ev] at e; injection e with e; rw [e, ev]; rfl
theorem MpN.store (h : MpN w b f n) (hn : n < 4000) {k : Int} (hw : (Lit.int .i64 k).wf = true) (hk : f k = none) (v : Blk) :
    ∃ w', (Instr.mapUpdate 43 (.map (some b)) (.int .i64 k) (.agg v.cs.toArray)).run Try.prog w = .ok () w' ∧ MpN w' b (updB f k v) (n + 1) ∧ Stp (fun x => x = b) w w' := by
  obtain ⟨D, h1, hR, hS⟩ := h
  have h0 : w.ownsMap Try.prog 3 heldElem b n D := by
    obtain ⟨es, clock, hb, Ft, hs, hD⟩ := h1
    refine ⟨es, clock, hb, Ft, ?_, hD⟩
    rw [← hS, hD]; simp [Maps.size, length_sorted]
  obtain ⟨w', r1, r2, r3⟩ := h0.store (Maps.int_keyed uInt) uMap (by unfold maxLen; omega) (wfI hw uInt) (val := .agg v.cs.toArray) (d := .held (.agg v.cs.toArray)) (ps := []) rfl
  refine ⟨w', r1, ⟨_, r2.mono (by omega), ?_, ?_⟩, Stp.of_grown r3.grown (by rintro x e; injection e with e; exact .inl e.symm)⟩
  · rw [← vB_upd]; exact hR.put h1.isMap k _
  · rw [Maps.size_put (h1.tidy (Maps.int_keyed uInt)), hR.none (by unfold vB; rw [hk]; rfl), hS]; rfl
end
/-- A map, or none. -/
def MpV (w : World) (v : Value) (f : Int → Option Blk) (n : Nat) : Prop := (v = .map none ∧ f = (fun _ => none) ∧ n = 0) ∨ ∃ b, v = .map (some b) ∧ MpN w b f n
section
variable {w w' : World} {v : Value} {n : Nat} {f : Int → Option Blk} {F : Nat → Prop}
theorem MpV.step (h : MpV w v f n) (k : Stp F w w') (hb : ∀ b, v = .map (some b) → ¬ F b) : MpV w' v f n := by
  rcases h with h | ⟨b, e, h⟩
  · exact .inl h
  · exact .inr ⟨b, e, h.step k (hb b e)⟩
theorem MpV.later (h : MpV w v f n) (k : Below w.heap.size w w') : MpV w' v f n := h.step (Stp.of_below k (fun _ => False)) (fun _ _ => id)
theorem MpV.len (h : MpV w v f n) (ty : TypeId) : (Builtin.len_ #[43] ty #[v]).run Try.prog w = .ok (.int .i64 (n : Int)) w := by
  rcases h with ⟨rfl, _, rfl⟩ | ⟨b, rfl, h⟩
  · exact Maps.len_nil uMap ty
  · exact h.len ty
theorem MpV.look2 (h : MpV w v f n) {k : Int} (hw : (Lit.int .i64 k).wf = true) : (Instr.lookup 43 v (.int .i64 k) true).run Try.prog w = .ok (.tuple #[.agg ((f k).getD Blk.zero).cs.toArray, .bool (f k).isSome]) w := by
  rcases h with ⟨rfl, rfl, rfl⟩ | ⟨b, rfl, h⟩
  · exact Maps.look_nil true (Maps.int_keyed uInt) uMap (zBlk w) (wfI hw uInt)
  · exact h.look2 hw
end
section
variable {ops : Array Oper} {rest : List Oper} {o : Oper} {a : Act} {w : World} {Q : Exit → Act → World → Prop}
theorem at_mkm (hw : Region.wanted o (yielded ops a.tmps) = true) (ho : o.op = .makeMap 43 none)
    (h : ∀ b w', w.heap.size ≤ b → MpN w' b (fun _ => none) 0 → Below w.heap.size w w' → wpList Try.prog ops Q rest (a.put o.dst (.map (some b))) w') : wpList Try.prog ops Q (o :: rest) a w := by
  refine op_val hw _ _ ?_ (h w.heap.size (w.alloc (.map #[] 0)) (Nat.le_refl _) (MpN.made w) ((Below.refl _ _).alloc (Nat.le_refl _) _))
  have : (Instr.makeMap 43 none).run Try.prog w = .ok (.map (some w.heap.size)) (w.alloc (.map #[] 0)) := rfl
  simp [execOp, ho, this]
theorem at_mput (hw : Region.wanted o (yielded ops a.tmps) = true) (m x y : Operand) (ho : o.op = .mapUpdate 43 m x y) (b n : Nat) (f : Int → Option Blk) (hm : a.eval m = .map (some b)) (k : Int) (hx : a.eval x = .int .i64 k) (v : Blk) (hy : a.eval y = .agg v.cs.toArray)
    (hM : MpN w b f n) (hn : n < 4000) (hk : (Lit.int .i64 k).wf = true) (h0 : f k = none)
    (h : ∀ w', MpN w' b (updB f k v) (n + 1) → Stp (fun x => x = b) w w' → wpList Try.prog ops Q rest (a.put o.dst undef) w') : wpList Try.prog ops Q (o :: rest) a w := by
  obtain ⟨w', r1, r2, r3⟩ := hM.store hn hk h0 v
  refine op_unit hw _ ?_ (h w' r2 r3)
  simp [execOp, ho, hm, hx, hy, r1]
theorem at_mlen (hw : Region.wanted o (yielded ops a.tmps) = true) (m : Operand) (ho : o.op = .call { callee := .builtin .len, args := #[m], argTypes := #[43] }) (v : Value) (n : Nat) (f : Int → Option Blk) (hm : a.eval m = v) (hM : MpV w v f n)
    (h : wpList Try.prog ops Q rest (a.put o.dst (.int .i64 (n : Int))) w) : wpList Try.prog ops Q (o :: rest) a w := by
  refine op_val hw _ _ ?_ h
  simp [execOp, ho, resolve, invoke, builtin, hm, hM.len o.type, Result.andThen]
theorem at_mlook (hw : Region.wanted o (yielded ops a.tmps) = true) (m x : Operand) (ho : o.op = .lookup 43 m x true) (v : Value) (n : Nat) (f : Int → Option Blk) (hm : a.eval m = v) (hM : MpV w v f n) (k : Int) (hx : a.eval x = .int .i64 k) (hk : (Lit.int .i64 k).wf = true)
    (h : wpList Try.prog ops Q rest (a.put o.dst (.tuple #[.agg ((f k).getD Blk.zero).cs.toArray, .bool (f k).isSome])) w) : wpList Try.prog ops Q (o :: rest) a w := by
  refine op_val hw _ _ ?_ h
  simp [execOp, ho, hm, hx, hM.look2 hk]
end
/-- What must be written of the first k sectors. -/
def fK (l : List Blk) (k : Nat) : Int → Option Blk := fun j => if j < (k : Int) then mdF l j else none
def nK (l : List Blk) (k : Nat) : Nat := (if 0 < k then (d0 l).toNat else 0) + (if 1 < k then (d1 l).toNat else 0)
theorem fK_zero (l : List Blk) : fK l 0 = fun _ => none := by
  funext j; unfold fK mdF
  by_cases h : j < 0
  · have h0 : ¬ j = 0 := by omega
    have h1 : ¬ j = 1 := by omega
    simp [h0, h1]
  · rw [if_neg (by omega)]
theorem fK_two (l : List Blk) : fK l 2 = mdF l := by
  funext j; unfold fK mdF
  by_cases h : j < 2
  · rw [if_pos (by omega)]
  · have h0 : ¬ j = 0 := by omega
    have h1 : ¬ j = 1 := by omega
    rw [if_neg (by omega)]; simp [h0, h1]
theorem nK_two {l : List Blk} (h : fdE l = 0) : nK l 2 = mdN l := by unfold nK mdN; simp [h]
theorem nK_le (l : List Blk) (k : Nat) : nK l k ≤ 2 := by
  have h0 : (d0 l).toNat ≤ 1 := by cases d0 l <;> decide
  have h1 : (d1 l).toNat ≤ 1 := by cases d1 l <;> decide
  unfold nK; split <;> split <;> omega
theorem fK_self (l : List Blk) (k : Nat) : fK l k (k : Int) = none := if_neg (by omega)
theorem fK_no {l : List Blk} {k : Nat} (hk : k < 2) (h : fdE l = 0) (hd : dueB (l.getD k Blk.zero) (mdP l) = false) : fK l (k + 1) = fK l k ∧ nK l (k + 1) = nK l k := by
  have : k = 0 ∨ k = 1 := by omega
  rcases this with rfl | rfl
  · rw [getD0] at hd
    have hd' : d0 l = false := hd
    refine ⟨?_, by unfold nK; simp [hd']⟩
    rw [fK_zero]
    funext j; unfold fK mdF
    by_cases h0 : j = 0
    · simp [h0, hd', h]
    · by_cases hj : j < ((0 + 1 : Nat) : Int)
      · have h1 : ¬ j = 1 := by omega
        simp [h0, h1]
      · rw [if_neg hj]
  · rw [getD1] at hd
    have hd' : d1 l = false := hd
    refine ⟨?_, by unfold nK; simp [hd']⟩
    rw [fK_two]
    funext j; unfold fK mdF
    by_cases h0 : j = 1
    · simp [h0, hd', h]
    · by_cases hj : j < ((1 : Nat) : Int)
      · rw [if_pos hj]
      · have h1 : ¬ j = 0 := by omega
        rw [if_neg hj]; simp [h0, h1]
theorem fK_yes {l : List Blk} {k : Nat} (hk : k < 2) (h : fdE l = 0) (hd : dueB (l.getD k Blk.zero) (mdP l) = true) : fK l (k + 1) = updB (fK l k) (k : Int) (nx (l.getD k Blk.zero) (mdP l)) ∧ nK l (k + 1) = nK l k + 1 := by
  have : k = 0 ∨ k = 1 := by omega
  rcases this with rfl | rfl
  · rw [getD0] at hd ⊢
    have hd' : d0 l = true := hd
    refine ⟨?_, by unfold nK; simp [hd']⟩
    rw [fK_zero]
    funext j; unfold fK mdF updB
    by_cases h0 : j = 0
    · simp [h0, hd', h]
    · have h0' : ¬ j = ((0 : Nat) : Int) := h0
      rw [if_neg h0']
      by_cases hj : j < ((0 + 1 : Nat) : Int)
      · have h1 : ¬ j = 1 := by omega
        simp [h0, h1]
      · rw [if_neg hj]
  · rw [getD1] at hd ⊢
    have hd' : d1 l = true := hd
    refine ⟨?_, by unfold nK; simp [hd']⟩
    rw [fK_two]
    funext j; unfold fK mdF updB
    by_cases h0 : j = 1
    · simp [h0, hd', h]
    · have h0' : ¬ j = ((1 : Nat) : Int) := h0
      rw [if_neg h0']
      dsimp only
      by_cases hj : j < ((1 : Nat) : Int)
      · rw [if_pos hj]
      · have h1 : ¬ j = 0 := by omega
        rw [if_neg hj]; simp [h0, h1]
end Go.Proofs.Ytjbgcbokffaemaa
