/-
  Slices of bytes that a call itself made, and 'append', also in a region that draws: no statement is proved here.
-/
import Derived.Test.YteceapdkgidenaaSealA
import Derived.Maps.AppendAt
namespace Go.Proofs.Yteceapdkgidenaa
open Go.ChangeShapes Go.WideShapes Go.ChangeAt Go.RowKit
set_option linter.unusedVariables false

theorem infoB1 : (Try.prog.info? 5).map (fun i => (i.zero, i.size, i.bytes)) = some (some (.int .u8 0), 1, 1) := by kernel_rfl
/-- The slice at the head of block g is the call's own (g lies behind B), and holds the bytes l. -/
def Own (B : Nat) (w : World) (g cap : Nat) (l : List UInt8) : Prop := w.ownsRow B 5 1 (.slice (some ⟨g, 0, none⟩) l.length cap) l.length (cells l)
section
variable {B : Nat} {w w' : World} {g cap : Nat} {l : List UInt8}
theorem Own.lt (h : Own B w g cap l) : B ≤ g ∧ g < w.heap.size := own_lt h
theorem Own.later (h : Own B w g cap l) (k : Below w.heap.size w w') : Own B w' g cap l := own_keep h (keep_below k []) (by simp)
theorem Own.range (h : Own B w g cap l) : w.rangeAt g 0 (cells l) := fun j v hv => by
  have hcs := World.ownsRow.cells h (g := g) rfl
  have := hcs j v hv
  rw [Addr.add_mid] at this; exact this
theorem cells_ints (l : List UInt8) : cells l = (ints l).map (Value.int .u8) := by unfold cells ints; rw [List.map_map]; rfl
theorem Own.bs (h : Own B w g cap l) : Bs w (some ⟨g, 0, none⟩) l.length cap (ints l) := by
  unfold Own at h
  rw [cells_ints] at h
  exact own_bs' h (ints_byte l)
theorem Own.made (w : World) (hB : B ≤ w.heap.size) : Own B (w.alloc (.cells #[] 5)) w.heap.size 0 [] := World.ownsRow_made w #[] 0 hB (Nat.zero_le _) rfl
/-- 'append(own, x...)'. -/
theorem at_app {ops : Array Oper} {rest : List Oper} {o : Oper} {a : Act} {Q : Exit → Act → World → Prop} (hgd : o.guard = none) (s x : Operand)
    (ho : o.op = .call { callee := .builtin .append, args := #[s, x], argTypes := #[24, 24] }) (n : Nat) (hs : a.eval s = .slice (some ⟨g, 0, none⟩) n cap) (h0 : Own B w g cap l) (hn : l.length = n)
    (ad : Addr) (m c : Nat) (l2 : List UInt8) (hx : a.eval x = .slice (some ad) m c) (hm : l2.length = m) (N : Nat) (hN : n + m = N) (hnews : ∀ j u, (cells l2)[j]? = some u → w.cell? (ad.add j) = some u) (hbig : l.length + l2.length ≤ 1000000) (hB : B ≤ w.heap.size)
    (h : ∀ g' cap' w', Own B w' g' cap' (l ++ l2) → Stp (fun x => B ≤ x) w w' → wpList Try.prog ops Q rest (a.put o.dst (.slice (some ⟨g', 0, none⟩) N cap')) w') : wpList Try.prog ops Q (o :: rest) a w := by
  obtain ⟨i0, hi, hz0, hz1, hz2⟩ := info_parts infoB1
  subst hn
  subst hN
  have hle : (l ++ l2).length = l.length + m := by rw [List.length_append, hm]
  refine wpList_append_own_at w hgd s x 24 ho B 5 i0 (.int .u8 0) 1 1 (by kernel_rfl) hi hz0 hz1 hz2 rfl (by decide) _ l.length (cells l) hs h0 ad m c (cells l2) hx (by simp [hm]) hnews (cells_one l2) (by unfold maxLen; omega) (by omega) hB ?_
  intro v' w' h1 h2 h3 h4
  obtain ⟨g', cap', rfl, _⟩ := own_some h1 (fun e => by have := (h3.1 e).1; cases this)
  refine h g' cap' w' ?_ (Stp.of_grown h2 (fun x e => .inl ?_))
  · unfold Own; rw [hle]; simpa [cells] using h1
  · have e' : some g = some x := e; injection e' with e'; subst e'; exact h0.lt.1
end
theorem Own.of {B : Nat} (w : World) (l : List UInt8) (cs : List Value) (hc : cells l = cs) (hB : B ≤ w.heap.size) (hm : l.length ≤ 1000) : Own B (w.alloc (.cells cs.toArray 5)) w.heap.size l.length l := by
  subst hc
  exact ⟨by simp, .inr ⟨w.heap.size, l.length, (cells l).toArray, rfl, hB, heap_alloc_new w _, Nat.le_refl _, by unfold maxLen; omega, by simp, by rw [List.take_of_length_le (by simp)]⟩⟩
theorem Own.cell {B : Nat} {w : World} {g cap : Nat} {l : List UInt8} (h : Own B w g cap l) (i : Nat) (hi : i < l.length) : w.cell? ⟨g, i, none⟩ = some (.int .u8 ((l.getD i 0).toNat : Int)) := by
  have := h.range i (.int .u8 ((l.getD i 0).toNat : Int)) (by
    rw [List.getElem?_map, List.getElem?_eq_getElem hi, List.getD_eq_getElem?_getD, List.getElem?_eq_getElem hi]; rfl)
  rwa [Nat.zero_add] at this
theorem Own.step {B : Nat} {w w' : World} {g cap : Nat} {l : List UInt8} {F : Nat → Prop} (h : Own B w g cap l) (k : Stp F w w') (hg : ¬ F g) : Own B w' g cap l := by
  have hl := h.lt.2
  refine ⟨h.1, ?_⟩
  rcases h.2 with h2 | ⟨g', c', cur, e1, e2, e3, e4⟩
  · exact .inl h2
  · refine .inr ⟨g', c', cur, e1, e2, ?_, e4⟩
    have : g' = g := by injection e1 with e1; injection e1 with e1; injection e1 with e1; exact e1.symm
    subst this
    rw [k.block g' hl hg]; exact e3
/-- A load of a whole array out of the head of a block. -/
theorem at_getR {ops : Array Oper} {rest : List Oper} {o : Oper} {a : Act} {w : World} {Q : Exit → Act → World → Prop} (T n : Nat) (hT : Arr T n) (hw : Region.wanted o (yielded ops a.tmps) = true) (x : Operand) (ho : o.op = .load T x) (g : Nat) (hx : a.eval x = .pointer (some ⟨g, 0, none⟩)) (l : List UInt8) (hR : w.rangeAt g 0 (cells l)) (hl : l.length = n)
    (h : wpList Try.prog ops Q rest (a.put o.dst (.agg (cells l).toArray)) w) : wpList Try.prog ops Q (o :: rest) a w := by
  refine op_val hw _ _ ?_ h
  have : (loadVar T ⟨g, 0, none⟩).run Try.prog w = .ok (.agg (cells l).toArray) w := run_loadVar_mid w g 0 _ (cells l) _ hR hT.und rfl (by rw [hT.size]; simp [hl])
  simp [execOp, ho, hx, Instr.loadAt, Instr.sureAddr, this]
section
variable {ops : Array Oper} {o : Oper} {a : Act} {w : World} {K : Act → World → Prop} {Q : Exit → Act → World → Prop} {E : Prop}
/-- .. an alloc of an array. -/
theorem step_new (T n : Nat) (hT : Arr T n) (hgd : o.guard = none) (ho : o.op = .alloc T)
    (h : ∀ g w', w.heap.size ≤ g → g < w'.heap.size → Row w' g (List.replicate n 0) → Below w.heap.size w w' → K (a.put o.dst (.pointer (some ⟨g, 0, none⟩))) w') : if Region.wanted o (yielded ops a.tmps) = true then Oper.wp Try.prog o a w K Q else E := by
  have hw : Region.wanted o (yielded ops a.tmps) = true := by simp [Region.wanted, hgd]
  rw [if_pos hw]
  have hi : (Instr.alloc T true (.tuple #[])).run Try.prog w = .ok (.pointer (some ⟨w.heap.size, 0, none⟩)) (w.alloc (.cells (cells (List.replicate n 0)).toArray T)) := by
    unfold Instr.alloc; rw [Sem.run_bind, hT.zero]; rfl
  have hr : (execOp a.eval o).run Try.prog w = .ok (.value (.pointer (some ⟨w.heap.size, 0, none⟩))) (w.alloc (.cells (cells (List.replicate n 0)).toArray T)) := by
    simp only [execOp, ho, Sem.run_bind, hi]; rfl
  unfold Oper.wp
  rw [hr]
  exact h w.heap.size _ (Nat.le_refl _) (by simp) (Row.made _ _ _) ((Below.refl _ _).alloc (Nat.le_refl _) _)
/-- .. 'append(own, x...)'. -/
theorem step_app {B g cap : Nat} {l : List UInt8} (hgd : o.guard = none) (s x : Operand)
    (ho : o.op = .call { callee := .builtin .append, args := #[s, x], argTypes := #[24, 24] }) (n : Nat) (hs : a.eval s = .slice (some ⟨g, 0, none⟩) n cap) (h0 : Own B w g cap l) (hn : l.length = n)
    (ad : Addr) (m c : Nat) (l2 : List UInt8) (hx : a.eval x = .slice (some ad) m c) (hm : l2.length = m) (N : Nat) (hN : n + m = N) (hnews : ∀ j u, (cells l2)[j]? = some u → w.cell? (ad.add j) = some u) (hbig : l.length + l2.length ≤ 1000000) (hB : B ≤ w.heap.size)
    (h : ∀ g' cap' w', Own B w' g' cap' (l ++ l2) → Stp (fun x => B ≤ x) w w' → K (a.put o.dst (.slice (some ⟨g', 0, none⟩) N cap')) w') : if Region.wanted o (yielded ops a.tmps) = true then Oper.wp Try.prog o a w K Q else E := by
  have hw : Region.wanted o (yielded ops a.tmps) = true := by simp [Region.wanted, hgd]
  rw [if_pos hw]
  obtain ⟨i0, hi, hz0, hz1, hz2⟩ := info_parts infoB1
  subst hn
  subst hN
  have hle : (l ++ l2).length = l.length + m := by rw [List.length_append, hm]
  obtain ⟨v', w', hr, h1, h2, h3, h4⟩ := run_append_own_at (P := Try.prog) w B 24 o.type 5 i0 (.int .u8 0) 1 1 (by kernel_rfl) hi hz0 hz1 hz2 rfl (by decide) _ l.length (cells l) h0 ad m c (cells l2) (by simp [hm]) hnews (cells_one l2) (by unfold maxLen; omega) (by omega) hB
  obtain ⟨g', cap', rfl, _⟩ := own_some h1 (fun e => by have := (h3.1 e).1; cases this)
  unfold Oper.wp execOp
  simp only [ho, resolve, invoke, builtin, Sem.run_bind, Sem.run_pure, Result.andThen_ok, List.map_toArray, List.map_cons, List.map_nil, hs, hx, hr]
  refine h g' cap' w' ?_ (Stp.of_grown h2 (fun x e => .inl ?_))
  · unfold Own; rw [hle]; simpa [cells] using h1
  · have e' : some g = some x := e; injection e' with e'; subst e'; exact h0.lt.1
end
end Go.Proofs.Yteceapdkgidenaa
