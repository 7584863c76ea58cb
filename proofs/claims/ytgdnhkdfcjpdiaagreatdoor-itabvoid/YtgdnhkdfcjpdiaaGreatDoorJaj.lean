/-
  Texts of my own, joined: no statement is proved here.
-/
import Derived.Shelf.SlGeneric
import Derived.Shelf.Sort.Plain
import Derived.Ground.Names2Prog
import Derived.Ground.GgzProg
import Derived.Ground.SlmcProg
import Derived.Shelf.Slices.Turned
import Derived.Shelf.Slices.Clone
import Derived.Shelf.Slices.Delete
import Derived.Shelf.Slices.Reverse
import Derived.Shelf.Slices.SearchI
import Derived.Shelf.Slices.In.SortNone
import Derived.Shelf.SlIterI.Sorted
import Derived.Shelf.SlIterI.Keys
import Derived.Shelf.SlMaps.Clone
import Derived.Shelf.Spec.SlicesInsert
import Derived.Shelf.Spec.SlicesInsertGrow
import Derived.Test.YtgdnhkdfcjpdiaaGreatDoorRows
import Derived.Maps.AppendAt
import Derived.Great.BuildSlice
import Derived.Test.YtgdnhkdfcjpdiaaGreatDoorJaf
import Derived.Test.YtgdnhkdfcjpdiaaGreatDoorJai
set_option linter.unusedSimpArgs false
set_option linter.unusedVariables false
namespace Go.Proofs.YtgdnhkdfcjpdiaaGreatDoor
open Go.ChangeShapes Go.WideShapes Go.ChangeAt Go.RowKit
def OwV (w : World) (v : Value) (l : List Int) : Prop := w.ownsRow 0 3 1 v l.length (l.map (Value.int .i64))
section
variable {w w' : World} {v : Value} {l : List Int} {F : Nat → Prop}
theorem OwV.nil (w : World) : OwV w (.slice none 0 0) [] := ⟨rfl, .inl ⟨rfl, rfl⟩⟩
structure Rw1 (w : World) (g cap : Nat) (l : List Int) (cur : Array Value) : Prop where
  at' : w.heap[g]? = some (.cells cur 3 (0, 0))
  le : l.length ≤ cap
  cm : cap ≤ maxLen
  size : cur.size = cap
  take : cur.toList.take l.length = l.map (Value.int .i64)
theorem OwV.row (h : OwV w v l) : (v = .slice none 0 0 ∧ l = []) ∨ ∃ g cap cur, v = .slice (some ⟨g, 0, none⟩) l.length cap ∧ Rw1 w g cap l cur := by
  rcases h.2 with ⟨h1, h2⟩ | ⟨g, cap, cur, h1, _, h3, h4, h5, h6, h7⟩
  · exact .inl ⟨h1, List.eq_nil_of_length_eq_zero h2⟩
  · rw [Nat.mul_one] at h6 h7
    exact .inr ⟨g, cap, cur, h1, h3, h4, h5, h6, h7⟩
theorem Rw1.own {g cap : Nat} {cur : Array Value} (h : Rw1 w g cap l cur) : OwV w (.slice (some ⟨g, 0, none⟩) l.length cap) l :=
  ⟨by simp, .inr ⟨g, cap, cur, rfl, Nat.zero_le _, h.at', h.le, h.cm, by rw [Nat.mul_one]; exact h.size, by rw [Nat.mul_one]; exact h.take⟩⟩
theorem Rw1.lt {g cap : Nat} {cur : Array Value} (h : Rw1 w g cap l cur) : g < w.heap.size := (Array.getElem?_eq_some_iff.1 h.at').1
theorem Rw1.cell {g cap : Nat} {cur : Array Value} (h : Rw1 w g cap l cur) (i : Nat) (hi : i < l.length) : w.cell? ⟨g, i, none⟩ = some (.int .i64 (l.getD i 0)) := by
  rw [cell_of_row w g i _ _ (0, 0) h.at']
  have h1 : (cur.toList.take l.length)[i]? = (l.map (Value.int .i64))[i]? := by rw [h.take]
  rw [List.getElem?_take, if_pos hi, List.getElem?_map, List.getElem?_eq_getElem hi] at h1
  rw [List.getD_eq_getElem?_getD, List.getElem?_eq_getElem hi]
  simpa using h1
theorem Rw1.frozen {g cap : Nat} {cur : Array Value} (h : Rw1 w g cap l cur) (i : Nat) : w.frozen? ⟨g, i, none⟩ = false := by simp [World.frozen?, h.at']
theorem Rw1.has {g cap : Nat} {cur : Array Value} (h : Rw1 w g cap l cur) (i : Nat) (hi : i < cap) : (w.cell? ⟨g, i, none⟩).isSome = true := by
  rw [cell_of_row w g i _ _ (0, 0) h.at', Array.getElem?_eq_getElem (by rw [h.size]; exact hi)]; rfl
theorem OwV.lt (h : OwV w v l) {r : Nat} (hr : v.ownBlock = some r) : r < w.heap.size := by
  rcases h.row with ⟨rfl, _⟩ | ⟨g, cap, cur, rfl, hw⟩
  · cases hr
  · have : g = r := by simpa [Value.ownBlock] using hr
    rw [← this]; exact hw.lt
theorem OwV.step (h : OwV w v l) (k : Stp F w w') (hF : ∀ r, v.ownBlock = some r → ¬ F r) : OwV w' v l := by
  rcases h.row with ⟨rfl, rfl⟩ | ⟨g, cap, cur, rfl, hw⟩
  · exact OwV.nil w'
  · exact Rw1.own (cur := cur) ⟨by rw [k.block g hw.lt (hF g rfl)]; exact hw.at', hw.le, hw.cm, hw.size, hw.take⟩
theorem OwV.later (h : OwV w v l) (k : Below w.heap.size w w') : OwV w' v l := h.step (Stp.of_below k (fun _ => False)) (fun _ _ => id)
theorem OwV.map_ne {P : Program} {K : TypeId} {b : Nat} {f : Int → Option Value} (h : OwV w v l) (hm : MpI P K w b f) : v.ownBlock ≠ Option.some b := by
  intro e
  rcases h.row with ⟨rfl, _⟩ | ⟨g, cap, cur, rfl, hw⟩
  · cases e
  · have : g = b := by simpa [Value.ownBlock] using e
    obtain ⟨D, ⟨es, clock, hh, _⟩, _⟩ := hm
    have hg := hw.at'
    rw [this, hh] at hg; cases hg
end
theorem Rw1.cells {w : World} {g cap : Nat} {l : List Int} {cur : Array Value} (h : Rw1 w g cap l cur) : ∀ j v, (l.map (Value.int .i64))[j]? = some v → w.cell? ⟨g, 0 + j, none⟩ = some v := by
  intro j v hv
  have hj := (List.getElem?_eq_some_iff.1 hv).1
  rw [List.length_map] at hj
  rw [Nat.zero_add, h.cell j hj, ← hv, List.getElem?_map, List.getElem?_eq_getElem hj, List.getD_eq_getElem?_getD, List.getElem?_eq_getElem hj]
  rfl
theorem OwV.shape {w : World} {v : Value} {l : List Int} (h : OwV w v l) : ∃ a n c, v = .slice a n c := by
  rcases h.row with ⟨e, _⟩ | ⟨g, cap, cur, e, _⟩
  · exact ⟨_, _, _, e⟩
  · exact ⟨_, _, _, e⟩
theorem OwV.one {w : World} {v : Value} {l : List Int} (h : OwV w v l) : v.oneCell' = true := by
  rcases h.row with ⟨rfl, _⟩ | ⟨g, cap, cur, rfl, _⟩ <;> rfl
theorem OwV.row1 {w : World} {v : Value} {l : List Int} (h : OwV w v l) (hl : l ≠ []) : ∃ g cap cur, v = .slice (some ⟨g, 0, none⟩) l.length cap ∧ Rw1 w g cap l cur := by
  rcases h.row with ⟨_, e⟩ | h
  · exact absurd e hl
  · exact h
theorem OwV.ins {w : World} {v : Value} {l : List Int} {B : Nat} (h : OwV w v l) (hl : ∀ x ∈ l, wfi x) (hN : New B v) : ∃ s : Sv, v = s.v ∧ s.n = l.length ∧ InsS w s l ∧ InE (fun x => B ≤ x ∧ x < w.heap.size) s := ro_ins h hl hN
end Go.Proofs.YtgdnhkdfcjpdiaaGreatDoor
namespace Go.Proofs
open Go.Shelf
def YtgdnhkdfcjpdiaaGreatDoor.lays108_ren : Go.Shelf.Ren := ⟨fun | 108 => 117 | n => n, fun | 28 => 34 | 3 => 3 | 0 => 0 | 4 => 4 | n => n, fun | n => n⟩
theorem YtgdnhkdfcjpdiaaGreatDoor.lays108 : Go.Proofs.Lays.n108 Tryz.prog YtgdnhkdfcjpdiaaGreatDoor.lays108_ren := {
  mixed := by kernel_rfl
  f108 := Tryz.func117.trans (congrArg some (by kernel_rfl))
  t0 := Tryz.underlying0
  a0 := Tryz.isAgg0
  z0 := Tryz.sizeOf0
  v0 := Tryz.zeroValue0
  t3 := Tryz.underlying3
  a3 := Tryz.isAgg3
  z3 := Tryz.sizeOf3
  v3 := Tryz.zeroValue3
  t4 := Tryz.underlying4
  a4 := Tryz.isAgg4
  z4 := Tryz.sizeOf4
  v4 := Tryz.zeroValue4
  t28 := Tryz.underlying34
  a28 := Tryz.isAgg34
  z28 := Tryz.sizeOf34
  v28 := Tryz.zeroValue34 }
def YtgdnhkdfcjpdiaaGreatDoor.lays23_ren : Go.Shelf.Ren := ⟨fun | 23 => 119 | n => n, fun | 22 => 34 | 3 => 3 | 4 => 4 | 0 => 0 | n => n, fun | n => n⟩
theorem YtgdnhkdfcjpdiaaGreatDoor.lays23 : Go.Proofs.Lays2.n23 Tryz.prog YtgdnhkdfcjpdiaaGreatDoor.lays23_ren := {
  mixed := by kernel_rfl
  f23 := Tryz.func119.trans (congrArg some (by kernel_rfl))
  t0 := Tryz.underlying0
  a0 := Tryz.isAgg0
  z0 := Tryz.sizeOf0
  v0 := Tryz.zeroValue0
  t3 := Tryz.underlying3
  a3 := Tryz.isAgg3
  z3 := Tryz.sizeOf3
  v3 := Tryz.zeroValue3
  t4 := Tryz.underlying4
  a4 := Tryz.isAgg4
  z4 := Tryz.sizeOf4
  v4 := Tryz.zeroValue4
  t22 := Tryz.underlying34
  a22 := Tryz.isAgg34
  z22 := Tryz.sizeOf34
  v22 := Tryz.zeroValue34
  i3 := by kernel_rfl }
def YtgdnhkdfcjpdiaaGreatDoor.lays21_ren : Go.Shelf.Ren := ⟨fun | 21 => 118 | 27 => 139 | 28 => 140 | 35 => 152 | 39 => 155 | n => n, fun | 22 => 34 | 3 => 3 | 4 => 4 | 0 => 0 | n => n, fun | n => n⟩
theorem YtgdnhkdfcjpdiaaGreatDoor.lays21 : Go.Proofs.Lays2.n21 Tryz.prog YtgdnhkdfcjpdiaaGreatDoor.lays21_ren := {
  mixed := by kernel_rfl
  f21 := Tryz.func118.trans (congrArg some (by kernel_rfl))
  f27 := Tryz.func139.trans (congrArg some (by kernel_rfl))
  f28 := Tryz.func140.trans (congrArg some (by kernel_rfl))
  f35 := Tryz.func152.trans (congrArg some (by kernel_rfl))
  f39 := Tryz.func155.trans (congrArg some (by kernel_rfl))
  t0 := Tryz.underlying0
  a0 := Tryz.isAgg0
  z0 := Tryz.sizeOf0
  v0 := Tryz.zeroValue0
  t3 := Tryz.underlying3
  a3 := Tryz.isAgg3
  z3 := Tryz.sizeOf3
  v3 := Tryz.zeroValue3
  t4 := Tryz.underlying4
  a4 := Tryz.isAgg4
  z4 := Tryz.sizeOf4
  v4 := Tryz.zeroValue4
  t22 := Tryz.underlying34
  a22 := Tryz.isAgg34
  z22 := Tryz.sizeOf34
  v22 := Tryz.zeroValue34
  i3 := by kernel_rfl }
end Go.Proofs
namespace Go.Proofs.YtgdnhkdfcjpdiaaGreatDoor
open Go.ChangeShapes Go.WideShapes Go.ChangeAt Go.RowKit
set_option maxRecDepth 100000
theorem infoB1 : (Tryz.prog.info? 5).map (fun i => (i.zero, i.size, i.bytes)) = some (some (.int .u8 0), 1, 1) := by kernel_rfl
def Own (B : Nat) (w : World) (g cap : Nat) (l : List UInt8) : Prop := w.ownsRow B 5 1 (.slice (some ⟨g, 0, none⟩) l.length cap) l.length (cells l)
section
variable {B : Nat} {w w' : World} {g cap : Nat} {l : List UInt8}
theorem Own.lt (h : Own B w g cap l) : B ≤ g ∧ g < w.heap.size := own_lt h
theorem Own.later (h : Own B w g cap l) (k : Below w.heap.size w w') : Own B w' g cap l := own_keep h (keep_below k []) (by simp)
theorem Own.range (h : Own B w g cap l) : w.rangeAt g 0 (cells l) := fun j v hv => by
  have hcs := World.ownsRow.cells h (g := g) rfl
  have := hcs j v hv
  rw [Addr.add_mid] at this; exact this
theorem cells_ints (l : List UInt8) : cells l = (ints l).map (Value.int .u8) := by unfold cells ints; rw [List.map_map]; rfl
theorem Own.bs (h : Own B w g cap l) : Bs w (some ⟨g, 0, none⟩) l.length cap (ints l) := by
  unfold Own at h
  rw [cells_ints] at h
  exact own_bs' h (ints_byte l)
theorem Own.made (w : World) (hB : B ≤ w.heap.size) : Own B (w.alloc (.cells #[] 5)) w.heap.size 0 [] := World.ownsRow_made w #[] 0 hB (Nat.zero_le _) rfl
theorem at_app {ops : Array Oper} {rest : List Oper} {o : Oper} {a : Act} {Q : Exit → Act → World → Prop} (hgd : o.guard = none) (s x : Operand)
    (ho : o.op = .call { callee := .builtin .append, args := #[s, x], argTypes := #[105, 105] }) (n : Nat) (hs : a.eval s = .slice (some ⟨g, 0, none⟩) n cap) (h0 : Own B w g cap l) (hn : l.length = n)
    (ad : Addr) (m c : Nat) (l2 : List UInt8) (hx : a.eval x = .slice (some ad) m c) (hm : l2.length = m) (N : Nat) (hN : n + m = N) (hnews : ∀ j u, (cells l2)[j]? = some u → w.cell? (ad.add j) = some u) (hbig : l.length + l2.length ≤ 1000000) (hB : B ≤ w.heap.size)
    (h : ∀ g' cap' w', Own B w' g' cap' (l ++ l2) → Stp (fun x => B ≤ x) w w' → wpList Tryz.prog ops Q rest (a.put o.dst (.slice (some ⟨g', 0, none⟩) N cap')) w') : wpList Tryz.prog ops Q (o :: rest) a w := by
  obtain ⟨i0, hi, hz0, hz1, hz2⟩ := info_parts infoB1
  subst hn
  subst hN
  have hle : (l ++ l2).length = l.length + m := by rw [List.length_append, hm]
  refine wpList_append_own_at w hgd s x 105 ho B 5 i0 (.int .u8 0) 1 1 (by kernel_rfl) hi hz0 hz1 hz2 rfl (by decide) _ l.length (cells l) hs h0 ad m c (cells l2) hx (by simp [hm]) hnews (cells_one l2) (by unfold maxLen; omega) (by omega) hB ?_
  intro v' w' h1 h2 h3 h4
  obtain ⟨g', cap', rfl, _⟩ := own_some h1 (fun e => by have := (h3.1 e).1; cases this)
  refine h g' cap' w' ?_ (Stp.of_grown h2 (fun x e => .inl ?_))
  · unfold Own; rw [hle]; simpa [cells] using h1
  · have e' : some g = some x := e; injection e' with e'; subst e'; exact h0.lt.1
end
theorem Own.of {B : Nat} (w : World) (l : List UInt8) (cs : List Value) (hc : cells l = cs) (hB : B ≤ w.heap.size) (hm : l.length ≤ 1000) : Own B (w.alloc (.cells cs.toArray 5)) w.heap.size l.length l := by
  subst hc
  exact ⟨by simp, .inr ⟨w.heap.size, l.length, (cells l).toArray, rfl, hB, heap_alloc_new w _, Nat.le_refl _, by unfold maxLen; omega, by simp, by rw [List.take_of_length_le (by simp)]⟩⟩
theorem Own.cell {B : Nat} {w : World} {g cap : Nat} {l : List UInt8} (h : Own B w g cap l) (i : Nat) (hi : i < l.length) : w.cell? ⟨g, i, none⟩ = some (.int .u8 ((l.getD i 0).toNat : Int)) := by
  have := h.range i (.int .u8 ((l.getD i 0).toNat : Int)) (by
    rw [List.getElem?_map, List.getElem?_eq_getElem hi, List.getD_eq_getElem?_getD, List.getElem?_eq_getElem hi]; rfl)
  rwa [Nat.zero_add] at this
theorem Own.step {B : Nat} {w w' : World} {g cap : Nat} {l : List UInt8} {F : Nat → Prop} (h : Own B w g cap l) (k : Stp F w w') (hg : ¬ F g) : Own B w' g cap l := by
  have hl := h.lt.2
  refine ⟨h.1, ?_⟩
  rcases h.2 with h2 | ⟨g', c', cur, e1, e2, e3, e4⟩
  · exact .inl h2
  · refine .inr ⟨g', c', cur, e1, e2, ?_, e4⟩
    have : g' = g := by injection e1 with e1; injection e1 with e1; injection e1 with e1; exact e1.symm
    subst this
    rw [k.block g' hl hg]; exact e3
theorem at_getR {ops : Array Oper} {rest : List Oper} {o : Oper} {a : Act} {w : World} {Q : Exit → Act → World → Prop} (T n : Nat) (hT : Arr T n) (hw : Region.wanted o (yielded ops a.tmps) = true) (x : Operand) (ho : o.op = .load T x) (g : Nat) (hx : a.eval x = .pointer (some ⟨g, 0, none⟩)) (l : List UInt8) (hR : w.rangeAt g 0 (cells l)) (hl : l.length = n)
    (h : wpList Tryz.prog ops Q rest (a.put o.dst (.agg (cells l).toArray)) w) : wpList Tryz.prog ops Q (o :: rest) a w := by
  refine op_val hw _ _ ?_ h
  have : (loadVar T ⟨g, 0, none⟩).run Tryz.prog w = .ok (.agg (cells l).toArray) w := run_loadVar_mid w g 0 _ (cells l) _ hR hT.und rfl (by rw [hT.size]; simp [hl])
  simp [execOp, ho, hx, Instr.loadAt, Instr.sureAddr, this]
section
variable {ops : Array Oper} {o : Oper} {a : Act} {w : World} {K : Act → World → Prop} {Q : Exit → Act → World → Prop} {E : Prop}
theorem step_new (T n : Nat) (hT : Arr T n) (hgd : o.guard = none) (ho : o.op = .alloc T)
    (h : ∀ g w', w.heap.size ≤ g → g < w'.heap.size → Row w' g (List.replicate n 0) → Below w.heap.size w w' → K (a.put o.dst (.pointer (some ⟨g, 0, none⟩))) w') : if Region.wanted o (yielded ops a.tmps) = true then Oper.wp Tryz.prog o a w K Q else E := by
  have hw : Region.wanted o (yielded ops a.tmps) = true := by simp [Region.wanted, hgd]
  rw [if_pos hw]
  have hi : (Instr.alloc T true (.tuple #[])).run Tryz.prog w = .ok (.pointer (some ⟨w.heap.size, 0, none⟩)) (w.alloc (.cells (cells (List.replicate n 0)).toArray T)) := by
    unfold Instr.alloc; rw [Sem.run_bind, hT.zero]; rfl
  have hr : (execOp a.eval o).run Tryz.prog w = .ok (.value (.pointer (some ⟨w.heap.size, 0, none⟩))) (w.alloc (.cells (cells (List.replicate n 0)).toArray T)) := by
    simp only [execOp, ho, Sem.run_bind, hi]; rfl
  unfold Oper.wp
  rw [hr]
  exact h w.heap.size _ (Nat.le_refl _) (by simp) (Row.made _ _ _) ((Below.refl _ _).alloc (Nat.le_refl _) _)
theorem step_app {B g cap : Nat} {l : List UInt8} (hgd : o.guard = none) (s x : Operand)
    (ho : o.op = .call { callee := .builtin .append, args := #[s, x], argTypes := #[105, 105] }) (n : Nat) (hs : a.eval s = .slice (some ⟨g, 0, none⟩) n cap) (h0 : Own B w g cap l) (hn : l.length = n)
    (ad : Addr) (m c : Nat) (l2 : List UInt8) (hx : a.eval x = .slice (some ad) m c) (hm : l2.length = m) (N : Nat) (hN : n + m = N) (hnews : ∀ j u, (cells l2)[j]? = some u → w.cell? (ad.add j) = some u) (hbig : l.length + l2.length ≤ 1000000) (hB : B ≤ w.heap.size)
    (h : ∀ g' cap' w', Own B w' g' cap' (l ++ l2) → Stp (fun x => B ≤ x) w w' → K (a.put o.dst (.slice (some ⟨g', 0, none⟩) N cap')) w') : if Region.wanted o (yielded ops a.tmps) = true then Oper.wp Tryz.prog o a w K Q else E := by
  have hw : Region.wanted o (yielded ops a.tmps) = true := by simp [Region.wanted, hgd]
  rw [if_pos hw]
  obtain ⟨i0, hi, hz0, hz1, hz2⟩ := info_parts infoB1
  subst hn
  subst hN
  have hle : (l ++ l2).length = l.length + m := by rw [List.length_append, hm]
  obtain ⟨v', w', hr, h1, h2, h3, h4⟩ := run_append_own_at (P := Tryz.prog) w B 105 o.type 5 i0 (.int .u8 0) 1 1 (by kernel_rfl) hi hz0 hz1 hz2 rfl (by decide) _ l.length (cells l) h0 ad m c (cells l2) (by simp [hm]) hnews (cells_one l2) (by unfold maxLen; omega) (by omega) hB
  obtain ⟨g', cap', rfl, _⟩ := own_some h1 (fun e => by have := (h3.1 e).1; cases this)
  unfold Oper.wp execOp
  simp only [ho, resolve, invoke, builtin, Sem.run_bind, Sem.run_pure, Result.andThen_ok, List.map_toArray, List.map_cons, List.map_nil, hs, hx, hr]
  refine h g' cap' w' ?_ (Stp.of_grown h2 (fun x e => .inl ?_))
  · unfold Own; rw [hle]; simpa [cells] using h1
  · have e' : some g = some x := e; injection e' with e'; subst e'; exact h0.lt.1
end
structure Pe where
  p : Pt
  d : Sv
  n : Sv
def Pe.cs (t : Pe) : List Value := t.p.cs t.d t.n
theorem Pe.cs_len (t : Pe) : t.cs.length = 9 := rfl
theorem Pe.cs_one (t : Pe) : ∀ v ∈ t.cs, v.oneCell' = true := t.p.cs_one t.d t.n
def fl (L : List Pe) : List Value := L.flatMap Pe.cs
theorem fl_nil : fl [] = [] := rfl
theorem fl_cons (t : Pe) (L : List Pe) : fl (t :: L) = t.cs ++ fl L := by unfold fl; rw [List.flatMap_cons]
theorem fl_append (L L' : List Pe) : fl (L ++ L') = fl L ++ fl L' := by unfold fl; rw [List.flatMap_append]
theorem fl_len : ∀ L : List Pe, (fl L).length = L.length * 9
  | [] => rfl
  | t :: L => by rw [fl_cons, List.length_append, t.cs_len, fl_len L, List.length_cons]; omega
theorem fl_get : ∀ (L : List Pe) (i j : Nat) (t : Pe), L[i]? = some t → j < 9 → (fl L)[i * 9 + j]? = t.cs[j]?
  | [], i, j, t, h, _ => by cases h
  | a :: L, 0, j, t, h, hj => by
    injection h with h; subst h
    rw [fl_cons, List.getElem?_append_left (by rw [a.cs_len]; omega)]
    congr 1; omega
  | a :: L, i + 1, j, t, h, hj => by
    have h' : L[i]? = some t := by simpa using h
    rw [fl_cons, List.getElem?_append_right (by rw [a.cs_len]; omega), a.cs_len, ← fl_get L i j t h' hj]
    congr 1; omega
def OwP (w : World) (v : Value) (L : List Pe) : Prop := w.ownsRow 0 112 9 v L.length (fl L)
section
variable {w w' : World} {v : Value} {L : List Pe} {F : Nat → Prop}
theorem OwP.nil (w : World) : OwP w (.slice none 0 0) [] := ⟨rfl, .inl ⟨rfl, rfl⟩⟩
theorem OwP.step (h : OwP w v L) (k : Stp F w w') (hF : ∀ r, v.ownBlock = some r → ¬ F r) : OwP w' v L := ro_step h k hF
theorem OwP.later (h : OwP w v L) (k : Below w.heap.size w w') : OwP w' v L := ro_later h k
theorem OwP.shape (h : OwP w v L) : ∃ a c, v = .slice a L.length c ∧ L.length ≤ maxLen ∧ (a = none → L.length = 0 ∧ c = 0) := by
  rcases h.2 with ⟨h1, h2⟩ | ⟨g, cap, cur, h1, _, h3, h4, h5, h6, h7⟩
  · exact ⟨none, 0, by rw [h1, h2], by rw [h2]; exact Nat.zero_le _, fun _ => ⟨h2, rfl⟩⟩
  · exact ⟨_, cap, h1, Nat.le_trans h4 h5, fun e => by cases e⟩
theorem OwP.lt (h : OwP w v L) {r : Nat} (hr : v.ownBlock = some r) : r < w.heap.size := (World.ownsRow.lt (show w.ownsRow 0 112 9 v L.length (fl L) from h) r hr).2
end
theorem OwP.cells {w : World} {a : Option Addr} {c : Nat} {L : List Pe} (h : OwP w (.slice a L.length c) L) (hn : 0 < L.length) : ∃ b, a = some ⟨b, 0, none⟩ ∧ (∀ j v, (fl L)[j]? = some v → w.cell? ⟨b, j, none⟩ = some v) ∧ (∀ j, w.frozen? ⟨b, j, none⟩ = false) := by
  rcases h.2 with ⟨h1, h2⟩ | ⟨g, cap, cur, h1, _, h3, h4, h5, h6, h7⟩
  · omega
  · injection h1 with e1 e2 e3
    refine ⟨g, e1, fun j v hv => ?_, fun j => by simp [World.frozen?, h3]⟩
    rw [cell_of_row w g j _ _ (0, 0) h3]
    have hj := (List.getElem?_eq_some_iff.1 hv).1
    rw [fl_len] at hj
    rw [← h7, List.getElem?_take, if_pos hj] at hv
    simpa using hv
theorem OwP.el {w : World} {a : Option Addr} {c : Nat} {L : List Pe} (h : OwP w (.slice a L.length c) L) (k : Nat) (hk : k < L.length) : ∃ b t, a = some ⟨b, 0, none⟩ ∧ L[k]? = some t ∧ w.rangeAt b (k * 9) t.cs := by
  obtain ⟨b, e, hc, _⟩ := h.cells (by omega)
  refine ⟨b, L[k], e, List.getElem?_eq_getElem hk, fun j v hv => hc _ _ ?_⟩
  have hj := (List.getElem?_eq_some_iff.1 hv).1
  rw [Pe.cs_len] at hj
  rw [fl_get L k j L[k] (List.getElem?_eq_getElem hk) hj]; exact hv
theorem OwP.shape' {w : World} {v : Value} {L : List Pe} (h : OwP w v L) : ∃ a n c, v = .slice a n c := by obtain ⟨a, c, h, _⟩ := h.shape; exact ⟨a, _, c, h⟩
structure PuI (w wr : World) (v : Value) (L : List Pe) : Prop where
  ow : OwP wr v L
  nw : New w.heap.size v
  b : Below w.heap.size w wr
theorem PuI.later {w wr w' : World} {v : Value} {l : List Pe} (h : PuI w wr v l) (k : Below wr.heap.size wr w') : PuI w w' v l := ⟨h.ow.later k, h.nw, bnext h.b k (Nat.le_refl _)⟩
theorem PuI.app {w wr w1 w' : World} {v v' : Value} {l : List Pe} {t : Pe} (h : PuI w wr v l) (b1 : Below wr.heap.size wr w1) (hA : Apd w1 w.heap.size 112 9 v l.length 1 (fl l ++ t.cs) v' w') : PuI w w' v' (l ++ [t]) := by
  obtain ⟨h1, h2, h3, h4, h5⟩ := hA
  refine ⟨?_, h2, ?_⟩
  · unfold OwP
    rw [fl_append, fl_cons, fl_nil, List.append_nil]
    simpa using h1
  · exact ((Stp.of_below (bnext h.b b1 (Nat.le_refl _)) (fun _ => False)).next h4 (fun x e => .inr (h.nw x e))).below (Nat.le_refl _) (fun x e => e.elim)
theorem cell_new9 (w : World) (t : Pe) (T : TypeId) : ∀ j u, t.cs[j]? = some u → (w.alloc (.cells t.cs.toArray T)).cell? ((⟨w.heap.size, 0, none⟩ : Addr).add j) = some u := fun j u hu => by
  rw [Addr.add_lit, Nat.zero_add]
  exact (Cs.made w t.cs T t.cs_one).cell j u hu
theorem infoP : (Tryz.prog.info? 112).map (fun i => (i.zero, i.size, i.bytes)) = some (some (.agg (Pt.zero.cs Sv.nil Sv.nil).toArray), 9, 104) := by kernel_rfl
theorem bslice_p (t : Pe) (w : World) : (Instr.buildSlice 151 1 #[(0, .agg t.cs.toArray)]).run Tryz.prog w = .ok (.slice (some ⟨w.heap.size, 0, none⟩) 1 1) (w.alloc (.cells t.cs.toArray 112)) := by
  obtain ⟨ie, hie, hz, hs, hb⟩ := info_parts infoP
  refine run_buildSlice w _ _ 1 _ t.cs.toArray ie _ elP.und hie hz (by rw [hs]; omega) (by rw [hs]; omega) ?_
  rw [hs]
  have := Great.fill_whole (s := 9) (by omega) [.agg t.cs.toArray] ((Array.range (1 * 9)).map ((Value.agg (Pt.zero.cs Sv.nil Sv.nil).toArray).cells[· % (Value.agg (Pt.zero.cs Sv.nil Sv.nil).toArray).cells.size]!)) (by intro v hv; simp at hv; subst hv; simp [Value.cells, t.cs_len]) (by simp)
  simpa [Value.cells] using this
theorem at_bsP {ops : Array Oper} {rest : List Oper} {o : Oper} {a : Act} {w : World} {Q : Exit → Act → World → Prop} (x : Operand) (ho : o.op = .buildSlice 151 1 #[(0, x)]) (hw : Region.wanted o (yielded ops a.tmps) = true) (t : Pe) (hx : a.eval x = .agg t.cs.toArray)
    (h : wpList Tryz.prog ops Q rest (a.put o.dst (.slice (some ⟨w.heap.size, 0, none⟩) 1 1)) (w.alloc (.cells t.cs.toArray 112))) : wpList Tryz.prog ops Q (o :: rest) a w := by
  refine op_val hw _ _ ?_ h
  simp [execOp, ho, hx, bslice_p]
theorem uPat : ∃ d, Tryz.prog.underlying 112 = some d ∧ d.isRow = true := ⟨_, Tryz.underlying112, rfl⟩
theorem szPat : (Tryz.prog.info? 112).map (·.size) = some 9 := by kernel_rfl
theorem at_getE {ops : Array Oper} {rest : List Oper} {o : Oper} {a : Act} {w : World} {Q : Exit → Act → World → Prop} (x : Operand) (ho : o.op = .load 112 x) (hw : Region.wanted o (yielded ops a.tmps) = true) (g i : Nat) (hx : a.eval x = .pointer (some ⟨g, i, none⟩)) (t : Pe) (hr : w.rangeAt g i t.cs)
    (h : wpList Tryz.prog ops Q rest (a.put o.dst (.agg t.cs.toArray)) w) : wpList Tryz.prog ops Q (o :: rest) a w := by
  refine op_val hw _ _ ?_ h
  obtain ⟨d, h1, h2⟩ := uPat
  have : (loadVar 112 ⟨g, i, none⟩).run Tryz.prog w = .ok (.agg t.cs.toArray) w := run_loadVar_mid w g i _ t.cs _ hr h1 h2 (by rw [szPat]; rfl)
  simp [execOp, ho, hx, Instr.loadAt, Instr.sureAddr, this]
structure Ps (w : World) (E : Nat → Prop) (s : Sv) (L : List Pe) : Prop where
  len : L.length = s.n
  le : s.n ≤ s.c
  cap : s.c ≤ maxLen
  nil : s.a = none → s.c = 0
  cell : 0 < s.n → ∃ b o, s.a = some ⟨b, o, none⟩ ∧ E b ∧ ∀ i (t : Pe), L[i]? = some t → w.rangeAt b (o + i * 9) t.cs
  wf : ∀ t ∈ L, t.p.wfp
  ms : ∀ t ∈ L, PtM w E t.p t.d t.n
theorem Ps.step {w w' : World} {E F : Nat → Prop} {s : Sv} {L : List Pe} (h : Ps w E s L) (k : Stp F w w') (hE : ∀ x, E x → ¬ F x) : Ps w' E s L :=
  ⟨h.len, h.le, h.cap, h.nil, fun hn => by
    obtain ⟨b, o, e, hb, hc⟩ := h.cell hn
    exact ⟨b, o, e, hb, fun i t ht => k.range (hc i t ht) (hE b hb)⟩, h.wf, fun t ht => (h.ms t ht).step k hE⟩
theorem Ps.later {w w' : World} {E : Nat → Prop} {s : Sv} {L : List Pe} (h : Ps w E s L) (k : Below w.heap.size w w') : Ps w' E s L := h.step (Stp.of_below k (fun _ => False)) (fun _ _ => id)
theorem Ps.mono {w : World} {E E' : Nat → Prop} {s : Sv} {L : List Pe} (h : Ps w E s L) (k : ∀ x, E x → E' x) : Ps w E' s L :=
  ⟨h.len, h.le, h.cap, h.nil, fun hn => by
    obtain ⟨b, o, e, hb, hc⟩ := h.cell hn
    exact ⟨b, o, e, k b hb, hc⟩, h.wf, fun t ht => (h.ms t ht).mono k⟩
theorem Ps.nilS (w : World) (E : Nat → Prop) : Ps w E Sv.nil [] :=
  ⟨rfl, Nat.le_refl _, Nat.zero_le _, fun _ => rfl, fun h => absurd h (by decide), (fun t ht => by cases ht), (fun t ht => by cases ht)⟩
def pts (L : List Pe) : List Pt := L.map (·.p)
end Go.Proofs.YtgdnhkdfcjpdiaaGreatDoor
