/-
  Disks of a call's own, that may be written; few, and what is made: no statement is proved here.
-/
import Derived.Test.YtjbgcbokffaemaaSupN
import Derived.Laws.MakeOwn
import Derived.Laws.AppendOwnNone
namespace Go.Proofs.Ytjbgcbokffaemaa
open Go.ChangeShapes Go.WideShapes Go.ChangeAt Go.RowKit
set_option linter.unusedVariables false

/-- The slice at the head of block g holds the sectors l, and they may be written. -/
structure Wd (w : World) (g n c : Nat) (l : List Blk) : Prop where
  len : l.length = n
  le : n ≤ c
  cap : c ≤ maxLen
  lt : g < w.heap.size
  rng : ∀ i, i < n → w.rangeAt g (i * 64) (l.getD i Blk.zero).cs
  thr : ∀ i, i < n → w.there g (i * 64) 64
section
variable {w w' : World} {g n c : Nat} {l : List Blk} {F : Nat → Prop}
theorem Wd.bls (h : Wd w g n c l) : Bls w (some ⟨g, 0, none⟩) n c l := ⟨h.len, h.le, h.cap, (fun e => by cases e), fun _ => ⟨g, 0, rfl, fun i hi => by rw [Nat.zero_add]; exact h.rng i hi⟩⟩
theorem Wd.step (h : Wd w g n c l) (k : Stp F w w') (hg : ¬ F g) : Wd w' g n c l :=
  ⟨h.len, h.le, h.cap, Nat.lt_of_lt_of_le h.lt k.size, fun i hi => k.range (h.rng i hi) hg, fun i hi => k.there (h.thr i hi) hg⟩
theorem Wd.later (h : Wd w g n c l) (k : Below w.heap.size w w') : Wd w' g n c l := h.step (Stp.of_below k (fun _ => False)) id
theorem Wd.put (h : Wd w g n c l) (i : Nat) (hi : i < n) (b : Blk) : Wd (w.setCells g (i * 64) b.cs) g n c (l.set i b) := by
  refine ⟨by rw [List.length_set]; exact h.len, h.le, h.cap, by rw [size_setCells]; exact h.lt, fun j hj => ?_, fun j hj => World.there_setCells (h.thr j hj) _ _ _⟩
  have hl := h.len
  by_cases e : j = i
  · subst e
    rw [List.getD_eq_getElem?_getD, List.getElem?_set_self (by omega)]
    exact World.rangeAt_setCells_same w g (j * 64) b.cs (by rw [b.cs_len]; exact h.thr j hj)
  · rw [List.getD_eq_getElem?_getD, List.getElem?_set_ne (Ne.symm e), ← List.getD_eq_getElem?_getD]
    refine World.rangeAt_setCells_apart (h.rng j hj) g (i * 64) b.cs (.inr ?_)
    rw [b.cs_len, Blk.cs_len]
    by_cases h2 : j < i
    · exact .inl (by omega)
    · exact .inr (by omega)
end
/-- A store of a sector into such a disk. -/
theorem at_putM {ops : Array Oper} {rest : List Oper} {o : Oper} {a : Act} {w : World} {Q : Exit → Act → World → Prop} (hw : Region.wanted o (yielded ops a.tmps) = true) (x y : Operand) (ho : o.op = .store 32 x y) (g i n c : Nat) (l : List Blk) (off : Nat) (hx : a.eval x = .pointer (some ⟨g, off, none⟩)) (hoff : off = i * 64) (b : Blk) (hy : a.eval y = .agg b.cs.toArray) (hW : Wd w g n c l) (hi : i < n)
    (h : ∀ w', Wd w' g n c (l.set i b) → Stp (fun x => x = g) w w' → wpList Try.prog ops Q rest (a.put o.dst undef) w') : wpList Try.prog ops Q (o :: rest) a w := by
  subst hoff
  refine op_unit hw _ ?_ (h (w.setCells g (i * 64) b.cs) (hW.put i hi b) (stp_setCells _ _ _ _))
  simp only [execOp, ho, hx, hy, Instr.storeAt, Instr.sureAddr, Sem.run_bind, Sem.run_pure, Result.andThen_ok]
  rw [run_storeVar_mid w g (i * 64) _ b.cs.toArray (by rw [List.size_toArray, b.cs_len]; exact hW.thr i hi) (by rw [arrB.size, List.size_toArray, b.cs_len]) b.arr]
  simp
theorem infoBk : (Try.prog.info? 32).map (fun i => (i.zero, i.size, i.bytes)) = some (some (.agg Blk.zero.cs.toArray), 64, 64) := by kernel_rfl
theorem uBlks : Try.prog.underlying 39 = some (.slice 32) := by kernel_rfl
def flatB (l : List Blk) : List Value := l.flatMap Blk.cs
theorem flatB_len (l : List Blk) : (flatB l).length = l.length * 64 := by
  unfold flatB
  induction l with
  | nil => rfl
  | cons a r ih => rw [List.flatMap_cons, List.length_append, ih, a.cs_len, List.length_cons]; omega
theorem flatB_get : ∀ (l : List Blk) (i j : Nat), i < l.length → j < 64 → (flatB l)[i * 64 + j]? = (l.getD i Blk.zero).cs[j]?
  | [], i, j, h, _ => by simp at h
  | a :: r, 0, j, _, hj => by
    unfold flatB; rw [List.flatMap_cons, List.getElem?_append_left (by rw [a.cs_len]; omega)]; simp
  | a :: r, i + 1, j, h, hj => by
    have := flatB_get r i j (by simpa using h) hj
    unfold flatB at *
    rw [List.flatMap_cons, List.getElem?_append_right (by rw [a.cs_len]; omega), a.cs_len, show (i + 1) * 64 + j - 64 = i * 64 + j by omega, this]; simp
theorem flatB_one (l : List Blk) : ∀ v ∈ flatB l, v.oneCell' = true := by
  intro v hv; unfold flatB at hv; obtain ⟨b, _, hb⟩ := List.mem_flatMap.1 hv; exact b.cs_one v hb
/-- A slice that owns its row is such a disk. -/
theorem Wd.own {B : Nat} {w : World} {g c : Nat} {l : List Blk} (h : w.ownsRow B 32 64 (.slice (some ⟨g, 0, none⟩) l.length c) l.length (flatB l)) : Wd w g l.length c l := by
  have hcs := h.cells (g := g) rfl
  rcases h.2 with ⟨e, _⟩ | ⟨g', cap, cur, e, _, hg, h1, h2, h3, h4⟩
  · injection e with e; cases e
  · injection e with e e2 e3; subst e3
    obtain rfl : g = g' := by injection e with e; injection e
    have hr : ∀ i, i < l.length → w.rangeAt g (i * 64) (l.getD i Blk.zero).cs := fun i hi j v hv => by
      have hj : j < 64 := by have := (List.getElem?_eq_some_iff.1 hv).1; rw [Blk.cs_len] at this; exact this
      have := hcs (i * 64 + j) v (by rw [flatB_get l i j (by omega) hj]; exact hv)
      rw [Addr.add_mid, Nat.zero_add] at this; exact this
    refine ⟨rfl, h1, h2, (Array.getElem?_eq_some_iff.1 hg).1, hr, fun i hi j hj => ⟨?_, by simp [World.frozen?, hg]⟩⟩
    have hj' : j < (l.getD i Blk.zero).cs.length := by rw [Blk.cs_len]; exact hj
    rw [hr i hi j _ (List.getElem?_eq_getElem hj')]; rfl
theorem getD_replicate (n i : Nat) : (List.replicate n Blk.zero).getD i Blk.zero = Blk.zero := by
  rw [List.getD_eq_getElem?_getD, List.getElem?_replicate]; split <;> rfl
/-- 'make([]Block, n)'. -/
theorem at_mkB {ops : Array Oper} {rest : List Oper} {o : Oper} {a : Act} {w : World} {Q : Exit → Act → World → Prop} (hw : Region.wanted o (yielded ops a.tmps) = true) (x : Operand) (ho : o.op = .makeSlice 39 x x) (n : Nat) (hx : a.eval x = .int .i64 (n : Int)) (hn : n ≤ 100000)
    (h : ∀ g w', w.heap.size ≤ g → Wd w' g n n (List.replicate n Blk.zero) → Below w.heap.size w w' → wpList Try.prog ops Q rest (a.put o.dst (.slice (some ⟨g, 0, none⟩) n n)) w') : wpList Try.prog ops Q (o :: rest) a w := by
  obtain ⟨i, hi, hz, hs, hb⟩ := info_parts infoBk
  have hr := run_make (P := Try.prog) w 39 32 i _ uBlks hi hz .i64 .i64 n n (by omega) (Int.le_refl _) (by rw [hb]; omega) (by omega)
  simp only [Int.toNat_natCast, hs] at hr
  have cell : ∀ k j, k < n → j < 64 → (w.alloc (.cells (madeCells Blk.zero.cs.toArray (n * 64)) 32)).cell? ⟨w.heap.size, k * 64 + j, none⟩ = Blk.zero.cs[j]? := fun k j hk hj => by
    rw [cell_of_row _ _ _ _ _ (0, 0) (heap_alloc_new w _)]
    unfold madeCells
    have h1 : k * 64 + j < n * 64 := by have : (k + 1) * 64 ≤ n * 64 := Nat.mul_le_mul_right _ hk; omega
    rw [Array.getElem?_map, Array.getElem?_range, if_pos h1]
    simp only [Option.map_some, List.size_toArray, Blk.cs_len]
    have h2 : (k * 64 + j) % 64 = j := by omega
    have h3 : j < Blk.zero.cs.length := by rw [Blk.cs_len]; exact hj
    rw [h2, List.getElem?_eq_getElem h3, getElem!_def, List.getElem?_toArray, List.getElem?_eq_getElem h3]
  refine op_val hw _ _ ?_ (h w.heap.size (w.alloc (.cells (madeCells Blk.zero.cs.toArray (n * 64)) 32)) (Nat.le_refl _) ⟨by simp, Nat.le_refl _, by unfold maxLen; omega, by simp, fun k hk j v hv => ?_, fun k hk j hj => ⟨?_, by simp [go_sem]⟩⟩ ((Below.refl _ _).alloc (Nat.le_refl _) _))
  · simp only [execOp, ho, hx, Sem.run_bind]
    exact congrArg (fun r => Result.andThen r _) hr
  · have hj : j < 64 := by have := (List.getElem?_eq_some_iff.1 hv).1; rw [Blk.cs_len] at this; exact this
    rw [getD_replicate] at hv
    rw [cell k j hk hj]; exact hv
  · rw [cell k j hk hj, List.getElem?_eq_getElem (by rw [Blk.cs_len]; exact hj)]; rfl
theorem Bls.news {w : World} {x : Addr} {n c : Nat} {l : List Blk} (h : Bls w (some x) n c l) (m : Nat) (hm : m ≤ n) (o : Obj) : ∀ j u, (flatB (l.take m))[j]? = some u → (w.alloc o).cell? (x.add j) = some u := fun j u hj => by
  have hl := h.len
  have hlt := (List.getElem?_eq_some_iff.1 hj).1
  rw [flatB_len, List.length_take, Nat.min_eq_left (by omega)] at hlt
  have hn : 0 < n := by omega
  obtain ⟨b, off, hx, hc⟩ := h.cell hn
  obtain rfl : x = ⟨b, off, none⟩ := by simpa using hx
  have hi : j / 64 < m := by omega
  have hr := hc (j / 64) (by omega) (j % 64) u (by
    rw [show j = j / 64 * 64 + j % 64 by omega, flatB_get _ _ _ (by rw [List.length_take]; omega) (by omega)] at hj
    rw [← hj, List.getD_eq_getElem?_getD, List.getD_eq_getElem?_getD, List.getElem?_take, if_pos hi])
  rw [Addr.add_mid, show off + j = off + j / 64 * 64 + j % 64 by omega]
  rw [World.cell?_of_block (Below.heap_alloc w o b (World.block_lt_of_cell? w _ hr))]
  exact hr
set_option maxRecDepth 100000 in
set_option maxHeartbeats 2000000 in
theorem few_any (a : Option Addr) (n c : Nat) (l : List Blk) (w : World) (h : Bls w a n c l) :
    Calls Try.prog 14 #[.slice a n c] w fun e w' => ∃ g cap, e = .returned (.slice (some ⟨g, 0, none⟩) (l.take 60).length cap) ∧ Wd w' g (l.take 60).length cap (l.take 60) ∧ w.heap.size ≤ g ∧ Below w.heap.size w w' := by
  have hl := h.len
  have hle := h.le
  have hcap := h.cap
  unfold maxLen at hcap
  obtain ⟨i0, hi, hz0, hz1, hz2⟩ := info_parts infoBk
  obtain ⟨m, hm, hm', hm2, hm3⟩ : ∃ m : Nat, (if (60 : Int) < (n : Int) then (60 : Int) else (n : Int)) = (m : Int) ∧ m ≤ n ∧ m ≤ 60 ∧ (l.take 60).length = m := ⟨min n 60, by split <;> omega, by omega, by omega, by rw [List.length_take]; omega⟩
  have ht : l.take 60 = l.take m := by
    by_cases e : m = 60
    · rw [e]
    · have : n = m := by split at hm <;> omega
      rw [List.take_of_length_le (by omega), List.take_of_length_le (by omega)]
  rw [ht] at hm3 ⊢
  rw [hm3]
  have hm4 : Hid ((l.take m).length = m) := hm3
  clear hm3 ht
  have o0 : (w.alloc (.cells #[] 32)).ownsRow w.heap.size 32 64 (.slice (some ⟨w.heap.size, 0, none⟩) 0 0) 0 [] := World.ownsRow_made w #[] 0 (Nat.le_refl _) (Nat.zero_le _) rfl
  cases a with
  | none =>
    obtain rfl := h.nil rfl
    obtain rfl : n = 0 := by omega
    obtain rfl : m = 0 := by omega
    go_enter Try.func14, Try.ntmps14
    go_wp2_with (first
      | (at_builtin; refine wpList_append_own_none rfl _ _ 39 rfl w.heap.size 32 i0 64 uBlks hi _ 0 [] rfl o0 rfl ?_))
    go_returns
    refine ⟨_, _, rfl, ?_, Nat.le_refl _, by go_grown⟩
    have := Wd.own (l := []) o0
    rw [List.take_zero]; exact this
  | some x =>
    have hnw := h.news m hm' (.cells #[] 32)
    have hfl : (flatB (l.take m)).length = m * 64 := by rw [flatB_len, hm4.out]
    go_enter Try.func14, Try.ntmps14
    go_wp2_with (first
      | (at_builtin; refine wpList_append_own_at _ rfl _ _ 39 rfl w.heap.size 32 i0 _ 64 64 uBlks hi hz0 hz1 hz2 (by simp [Value.cells, Blk.cs_len]) (by decide) _ 0 [] rfl o0 x m c (flatB (l.take m)) rfl hfl hnw (flatB_one _) (by unfold maxLen; omega) (by omega) (by simp) ?_
         intro v1 w1 h1 h2 h3 h4
         obtain ⟨g1, c1, rfl, _⟩ := own_some h1 (fun e => by have := (h3.1 e).1; cases this)))
    go_returns
    rw [Nat.zero_add, List.nil_append] at h1
    refine ⟨g1, c1, rfl, ?_, (own_lt h1).1, ?_⟩
    · have := Wd.own (B := w.heap.size) (w := w1) (g := g1) (c := c1) (l := l.take m) (by rw [hm4.out]; exact h1)
      rw [hm4.out] at this; exact this
    · have s1 : Stp (fun x => w.heap.size ≤ x) (w.alloc (.cells #[] 32)) w1 := Stp.of_grown h2 (fun x e => .inl (by have e' : some w.heap.size = some x := e; injection e' with e'; omega))
      exact ((Stp.of_alloc w _ (fun x => w.heap.size ≤ x)).trans s1).below (Nat.le_refl _) (fun _ h => h)
end Go.Proofs.Ytjbgcbokffaemaa
