/-
  Plain words of my own on what a step of memory keeps, and on worlds with their streams: no statement is proved here.
-/
import Derived.Test.YtddglkejegmmmaaPlain3
import Derived.Deep.SlicePairs
namespace Go.Proofs.Ytddglkejegmmmaa
open Go.ChangeShapes Go.WideShapes Go.ChangeAt Go.RowKit
set_option linter.unusedVariables false

/-- From w to w' no block changed but those in B; blocks may have come; the streams are as they were. -/
structure Step (B : List Nat) (w w' : World) : Prop where
  os : w'.os = w.os
  tape : w'.tape = w.tape
  output : w'.output = w.output
  size : w.heap.size ≤ w'.heap.size
  block : ∀ k, k < w.heap.size → k ∉ B → w'.heap[k]? = w.heap[k]?
theorem Step.refl (B : List Nat) (w : World) : Step B w w := ⟨rfl, rfl, rfl, Nat.le_refl _, fun _ _ _ => rfl⟩
/-- One step more: what it may change is among B, or came behind the first world. -/
theorem Step.next {B B' : List Nat} {a b c : World} (h : Step B a b) (k : Step B' b c) (hB : ∀ x ∈ B', x ∈ B ∨ a.heap.size ≤ x) : Step B a c :=
  ⟨k.os.trans h.os, k.tape.trans h.tape, k.output.trans h.output, Nat.le_trans h.size k.size, fun i hi hn => by
    rw [k.block i (Nat.lt_of_lt_of_le hi h.size) (fun hm => by rcases hB i hm with e | e; exact hn e; omega), h.block i hi hn]⟩
theorem Step.trans {B : List Nat} {a b c : World} (h : Step B a b) (k : Step B b c) : Step B a c := h.next k fun _ h => .inl h
theorem Step.mono {B B' : List Nat} {a b : World} (h : Step B a b) (hB : ∀ x ∈ B, x ∈ B' ∨ a.heap.size ≤ x) : Step B' a b := (Step.refl B' a).next h hB
theorem step_below {w w' : World} (h : Below w.heap.size w w') (B : List Nat) : Step B w w' := ⟨h.os, h.tape, h.output, h.size, fun k hk _ => h.block k hk⟩
theorem step_alloc (w : World) (o : Obj) (B : List Nat) : Step B w (w.alloc o) := step_below ((Below.refl _ w).alloc (Nat.le_refl _) o) B
theorem step_setCell (w : World) (p : Addr) (u : Value) (B : List Nat) (hp : p.block ∈ B ∨ w.heap.size ≤ p.block) : Step B w (w.setCell p u) :=
  ⟨rfl, rfl, rfl, by simp, fun k hk hn => Below.heap_setCell w p u k (fun e => by rcases hp with h | h; exact hn (e ▸ h); omega)⟩
theorem Step.alloc {B : List Nat} {a w : World} (h : Step B a w) (o : Obj) : Step B a (w.alloc o) := h.trans (step_alloc w o B)
theorem Step.setCell {B : List Nat} {a w : World} (h : Step B a w) {p : Addr} (hp : p.block ∈ B ∨ a.heap.size ≤ p.block) (u : Value) : Step B a (w.setCell p u) := by
  refine h.next (B' := [p.block]) (step_setCell w p u _ (.inl (by simp))) ?_
  intro x hx; simp at hx; subst hx; exact hp
theorem Step.drew {B : List Nat} {a w : World} (h : Step B a w) : Step B a w.drew := ⟨h.os, h.tape, h.output, h.size, h.block⟩
theorem Step.drewN {B : List Nat} {a w : World} (h : Step B a w) (k : Nat) : Step B a (w.drewN k) := ⟨h.os, h.tape, h.output, h.size, h.block⟩
theorem Step.cell {B : List Nat} {w w' : World} (h : Step B w w') {p : Addr} {v : Value} (hc : w.cell? p = some v) (hp : p.block ∉ B) : w'.cell? p = some v := by
  rw [World.cell?_of_block (w := w) (h.block p.block (World.block_lt_of_cell? w p hc) hp)]; exact hc
theorem Step.frozen {B : List Nat} {w w' : World} (h : Step B w w') {p : Addr} (hl : p.block < w.heap.size) (hp : p.block ∉ B) : w'.frozen? p = w.frozen? p :=
  World.frozen?_of_block (w := w) (h.block p.block hl hp)
/-- Where all that may have changed came behind, all that was there is as it was. -/
theorem Step.below {B : List Nat} {w w' : World} {N : Nat} (h : Step B w w') (hN : N ≤ w.heap.size) (hB : ∀ x ∈ B, N ≤ x) : Below N w w' :=
  ⟨h.os, h.tape, h.output, h.size, fun k hk => h.block k (by omega) (fun hm => by have := hB k hm; omega)⟩
theorem Step.keep {B : List Nat} {w w' : World} (h : Step B w w') : Keep B w w' := ⟨h.size, h.block⟩

/-- The slice 'a, n, c' holds pairs of numbers (structs of two int fields) that read as the list l, in the world w. -/
structure Prs (w : World) (a : Option Addr) (n c : Nat) (l : List (Int × Int)) : Prop where
  len : l.length = n
  le : n ≤ c
  cap : c ≤ maxLen
  wf : ∀ x ∈ l, (Lit.int .i64 x.1).wf = true ∧ (Lit.int .i64 x.2).wf = true
  cell : 0 < n → ∃ b o, a = some ⟨b, o, none⟩ ∧ ∀ i, i < n → w.cell? ⟨b, o + i * 2, none⟩ = some (.int .i64 (l.getD i (0, 0)).1) ∧ w.cell? ⟨b, o + i * 2 + 1, none⟩ = some (.int .i64 (l.getD i (0, 0)).2)
theorem Prs.nilSlice (w : World) : Prs w none 0 0 [] := ⟨rfl, Nat.le_refl _, by decide, (fun _ h => by cases h), fun h => absurd h (by omega)⟩
theorem Prs.later {w w' : World} {a : Option Addr} {n c : Nat} {l : List (Int × Int)} (h : Prs w a n c l) (hb : Below w.heap.size w w') : Prs w' a n c l := by
  refine ⟨h.len, h.le, h.cap, h.wf, fun hn => ?_⟩
  obtain ⟨b, o, rfl, hc⟩ := h.cell hn
  refine ⟨b, o, rfl, fun i hi => ?_⟩
  obtain ⟨h1, h2⟩ := hc i hi
  exact ⟨by rw [hb.cell (p := ⟨b, o + i * 2, none⟩) (World.block_lt_of_cell? w _ h1)]; exact h1, by rw [hb.cell (p := ⟨b, o + i * 2 + 1, none⟩) (World.block_lt_of_cell? w _ h2)]; exact h2⟩
theorem Prs.range {w : World} {a : Option Addr} {n c : Nat} {l : List (Int × Int)} (h : Prs w a n c l) {i : Nat} (hi : i < n) : (Lit.int .i64 (l.getD i (0, 0)).1).wf = true ∧ (Lit.int .i64 (l.getD i (0, 0)).2).wf = true := by
  have hl := h.len
  rw [List.getD_eq_getElem?_getD, List.getElem?_eq_getElem (by omega)]
  exact h.wf _ (List.getElem_mem _)
theorem Prs.lt {w : World} {b o n c : Nat} {l : List (Int × Int)} (h : Prs w (some ⟨b, o, none⟩) n c l) (hn : 0 < n) : b < w.heap.size := by
  obtain ⟨b', o', e, hc⟩ := h.cell hn
  injection e with e; injection e with e _; subst e
  exact World.block_lt_of_cell? w _ (hc 0 hn).1
/-- What a reading of such a slice gives. -/
theorem prs_open {w : World} {x : Addr} {n c : Nat} (hl : n ≤ c) (hm : c ≤ maxLen)
    (h : ∀ i, i < n → ∃ p q, w.cell? (x.add (i * 2)) = some (.int .i64 p) ∧ w.cell? (x.add (i * 2 + 1)) = some (.int .i64 q) ∧ (Lit.int .i64 p).wf = true ∧ (Lit.int .i64 q).wf = true) :
    ∃ zs, Prs w (some x) n c zs := by
  refine ⟨(List.range n).map fun i => (intOf ((w.cell? (x.add (i * 2))).getD (.int .i64 0)), intOf ((w.cell? (x.add (i * 2 + 1))).getD (.int .i64 0))), by simp, hl, hm, ?_, fun hn => ?_⟩
  · intro y hy
    obtain ⟨i, hi, rfl⟩ := List.mem_map.1 hy
    obtain ⟨p, q, h1, h2, h3, h4⟩ := h i (by simpa using hi)
    simp only [h1, h2, Option.getD_some, intOf]; exact ⟨h3, h4⟩
  · obtain ⟨b, o, spot⟩ := x
    obtain ⟨p, q, h1, _⟩ := h 0 hn
    have hspot : spot = none := by simpa [Addr.add] using World.cell?_spot h1
    subst hspot
    refine ⟨b, o, rfl, fun i hi => ?_⟩
    obtain ⟨p, q, h1, h2, _⟩ := h i hi
    rw [List.getD_eq_getElem?_getD, List.getElem?_map, List.getElem?_range hi]
    simp only [Option.map_some, Option.getD_some, h1, h2, intOf]
    rw [Addr.add_lit] at h1 h2
    exact ⟨h1, h2⟩
end Go.Proofs.Ytddglkejegmmmaa
