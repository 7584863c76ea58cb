/-
  Plain words of my own on slices of slices of bytes, and on what a step of memory keeps: no statement is proved here.
-/
import Derived.Test.YtddglkejegmmmaaPlain2
import Derived.Deep.Matrix
import Derived.Deep.AppendLies
import Derived.Laws.OwnMore
namespace Go.Proofs.Ytddglkejegmmmaa
open Go.ChangeShapes Go.WideShapes Go.ChangeAt Go.RowKit
set_option linter.unusedVariables false

/-- The slice 'a, n, c' holds slices of bytes that read as the lists L, in the world w. -/
structure Bss (w : World) (a : Option Addr) (n c : Nat) (L : List (List Int)) : Prop where
  len : L.length = n
  le : n ≤ c
  cap : c ≤ maxLen
  cell : 0 < n → ∃ b o, a = some ⟨b, o, none⟩ ∧ ∀ i, i < n → ∃ x y z, w.cell? ⟨b, o + i, none⟩ = some (.slice x y z) ∧ Bs w x y z (L.getD i [])

theorem Bss.later {w w' : World} {a : Option Addr} {n c : Nat} {L : List (List Int)} (h : Bss w a n c L) (hb : Below w.heap.size w w') : Bss w' a n c L := by
  refine ⟨h.len, h.le, h.cap, fun hn => ?_⟩
  obtain ⟨b, o, rfl, hc⟩ := h.cell hn
  refine ⟨b, o, rfl, fun i hi => ?_⟩
  obtain ⟨x, y, z, h1, h2⟩ := hc i hi
  refine ⟨x, y, z, ?_, h2.later hb⟩
  rw [hb.cell (p := ⟨b, o + i, none⟩) (World.block_lt_of_cell? w ⟨b, o + i, none⟩ h1)]
  exact h1
theorem Bss.byte {w : World} {a : Option Addr} {n c : Nat} {L : List (List Int)} (h : Bss w a n c L) : ∀ l ∈ L, ∀ x ∈ l, 0 ≤ x ∧ x ≤ 255 := by
  intro l hl
  obtain ⟨i, hi, rfl⟩ := List.getElem_of_mem hl
  have hn := h.len
  obtain ⟨b, o, rfl, hc⟩ := h.cell (by omega)
  obtain ⟨x, y, z, h1, h2⟩ := hc i (by omega)
  have := h2.byte
  rwa [List.getD_eq_getElem?_getD, List.getElem?_eq_getElem hi] at this
theorem flat_take (L : List (List Int)) (k : Nat) (h : k < L.length) : (L.take (k + 1)).flatten = (L.take k).flatten ++ L.getD k [] := by
  rw [List.take_add_one, List.getElem?_eq_getElem h, List.flatten_append, List.getD_eq_getElem?_getD, List.getElem?_eq_getElem h]
  simp
theorem flat_byte {L : List (List Int)} (h : ∀ l ∈ L, ∀ x ∈ l, 0 ≤ x ∧ x ≤ 255) (k : Nat) : ∀ x ∈ (L.take k).flatten, 0 ≤ x ∧ x ≤ 255 := by
  intro x hx
  obtain ⟨l, hl, hxl⟩ := List.mem_flatten.1 hx
  exact h l (List.mem_of_mem_take hl) x hxl

theorem bss_alloc (w : World) (e : TypeId) (vs : List Value) (L : List (List Int)) (hl : vs.length = L.length) (hm : L.length ≤ maxLen) (h : ∀ i, i < L.length → ∃ x y z, vs[i]? = some (.slice x y z) ∧ Bs w x y z (L.getD i [])) :
    Bss (w.alloc (.cells vs.toArray e)) (some ⟨w.heap.size, 0, none⟩) L.length L.length L := by
  refine ⟨rfl, Nat.le_refl _, hm, fun _ => ⟨_, 0, rfl, fun i hi => ?_⟩⟩
  obtain ⟨x, y, z, h1, h2⟩ := h i hi
  refine ⟨x, y, z, ?_, h2.later ((Below.refl _ w).alloc (Nat.le_refl _) _)⟩
  rw [cell_of_row _ _ _ _ e (0, 0) (heap_alloc_new w _), Nat.zero_add, List.getElem?_toArray, h1]

theorem small_range {l : List Int} (h : l.all (fun x => decide (0 ≤ x ∧ x ≤ 255)) = true) : ∀ x ∈ l, 0 ≤ x ∧ x ≤ 255 := fun x hx => by
  have := List.all_eq_true.1 h x hx; simpa using this

theorem bs_marked (w : World) (e : TypeId) (fr : Nat × Nat) (l : List Int) (hl : ∀ x ∈ l, 0 ≤ x ∧ x ≤ 255) (hm : l.length ≤ maxLen) : Bs (w.alloc (.cells (l.map (Value.int .u8)).toArray e fr)) (some ⟨w.heap.size, 0, none⟩) l.length l.length l := by
  refine ⟨rfl, Nat.le_refl _, hm, (fun h => by cases h), hl, fun _ => ⟨_, 0, rfl, fun i hi => ?_⟩⟩
  rw [World.cell?_alloc_mark, Nat.zero_add, List.getElem?_toArray, List.getElem?_map, List.getElem?_eq_getElem hi]
  simp [List.getD_eq_getElem?_getD, List.getElem?_eq_getElem hi]


/-- From w to w' no block changed but those in B; blocks may have come. -/
structure Keep (B : List Nat) (w w' : World) : Prop where
  size : w.heap.size ≤ w'.heap.size
  block : ∀ k, k < w.heap.size → k ∉ B → w'.heap[k]? = w.heap[k]?
theorem Keep.refl (B : List Nat) (w : World) : Keep B w w := ⟨Nat.le_refl _, fun _ _ _ => rfl⟩
theorem Keep.trans {B : List Nat} {a b c : World} (h : Keep B a b) (k : Keep B b c) : Keep B a c :=
  ⟨Nat.le_trans h.size k.size, fun i hi hB => by rw [k.block i (Nat.lt_of_lt_of_le hi h.size) hB, h.block i hi hB]⟩
theorem Keep.mono {B B' : List Nat} {a b : World} (h : Keep B a b) (hB : ∀ x ∈ B, x ∈ B') : Keep B' a b := ⟨h.size, fun i hi hn => h.block i hi (fun hm => hn (hB i hm))⟩
theorem keep_below {w w' : World} (h : Below w.heap.size w w') (B : List Nat) : Keep B w w' := ⟨h.size, fun k hk _ => h.block k hk⟩
theorem keep_alloc (w : World) (o : Obj) (B : List Nat) : Keep B w (w.alloc o) := keep_below ((Below.refl _ w).alloc (Nat.le_refl _) o) B
theorem keep_setCell (w : World) (p : Addr) (u : Value) (B : List Nat) (hp : p.block ∈ B) : Keep B w (w.setCell p u) :=
  ⟨by simp, fun k _ hn => Below.heap_setCell w p u k (fun e => hn (e ▸ hp))⟩
theorem keep_grown {w w' : World} {v : Value} (h : w.grownBy w' v.ownBlock) (B : List Nat) (hB : ∀ b, v.ownBlock = some b → b ∈ B) : Keep B w w' :=
  ⟨h.size, fun k hk hn => h.block k hk (fun e => hn (hB k e.symm))⟩
theorem keep_own {w w' : World} {g n c : Nat} (h : w.grownBy w' (Value.slice (some ⟨g, 0, none⟩) n c).ownBlock) (B : List Nat) (hB : g ∈ B) : Keep B w w' :=
  keep_grown h B (fun b e => by have e' : some g = some b := e; injection e' with e'; subst e'; exact hB)
theorem Keep.cell {B : List Nat} {w w' : World} (h : Keep B w w') {p : Addr} {v : Value} (hc : w.cell? p = some v) (hp : p.block ∉ B) : w'.cell? p = some v := by
  rw [World.cell?_of_block (w := w) (h.block p.block (World.block_lt_of_cell? w p hc) hp)]; exact hc
theorem Keep.frozen {B : List Nat} {w w' : World} (h : Keep B w w') {p : Addr} (hl : p.block < w.heap.size) (hp : p.block ∉ B) : w'.frozen? p = w.frozen? p :=
  World.frozen?_of_block (w := w) (h.block p.block hl hp)
theorem Bs.keep {B : List Nat} {w w' : World} {a : Option Addr} {n c : Nat} {l : List Int} (h : Bs w a n c l) (hk : Keep B w w') (ha : ∀ ad, a = some ad → 0 < n → ad.block ∉ B) : Bs w' a n c l := by
  refine ⟨h.len, h.le, h.cap, h.nil, h.byte, fun hn => ?_⟩
  obtain ⟨b, o, rfl, hc⟩ := h.cell hn
  exact ⟨b, o, rfl, fun i hi => hk.cell (hc i hi) (show b ∉ B from ha ⟨b, o, none⟩ rfl hn)⟩
theorem Bs.lt {w : World} {ad : Addr} {n c : Nat} {l : List Int} (h : Bs w (some ad) n c l) (hn : 0 < n) : ad.block < w.heap.size := by
  obtain ⟨b, o, e, hc⟩ := h.cell hn
  injection e with e; subst e
  exact World.block_lt_of_cell? w ⟨b, o + 0, none⟩ (hc 0 hn)
theorem own_keep {B : List Nat} {w w' : World} {base : Nat} {e : TypeId} {size g n cap : Nat} {xs : List Value} (h : w.ownsRow base e size (.slice (some ⟨g, 0, none⟩) n cap) n xs) (hk : Keep B w w') (hg : g ∉ B) :
    w'.ownsRow base e size (.slice (some ⟨g, 0, none⟩) n cap) n xs := by
  obtain ⟨h1, h2⟩ := h
  refine ⟨h1, ?_⟩
  rcases h2 with ⟨h2, _⟩ | ⟨g', cap', cur, hv, hb, hg', hr⟩
  · cases h2
  · refine .inr ⟨g', cap', cur, hv, hb, ?_, hr⟩
    injection hv with hv; injection hv with hv; injection hv with hv; subst hv
    rw [hk.block g (by
      rcases Nat.lt_or_ge g w.heap.size with hlt | hge
      · exact hlt
      · rw [Array.getElem?_eq_none hge] at hg'; cases hg') hg]
    exact hg'
theorem own_lt {w : World} {base : Nat} {e : TypeId} {size g n cap : Nat} {xs : List Value} (h : w.ownsRow base e size (.slice (some ⟨g, 0, none⟩) n cap) n xs) : base ≤ g ∧ g < w.heap.size := h.lt g rfl
theorem own_bs' {w : World} {base : Nat} {e : TypeId} {g n cap : Nat} {l : List Int} (h : w.ownsRow base e 1 (.slice (some ⟨g, 0, none⟩) n cap) n (l.map (Value.int .u8))) (hl : ∀ x ∈ l, 0 ≤ x ∧ x ≤ 255) : Bs w (some ⟨g, 0, none⟩) n cap l := by
  obtain ⟨a, c, hv, hb⟩ := own_bs h hl
  injection hv with h1 h2 h3
  subst h1; subst h3; exact hb
/-- An owned value that is not nil, written out. -/
theorem own_some {w : World} {base : Nat} {e : TypeId} {size : Nat} {v : Value} {n : Nat} {xs : List Value} (h : w.ownsRow base e size v n xs) (hv : v ≠ .slice none 0 0) : ∃ g cap, v = .slice (some ⟨g, 0, none⟩) n cap ∧ n ≤ cap ∧ cap ≤ maxLen := by
  rcases h.2 with ⟨h0, _⟩ | ⟨g, cap, cur, hv', hb, hg, hle, hm, _⟩
  · exact absurd h0 hv
  · exact ⟨g, cap, hv', hle, hm⟩
theorem Bs.cells {w : World} {x : Addr} {n c : Nat} {l : List Int} (h : Bs w (some x) n c l) : ∀ j u, (l.map (Value.int .u8))[j]? = some u → w.cell? (x.add j) = some u := by
  intro j u hj
  have hjl : j < l.length := by have := (List.getElem?_eq_some_iff.1 hj).1; simpa using this
  obtain ⟨b, off, hx, hc⟩ := h.cell (by have := h.len; omega)
  obtain rfl : x = ⟨b, off, none⟩ := by simpa using hx
  rw [Addr.add_lit, hc j (by have := h.len; omega), ← hj, List.getElem?_map, List.getElem?_eq_getElem hjl]
  simp [List.getD_eq_getElem?_getD, List.getElem?_eq_getElem hjl]
theorem u8_one (l : List Int) : ∀ u ∈ l.map (Value.int .u8), u.oneCell' = true := by
  intro u hu; obtain ⟨x, _, rfl⟩ := List.mem_map.1 hu; rfl
/-- Slices that read as the lists Ls, none of them (that has bytes) in a block of B. -/
structure Pcs (w : World) (B : List Nat) (vs : List Value) (Ls : List (List Int)) : Prop where
  len : vs.length = Ls.length
  each : ∀ i, i < Ls.length → ∃ x y z, vs[i]? = some (.slice x y z) ∧ Bs w x y z (Ls.getD i []) ∧ ∀ ad, x = some ad → 0 < y → ad.block ∉ B
theorem Pcs.nil (w : World) (B : List Nat) : Pcs w B [] [] := ⟨rfl, fun i hi => absurd hi (by simp)⟩
theorem Pcs.keep {B : List Nat} {w w' : World} {vs : List Value} {Ls : List (List Int)} (h : Pcs w B vs Ls) (hk : Keep B w w') : Pcs w' B vs Ls := by
  refine ⟨h.len, fun i hi => ?_⟩
  obtain ⟨x, y, z, h1, h2, h3⟩ := h.each i hi
  exact ⟨x, y, z, h1, h2.keep hk h3, h3⟩
theorem Pcs.turn {B B' : List Nat} {w : World} {vs : List Value} {Ls : List (List Int)} (h : Pcs w B vs Ls) (hB : ∀ b ∈ B', b ∈ B ∨ w.heap.size ≤ b) : Pcs w B' vs Ls := by
  refine ⟨h.len, fun i hi => ?_⟩
  obtain ⟨x, y, z, h1, h2, h3⟩ := h.each i hi
  refine ⟨x, y, z, h1, h2, fun ad e hy hm => ?_⟩
  subst e
  rcases hB _ hm with h4 | h4
  · exact h3 ad rfl hy h4
  · have := h2.lt hy; omega
theorem Pcs.snoc {B : List Nat} {w : World} {vs : List Value} {Ls : List (List Int)} (h : Pcs w B vs Ls) {x : Option Addr} {y z : Nat} {l : List Int} (hb : Bs w x y z l) (ha : ∀ ad, x = some ad → 0 < y → ad.block ∉ B) : Pcs w B (vs ++ [.slice x y z]) (Ls ++ [l]) := by
  have hl := h.len
  refine ⟨by simp [hl], fun i hi => ?_⟩
  by_cases e : i < Ls.length
  · obtain ⟨x', y', z', h1, h2, h3⟩ := h.each i e
    refine ⟨x', y', z', by rw [List.getElem?_append_left (by omega)]; exact h1, ?_, h3⟩
    rw [List.getD_eq_getElem?_getD, List.getElem?_append_left e, ← List.getD_eq_getElem?_getD]; exact h2
  · obtain rfl : i = Ls.length := by simp at hi; omega
    refine ⟨x, y, z, by rw [← hl]; simp, ?_, ha⟩
    rw [List.getD_eq_getElem?_getD, List.getElem?_append_right (Nat.le_refl _)]; simpa using hb
/-- An owned row of such slices is a slice of slices. -/
theorem bss_own {w : World} {base : Nat} {e : TypeId} {g n cap : Nat} {B : List Nat} {vs : List Value} {Ls : List (List Int)} (h : w.ownsRow base e 1 (.slice (some ⟨g, 0, none⟩) n cap) n vs) (hp : Pcs w B vs Ls) : Bss w (some ⟨g, 0, none⟩) n cap Ls := by
  have h1 := h.1
  have hl := hp.len
  obtain ⟨_, cap', hv, hle, hm⟩ := own_some h (fun h => by cases h)
  injection hv with _ _ hv; subst hv
  refine ⟨by omega, hle, hm, fun hn => ⟨g, 0, rfl, fun i hi => ?_⟩⟩
  obtain ⟨x, y, z, h3, h4, _⟩ := hp.each i (by omega)
  refine ⟨x, y, z, ?_, h4⟩
  rw [Nat.zero_add, h.cellAt i (by omega)]; exact h3
/-- What a reading of a slice of slices of bytes gives. -/
theorem bss_open {w : World} {a : Addr} {len cap : Nat} {A : Nat → Option Addr} {L C : Nat → Nat} {Z : Nat → List Int} (hl : len ≤ cap) (hm : cap ≤ maxLen)
    (h : ∀ r, r < cap → w.cell? (a.add r) = some (.slice (A r) (L r) (C r)) ∧ L r ≤ C r ∧ C r ≤ maxLen ∧ (Z r).length = C r ∧ (∀ n ∈ Z r, (Lit.int .u8 n).wf = true) ∧ (A r = none → C r = 0) ∧
      ∀ a', A r = some a' → 0 ≤ a'.block ∧ ∀ c, c < C r → w.cell? (a'.add c) = some (.int .u8 ((Z r).getD c 0))) :
    Bss w (some a) len cap ((List.range len).map fun r => (Z r).take (L r)) := by
  refine ⟨by simp, hl, hm, fun hn => ?_⟩
  obtain ⟨b, o, spot⟩ := a
  have hspot : spot = none := by simpa [Addr.add] using World.cell?_spot (h 0 (by omega)).1
  subst hspot
  refine ⟨b, o, rfl, fun i hi => ?_⟩
  obtain ⟨h1, h2, h3, h4, h5, h6, h7⟩ := h i (by omega)
  rw [Addr.add_lit] at h1
  refine ⟨_, _, _, h1, ?_⟩
  rw [List.getD_eq_getElem?_getD, List.getElem?_map, List.getElem?_range hi]
  show Bs w (A i) (L i) (C i) ((Z i).take (L i))
  cases hA : A i with
  | none =>
    have := h6 hA
    rw [this, show L i = 0 by omega]; exact Bs.nilSlice w
  | some a' => exact bs_open h2 h3 h4 (fun c hc => (h7 a' hA).2 c (by omega)) h5
end Go.Proofs.Ytddglkejegmmmaa
