/-
  What Image of the code's disk returns: no statement is proved here.
-/
import Derived.Test.YtecedklfdmbnpaaRfJ
import Derived.Deep.CutBlock
namespace Go.Proofs.Ytecedklfdmbnpaa
open Go.ChangeShapes Go.WideShapes Go.ChangeAt Go.RowKit
set_option linter.unusedVariables false

/-- What is stable, sector by sector. -/
def img (S : DS) : List Blk := (List.range S.n).map fun j : Nat => S.st (j : Int)
theorem img_len (S : DS) : (img S).length = S.n := by unfold img; simp
theorem img_get (S : DS) (j : Nat) (h : j < S.n) : (img S).getD j Blk.zero = S.st j := by
  unfold img; rw [List.getD_eq_getElem?_getD, List.getElem?_map, List.getElem?_range h]; rfl
/-- A row that reads so, block by block, is the call's own. -/
theorem own_of_ranges {w : World} {g n : Nat} {cur : Array Value} {l : List Blk} (hb : w.heap[g]? = some (.cells cur 42 (0, 0))) (hs : cur.size = n * 64) (hl : l.length = n) (hn : n ≤ 100000) (h : ∀ j, j < n → w.rangeAt g (j * 64) (l.getD j Blk.zero).cs) :
    w.ownsRow 0 42 64 (.slice (some ⟨g, 0, none⟩) n n) n (flat l) := by
  have e : cur.toList = flat l := by
    apply List.ext_getElem?
    intro k
    by_cases hk : k < n * 64
    · have hr := h (k / 64) (by omega)
      have hg := flat_get l (k / 64) (k % 64) (by omega) (Nat.mod_lt _ (by omega))
      rw [show k / 64 * 64 + k % 64 = k by omega] at hg
      rw [hg]
      obtain ⟨v, hv⟩ : ∃ v, (l.getD (k / 64) Blk.zero).cs[k % 64]? = some v := ⟨_, List.getElem?_eq_getElem (by rw [Blk.cs_len]; exact Nat.mod_lt _ (by omega))⟩
      have := hr (k % 64) v hv
      rw [show k / 64 * 64 + k % 64 = k by omega, cell_of_row _ _ _ cur _ (0, 0) hb] at this
      rw [hv, ← this, Array.getElem?_toList]
    · rw [List.getElem?_eq_none (by simp; omega), List.getElem?_eq_none (by rw [flat_len, hl]; omega)]
  refine ⟨by rw [flat_len, hl], .inr ⟨g, n, cur, rfl, Nat.zero_le _, hb, Nat.le_refl _, by unfold maxLen; omega, hs, ?_⟩⟩
  rw [e, List.take_of_length_le (by rw [flat_len, hl]; exact Nat.le_refl _)]
/-- A store of many cells leaves a row a row. -/
theorem row_setCells {w : World} {g : Nat} {cur : Array Value} {t : TypeId} (hb : w.heap[g]? = some (.cells cur t (0, 0))) : ∀ (vs : List Value) (o : Nat), ∃ cur', (w.setCells g o vs).heap[g]? = some (.cells cur' t (0, 0)) ∧ cur'.size = cur.size := by
  intro vs
  induction vs generalizing w cur with
  | nil => intro o; exact ⟨cur, hb, rfl⟩
  | cons v r ih =>
    intro o
    rw [World.setCells]
    obtain ⟨c1, h1, h2⟩ : ∃ c1, (w.setCell ⟨g, o, none⟩ v).heap[g]? = some (.cells c1 t (0, 0)) ∧ c1.size = cur.size := by
      refine ⟨cur.setIfInBounds o v, ?_, by simp⟩
      simp only [World.setCell, Array.getElem?_modify, if_true, hb, Option.map_some]
      rfl
    obtain ⟨c2, h3, h4⟩ := ih h1 (o + 1)
    exact ⟨c2, h3, h4.trans h2⟩

section
variable {ops : Array Oper} {rest : List Oper} {o : Oper} {a : Act} {w : World} {Q : Exit → Act → World → Prop}
theorem at_nextB {b r : Nat} {f : Int → Option Value} {left : Int → Bool} {cnt : Nat} (hw : Region.wanted o (yielded ops a.tmps) = true) (x : Operand) (ho : o.op = Op.next x false)
    (hx : a.eval x = .pointer (some ⟨r, 0, none⟩)) (h : RgI Try.prog 3 w b r f left cnt) (B : Int → Blk) (hsh : ∀ k v, f k = some v → v = .agg (B k).cs.toArray)
    (h0 : (∀ k, left k = false) → wpList Try.prog ops Q rest (a.put o.dst (.tuple #[.bool false])) w)
    (h1 : ∀ k w' cnt', (Lit.int .i64 k).wf = true → left k = true → f k = some (.agg (B k).cs.toArray) → RgI Try.prog 3 w' b r f (fun x => left x && !decide (x = k)) cnt' → cnt' < cnt → Stp (fun x => x = r) w w' → w'.heap.size = w.heap.size →
      (Instr.entry (.pointer (some ⟨r, 0, none⟩))).run Try.prog w' = .ok (.tuple #[.int .i64 k, .agg (B k).cs.toArray]) w' → wpList Try.prog ops Q rest (a.put o.dst (.tuple #[.bool true, .int .i64 k, .agg (B k).cs.toArray])) w') : wpList Try.prog ops Q (o :: rest) a w :=
  at_next' hw x ho hx h h0 (fun k v w' cnt' a1 a2 a3 a4 a5 a6 a7 a8 => by
    obtain rfl := hsh k v a3
    exact h1 k w' cnt' a1 a2 a3 a4 a5 a6 a7 a8)
end
/-- The loop's head: what has come stands in the row. -/
structure Im (w wr : World) (m1 r g3 : Nat) (S : DS) (left : Int → Bool) (cnt : Nat) : Prop where
  rg : RgI Try.prog 3 wr m1 r (stF S) left cnt
  st : ∀ j : Nat, j < S.n → wr.rangeAt g3 (j * 64) (if left j then Blk.zero else S.st j).cs
  th : ∀ j : Nat, j < S.n → wr.there g3 (j * 64) 64
  row : ∃ cur, wr.heap[g3]? = some (.cells cur 42 (0, 0)) ∧ cur.size = S.n * 64
  bel : Below w.heap.size w wr
theorem stF_some {S : DS} {k : Int} {v : Value} (h : stF S k = some v) : v = .agg (S.st k).cs.toArray := by
  unfold stF at h; split at h
  · cases h
  · injection h with h; exact h.symm
end Go.Proofs.Ytecedklfdmbnpaa
