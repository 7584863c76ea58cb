/-
  Slices of ints of one's own: no statement is proved here.
-/
import Derived.Test.YtddglkejegmmmaaMadeA
namespace Go.Proofs.Ytddglkejegmmmaa
open Go.ChangeShapes Go.WideShapes Go.ChangeAt Go.RowKit
set_option linter.unusedVariables false
set_option linter.unusedSimpArgs false

def iV (x : Int) : Value := .int .i64 x
/-- The slice v, of one's own, holds just l. -/
def OwV (w : World) (v : Value) (l : List Int) : Prop := w.ownsRow 0 3 1 v l.length (l.map (Value.int .i64))
section
variable {w w' : World} {v : Value} {l : List Int} {F : Nat → Prop}
theorem OwV.nil (w : World) : OwV w (.slice none 0 0) [] := ⟨rfl, .inl ⟨rfl, rfl⟩⟩
/-- Its row. -/
structure Rw1 (w : World) (g cap : Nat) (l : List Int) (cur : Array Value) : Prop where
  at' : w.heap[g]? = some (.cells cur 3 (0, 0))
  le : l.length ≤ cap
  cm : cap ≤ maxLen
  size : cur.size = cap
  take : cur.toList.take l.length = l.map (Value.int .i64)
theorem OwV.row (h : OwV w v l) : (v = .slice none 0 0 ∧ l = []) ∨ ∃ g cap cur, v = .slice (some ⟨g, 0, none⟩) l.length cap ∧ Rw1 w g cap l cur := by
  rcases h.2 with ⟨h1, h2⟩ | ⟨g, cap, cur, h1, _, h3, h4, h5, h6, h7⟩
  · exact .inl ⟨h1, List.eq_nil_of_length_eq_zero h2⟩
  · rw [Nat.mul_one] at h6 h7
    exact .inr ⟨g, cap, cur, h1, h3, h4, h5, h6, h7⟩
theorem Rw1.own {g cap : Nat} {cur : Array Value} (h : Rw1 w g cap l cur) : OwV w (.slice (some ⟨g, 0, none⟩) l.length cap) l :=
  ⟨by simp, .inr ⟨g, cap, cur, rfl, Nat.zero_le _, h.at', h.le, h.cm, by rw [Nat.mul_one]; exact h.size, by rw [Nat.mul_one]; exact h.take⟩⟩
theorem Rw1.lt {g cap : Nat} {cur : Array Value} (h : Rw1 w g cap l cur) : g < w.heap.size := (Array.getElem?_eq_some_iff.1 h.at').1
theorem Rw1.cell {g cap : Nat} {cur : Array Value} (h : Rw1 w g cap l cur) (i : Nat) (hi : i < l.length) : w.cell? ⟨g, i, none⟩ = some (.int .i64 (l.getD i 0)) := by
  rw [cell_of_row w g i _ _ (0, 0) h.at']
  have h1 : (cur.toList.take l.length)[i]? = (l.map (Value.int .i64))[i]? := by rw [h.take]
  rw [List.getElem?_take, if_pos hi, List.getElem?_map, List.getElem?_eq_getElem hi] at h1
  rw [List.getD_eq_getElem?_getD, List.getElem?_eq_getElem hi]
  simpa using h1
theorem Rw1.frozen {g cap : Nat} {cur : Array Value} (h : Rw1 w g cap l cur) (i : Nat) : w.frozen? ⟨g, i, none⟩ = false := by simp [World.frozen?, h.at']
theorem Rw1.has {g cap : Nat} {cur : Array Value} (h : Rw1 w g cap l cur) (i : Nat) (hi : i < cap) : (w.cell? ⟨g, i, none⟩).isSome = true := by
  rw [cell_of_row w g i _ _ (0, 0) h.at', Array.getElem?_eq_getElem (by rw [h.size]; exact hi)]; rfl
theorem OwV.lt (h : OwV w v l) {r : Nat} (hr : v.ownBlock = some r) : r < w.heap.size := by
  rcases h.row with ⟨rfl, _⟩ | ⟨g, cap, cur, rfl, hw⟩
  · cases hr
  · have : g = r := by simpa [Value.ownBlock] using hr
    rw [← this]; exact hw.lt
theorem OwV.step (h : OwV w v l) (k : Stp F w w') (hF : ∀ r, v.ownBlock = some r → ¬ F r) : OwV w' v l := by
  rcases h.row with ⟨rfl, rfl⟩ | ⟨g, cap, cur, rfl, hw⟩
  · exact OwV.nil w'
  · exact Rw1.own (cur := cur) ⟨by rw [k.block g hw.lt (hF g rfl)]; exact hw.at', hw.le, hw.cm, hw.size, hw.take⟩
theorem OwV.later (h : OwV w v l) (k : Below w.heap.size w w') : OwV w' v l := h.step (Stp.of_below k (fun _ => False)) (fun _ _ => id)
theorem OwV.map_ne {P : Program} {K : TypeId} {b : Nat} {f : Int → Option Value} (h : OwV w v l) (hm : MpI P K w b f) : v.ownBlock ≠ Option.some b := by
  intro e
  rcases h.row with ⟨rfl, _⟩ | ⟨g, cap, cur, rfl, hw⟩
  · cases e
  · have : g = b := by simpa [Value.ownBlock] using e
    obtain ⟨D, ⟨es, clock, hh, _⟩, _⟩ := hm
    have hg := hw.at'
    rw [this, hh] at hg; cases hg
end
theorem Rw1.cells {w : World} {g cap : Nat} {l : List Int} {cur : Array Value} (h : Rw1 w g cap l cur) : ∀ j v, (l.map (Value.int .i64))[j]? = some v → w.cell? ⟨g, 0 + j, none⟩ = some v := by
  intro j v hv
  have hj := (List.getElem?_eq_some_iff.1 hv).1
  rw [List.length_map] at hj
  rw [Nat.zero_add, h.cell j hj, ← hv, List.getElem?_map, List.getElem?_eq_getElem hj, List.getD_eq_getElem?_getD, List.getElem?_eq_getElem hj]
  rfl
theorem OwV.shape {w : World} {v : Value} {l : List Int} (h : OwV w v l) : ∃ a n c, v = .slice a n c := by
  rcases h.row with ⟨e, _⟩ | ⟨g, cap, cur, e, _⟩
  · exact ⟨_, _, _, e⟩
  · exact ⟨_, _, _, e⟩
theorem OwV.one {w : World} {v : Value} {l : List Int} (h : OwV w v l) : v.oneCell' = true := by
  rcases h.row with ⟨rfl, _⟩ | ⟨g, cap, cur, rfl, _⟩ <;> rfl
theorem OwV.row1 {w : World} {v : Value} {l : List Int} (h : OwV w v l) (hl : l ≠ []) : ∃ g cap cur, v = .slice (some ⟨g, 0, none⟩) l.length cap ∧ Rw1 w g cap l cur := by
  rcases h.row with ⟨_, e⟩ | h
  · exact absurd e hl
  · exact h
/-- .. as a slice that reads so. -/
theorem OwV.ins {w : World} {v : Value} {l : List Int} {B : Nat} (h : OwV w v l) (hl : ∀ x ∈ l, wfi x) (hN : New B v) : ∃ s : Sv, v = s.v ∧ s.n = l.length ∧ InsS w s l ∧ InE (fun x => B ≤ x ∧ x < w.heap.size) s := ro_ins h hl hN
end Go.Proofs.Ytddglkejegmmmaa
