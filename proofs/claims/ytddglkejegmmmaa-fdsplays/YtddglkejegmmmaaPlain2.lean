/-
  More plain words of my own on worlds that grow: no statement is proved here.
-/
import Derived.Test.YtddglkejegmmmaaPlain
namespace Go.Proofs.Ytddglkejegmmmaa
open Go.ChangeShapes Go.WideShapes Go.ChangeAt Go.RowKit

theorem bundrew {B : Nat} {a w : World} (h : Below B a.drew w) : Below B a w := ⟨h.os, h.tape, h.output, h.size, h.block⟩
/-- Behind a call that left all of its own world as it was: what was kept so far is kept. -/
theorem bnext {B : Nat} {W w w' : World} (h : Below B W w) (k : Below w.heap.size w w') (hB : B ≤ W.heap.size) : Below B W w' :=
  bstep h k (Nat.le_trans hB h.size)
/-- What a reading of a slice of bytes gives. -/
theorem bs_open {w : World} {x : Addr} {n c : Nat} {zs : List Int} (hl : n ≤ c) (hm : c ≤ maxLen) (hz : zs.length = c) (hcell : ∀ i, i < zs.length → w.cell? (x.add i) = some (.int .u8 (zs.getD i 0))) (hwz : ∀ k ∈ zs, (Lit.int .u8 k).wf = true) :
    Bs w (some x) n c (zs.take n) := by
  refine ⟨by simp; omega, hl, hm, (fun h => by cases h), fun k hk => ?_, fun hn => ?_⟩
  · have := bounds_u8 (hwz k (List.mem_of_mem_take hk)); omega
  · obtain ⟨b, o, spot⟩ := x
    have h0 := hcell 0 (by omega)
    have hspot : spot = none := by simpa [Addr.add] using World.cell?_spot h0
    subst hspot
    refine ⟨b, o, rfl, fun i hi => ?_⟩
    have := hcell i (by omega)
    rw [Addr.add_lit] at this
    rw [this, List.getD_eq_getElem?_getD, List.getD_eq_getElem?_getD, List.getElem?_take, if_pos hi]
theorem Bs.take {w : World} {a : Option Addr} {n c : Nat} {l : List Int} (h : Bs w a n c l) (k : Nat) (hk : k ≤ n) : Bs w a k c (l.take k) := by
  have hl := h.len
  refine ⟨by simp; omega, Nat.le_trans hk h.le, h.cap, h.nil, fun x hx => h.byte x (List.mem_of_mem_take hx), fun hk0 => ?_⟩
  obtain ⟨b, o, e, hc⟩ := h.cell (by omega)
  refine ⟨b, o, e, fun i hi => ?_⟩
  rw [hc i (by omega), List.getD_eq_getElem?_getD, List.getD_eq_getElem?_getD, List.getElem?_take, if_pos hi]
/-- What the first bit that is 0 is. -/
theorem fz_spec (l : List Int) : ∀ (f g : Nat), fz l f g = -1 ∨ ∃ i : Nat, fz l f g = (i : Int) ∧ g ≤ i ∧ i < g + f ∧ bitB l i = false ∧ ∀ j, g ≤ j → j < i → bitB l j = true
  | 0, g => .inl rfl
  | f + 1, g => by
    by_cases h : bitB l g = true
    · rcases fz_spec l f (g + 1) with e | ⟨i, e, h1, h2, h3, h4⟩
      · exact .inl (by simp [fz, h, e])
      · refine .inr ⟨i, by simp [fz, h, e], by omega, by omega, h3, fun j hj hj' => ?_⟩
        by_cases hg : j = g
        · subst hg; exact h
        · exact h4 j (by omega) hj'
    · exact .inr ⟨g, by simp [fz, h], Nat.le_refl _, by omega, by simpa using h, fun j hj hj' => by omega⟩
end Go.Proofs.Ytddglkejegmmmaa
