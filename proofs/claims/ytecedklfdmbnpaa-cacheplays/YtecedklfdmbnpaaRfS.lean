/-
  What an act leaves that loads the image with another block: no statement is proved here.
-/
import Derived.Test.YtecedklfdmbnpaaRfR
namespace Go.Proofs.Ytecedklfdmbnpaa
open Go.ChangeShapes Go.WideShapes Go.ChangeAt Go.RowKit
set_option linter.unusedVariables false

theorem row_there {w : World} {g : Nat} {cur : Array Value} {t : TypeId} (hb : w.heap[g]? = some (.cells cur t (0, 0))) (o n : Nat) (h : o + n ≤ cur.size) : w.there g o n := fun j hj => by
  refine ⟨?_, ?_⟩
  · rw [cell_of_row w g (o + j) cur _ (0, 0) hb, Array.getElem?_eq_getElem (by omega)]; rfl
  · simp [World.frozen?, hb]
/-- Another block at m. -/
theorem own_set {w : World} {g n m : Nat} {l : List Blk} (ho : w.ownsRow 0 42 64 (.slice (some ⟨g, 0, none⟩) n n) n (flat l)) (hl : l.length = n) (hm : m < n) (hn : n ≤ 100000) (b : Blk) :
    w.there g (m * 64) 64 ∧ (w.setCells g (m * 64) b.cs).ownsRow 0 42 64 (.slice (some ⟨g, 0, none⟩) n n) n (flat (l.set m b)) := by
  have hB := Bls.own ho hl
  rcases ho.2 with ⟨e, _⟩ | ⟨g', cap, cur, e, _, hg, h1, h2, h3, h4⟩
  · injection e with e; cases e
  · injection e with e e2 e3
    injection e with e; injection e with e
    subst e3 e
    have th : ∀ j, j < n → w.there g (j * 64) 64 := fun j hj => row_there hg _ _ (by omega)
    obtain ⟨cur', c1, c2⟩ := row_setCells hg b.cs (m * 64)
    refine ⟨th m hm, own_of_ranges c1 (by omega) (by simpa using hl) hn (fun j hj => ?_)⟩
    by_cases e : j = m
    · subst e
      have e2 : (l.set j b).getD j Blk.zero = b := by simp [List.getD_eq_getElem?_getD, hl, hj]
      rw [e2]
      exact World.rangeAt_setCells_same w g (j * 64) b.cs (by rw [b.cs_len]; exact th j hj)
    · have e2 : (l.set m b).getD j Blk.zero = l.getD j Blk.zero := by simp [List.getD_eq_getElem?_getD, Ne.symm e]
      rw [e2]
      obtain ⟨b', o', ea, hr⟩ := hB.cell (by omega)
      injection ea with ea; injection ea with ea eo; subst ea eo
      have := hr j hj
      rw [Nat.zero_add] at this
      exact World.rangeAt_setCells_apart this g (m * 64) b.cs (.inr (by rw [b.cs_len, Blk.cs_len]; omega))

end Go.Proofs.Ytecedklfdmbnpaa
