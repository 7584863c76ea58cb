/-
  What a supply of layer 3 is in memory, and what its methods return: no statement is proved here.
-/
import Derived.Test.YtdnjkpdcfjkmfaaRows
import Derived.Test.YtdnjkpdcfjkmfaaPlain4
import Derived.Recover
namespace Go.Proofs.Ytdnjkpdcfjkmfaa
open Go.ChangeShapes Go.WideShapes Go.ChangeAt Go.RowKit
set_option linter.unusedVariables false

/-- What the code's supply holds. -/
structure PS where
  lim : Bool
  left : Int
  gone : Bool
  used : Int
/-- It lies in the block g. -/
structure Pw (w : World) (g : Nat) (p : PS) : Prop where
  c0 : w.cell? ⟨g, 0, none⟩ = some (.bool p.lim)
  c1 : w.cell? ⟨g, 1, none⟩ = some (.int .i64 p.left)
  c2 : w.cell? ⟨g, 2, none⟩ = some (.bool p.gone)
  c3 : w.cell? ⟨g, 3, none⟩ = some (.int .i64 p.used)
  f0 : w.frozen? ⟨g, 0, none⟩ = false
  f1 : w.frozen? ⟨g, 1, none⟩ = false
  f2 : w.frozen? ⟨g, 2, none⟩ = false
  f3 : w.frozen? ⟨g, 3, none⟩ = false
theorem Pw.lt {w : World} {g : Nat} {p : PS} (h : Pw w g p) : g < w.heap.size := World.block_lt_of_cell? w ⟨g, 0, none⟩ h.c0
theorem Pw.step {B : List Nat} {w w' : World} {g : Nat} {p : PS} (h : Pw w g p) (k : Step B w w') (hg : g ∉ B) : Pw w' g p :=
  ⟨k.cell h.c0 hg, k.cell h.c1 hg, k.cell h.c2 hg, k.cell h.c3 hg, by rw [k.frozen (p := ⟨g, 0, none⟩) h.lt hg]; exact h.f0, by rw [k.frozen (p := ⟨g, 1, none⟩) h.lt hg]; exact h.f1,
   by rw [k.frozen (p := ⟨g, 2, none⟩) h.lt hg]; exact h.f2, by rw [k.frozen (p := ⟨g, 3, none⟩) h.lt hg]; exact h.f3⟩
theorem Pw.drew {w : World} {g : Nat} {p : PS} (h : Pw w g p) : Pw w.drew g p := h.step (Step.refl [] w).drew (by simp)
theorem Pw.made (w : World) (b c : Bool) (m n : Int) : Pw (w.alloc (Obj.cells #[.bool b, .int .i64 m, .bool c, .int .i64 n] 59)) w.heap.size ⟨b, m, c, n⟩ := by
  constructor <;> simp [go_sem]
theorem Pw.set0 {w : World} {g : Nat} {p : PS} (h : Pw w g p) (b : Bool) : Pw (w.setCell ⟨g, 0, none⟩ (.bool b)) g { p with lim := b } :=
  ⟨World.cell?_setCell_same _ _ _ h.c0, by rw [World.cell?_setCell_other _ _ _ _ (by simp)]; exact h.c1, by rw [World.cell?_setCell_other _ _ _ _ (by simp)]; exact h.c2, by rw [World.cell?_setCell_other _ _ _ _ (by simp)]; exact h.c3,
   by simpa using h.f0, by simpa using h.f1, by simpa using h.f2, by simpa using h.f3⟩
theorem Pw.set1 {w : World} {g : Nat} {p : PS} (h : Pw w g p) (n : Int) : Pw (w.setCell ⟨g, 1, none⟩ (.int .i64 n)) g { p with left := n } :=
  ⟨by rw [World.cell?_setCell_other _ _ _ _ (by simp)]; exact h.c0, World.cell?_setCell_same _ _ _ h.c1, by rw [World.cell?_setCell_other _ _ _ _ (by simp)]; exact h.c2, by rw [World.cell?_setCell_other _ _ _ _ (by simp)]; exact h.c3,
   by simpa using h.f0, by simpa using h.f1, by simpa using h.f2, by simpa using h.f3⟩
theorem Pw.set2 {w : World} {g : Nat} {p : PS} (h : Pw w g p) (b : Bool) : Pw (w.setCell ⟨g, 2, none⟩ (.bool b)) g { p with gone := b } :=
  ⟨by rw [World.cell?_setCell_other _ _ _ _ (by simp)]; exact h.c0, by rw [World.cell?_setCell_other _ _ _ _ (by simp)]; exact h.c1, World.cell?_setCell_same _ _ _ h.c2, by rw [World.cell?_setCell_other _ _ _ _ (by simp)]; exact h.c3,
   by simpa using h.f0, by simpa using h.f1, by simpa using h.f2, by simpa using h.f3⟩
theorem Pw.set3 {w : World} {g : Nat} {p : PS} (h : Pw w g p) (n : Int) : Pw (w.setCell ⟨g, 3, none⟩ (.int .i64 n)) g { p with used := n } :=
  ⟨by rw [World.cell?_setCell_other _ _ _ _ (by simp)]; exact h.c0, by rw [World.cell?_setCell_other _ _ _ _ (by simp)]; exact h.c1, by rw [World.cell?_setCell_other _ _ _ _ (by simp)]; exact h.c2, World.cell?_setCell_same _ _ _ h.c3,
   by simpa using h.f0, by simpa using h.f1, by simpa using h.f2, by simpa using h.f3⟩

/-- Its numbers are in their bounds. -/
def PS.ok (p : PS) : Prop := 0 ≤ p.left ∧ p.left ≤ 9223372036854775807 ∧ 0 ≤ p.used ∧ p.used ≤ 1000000000000
def PS.fresh : PS := ⟨false, 0, false, 0⟩
def limErr (n : Int) : Int := if n < 0 then 2 else 0
def PS.limit (p : PS) (n : Int) : PS := if n < 0 then p else { p with lim := true, left := n }
def PS.restore (p : PS) : PS := { p with lim := false, left := 0, gone := false }
def PS.down (p : PS) : Bool := p.gone || (p.lim && p.left == 0)
def PS.useErr (p : PS) : Int := if p.down then 20 else 0
def PS.reckon (p : PS) (e : Int) : PS := if e = 0 then (if p.lim then { p with used := p.used + 1, left := p.left - 1 } else { p with used := p.used + 1 }) else { p with gone := true }
def PS.use (p : PS) : PS := p.reckon p.useErr

end Go.Proofs.Ytdnjkpdcfjkmfaa
