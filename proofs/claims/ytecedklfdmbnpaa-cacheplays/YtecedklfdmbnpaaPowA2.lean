/-
  What a supply of layer 3 is in memory, and what its methods return: no statement is proved here.
-/
import Derived.Test.YtecedklfdmbnpaaRows
import Derived.Test.YtecedklfdmbnpaaPlain4
import Derived.Recover
namespace Go.Proofs.Ytecedklfdmbnpaa
open Go.ChangeShapes Go.WideShapes Go.ChangeAt Go.RowKit
set_option linter.unusedVariables false

/-- What the code's supply holds. -/
structure PS where
  lim : Bool
  left : Int
  gone : Bool
  used : Int
/-- It lies in the block g. -/
structure Pw (w : World) (g : Nat) (p : PS) : Prop where
  c0 : w.cell? ⟨g, 0, none⟩ = some (.bool p.lim)
  c1 : w.cell? ⟨g, 1, none⟩ = some (.int .i64 p.left)
  c2 : w.cell? ⟨g, 2, none⟩ = some (.bool p.gone)
  c3 : w.cell? ⟨g, 3, none⟩ = some (.int .i64 p.used)
  f0 : w.frozen? ⟨g, 0, none⟩ = false
  f1 : w.frozen? ⟨g, 1, none⟩ = false
  f2 : w.frozen? ⟨g, 2, none⟩ = false
  f3 : w.frozen? ⟨g, 3, none⟩ = false
theorem Pw.lt {w : World} {g : Nat} {p : PS} (h : Pw w g p) : g < w.heap.size := World.block_lt_of_cell? w ⟨g, 0, none⟩ h.c0
theorem Pw.step {B : List Nat} {w w' : World} {g : Nat} {p : PS} (h : Pw w g p) (k : Step B w w') (hg : g ∉ B) : Pw w' g p :=
  ⟨k.cell h.c0 hg, k.cell h.c1 hg, k.cell h.c2 hg, k.cell h.c3 hg, by rw [k.frozen (p := ⟨g, 0, none⟩) h.lt hg]; exact h.f0, by rw [k.frozen (p := ⟨g, 1, none⟩) h.lt hg]; exact h.f1,
   by rw [k.frozen (p := ⟨g, 2, none⟩) h.lt hg]; exact h.f2, by rw [k.frozen (p := ⟨g, 3, none⟩) h.lt hg]; exact h.f3⟩
theorem Pw.drew {w : World} {g : Nat} {p : PS} (h : Pw w g p) : Pw w.drew g p := h.step (Step.refl [] w).drew (by simp)
theorem Pw.made (w : World) (b c : Bool) (m n : Int) : Pw (w.alloc (Obj.cells #[.bool b, .int .i64 m, .bool c, .int .i64 n] 68)) w.heap.size ⟨b, m, c, n⟩ := by
  constructor <;> simp [go_sem]
theorem Pw.set0 {w : World} {g : Nat} {p : PS} (h : Pw w g p) (b : Bool) : Pw (w.setCell ⟨g, 0, none⟩ (.bool b)) g { p with lim := b } :=
  ⟨World.cell?_setCell_same _ _ _ h.c0, by rw [World.cell?_setCell_other _ _ _ _ (by simp)]; exact h.c1, by rw [World.cell?_setCell_other _ _ _ _ (by simp)]; exact h.c2, by rw [World.cell?_setCell_other _ _ _ _ (by simp)]; exact h.c3,
   by simpa using h.f0, by simpa using h.f1, by simpa using h.f2, by simpa using h.f3⟩
theorem Pw.set1 {w : World} {g : Nat} {p : PS} (h : Pw w g p) (n : Int) : Pw (w.setCell ⟨g, 1, none⟩ (.int .i64 n)) g { p with left := n } :=
  ⟨by rw [World.cell?_setCell_other _ _ _ _ (by simp)]; exact h.c0, World.cell?_setCell_same _ _ _ h.c1, by rw [World.cell?_setCell_other _ _ _ _ (by simp)]; exact h.c2, by rw [World.cell?_setCell_other _ _ _ _ (by simp)]; exact h.c3,
   by simpa using h.f0, by simpa using h.f1, by simpa using h.f2, by simpa using h.f3⟩
theorem Pw.set2 {w : World} {g : Nat} {p : PS} (h : Pw w g p) (b : Bool) : Pw (w.setCell ⟨g, 2, none⟩ (.bool b)) g { p with gone := b } :=
  ⟨by rw [World.cell?_setCell_other _ _ _ _ (by simp)]; exact h.c0, by rw [World.cell?_setCell_other _ _ _ _ (by simp)]; exact h.c1, World.cell?_setCell_same _ _ _ h.c2, by rw [World.cell?_setCell_other _ _ _ _ (by simp)]; exact h.c3,
   by simpa using h.f0, by simpa using h.f1, by simpa using h.f2, by simpa using h.f3⟩
theorem Pw.set3 {w : World} {g : Nat} {p : PS} (h : Pw w g p) (n : Int) : Pw (w.setCell ⟨g, 3, none⟩ (.int .i64 n)) g { p with used := n } :=
  ⟨by rw [World.cell?_setCell_other _ _ _ _ (by simp)]; exact h.c0, by rw [World.cell?_setCell_other _ _ _ _ (by simp)]; exact h.c1, by rw [World.cell?_setCell_other _ _ _ _ (by simp)]; exact h.c2, World.cell?_setCell_same _ _ _ h.c3,
   by simpa using h.f0, by simpa using h.f1, by simpa using h.f2, by simpa using h.f3⟩

/-- Its numbers are in their bounds. -/
def PS.ok (p : PS) : Prop := 0 ≤ p.left ∧ p.left ≤ 9223372036854775807 ∧ 0 ≤ p.used ∧ p.used ≤ 1000000000000
def PS.fresh : PS := ⟨false, 0, false, 0⟩
def limErr (n : Int) : Int := if n < 0 then 2 else 0
def PS.limit (p : PS) (n : Int) : PS := if n < 0 then p else { p with lim := true, left := n }
def PS.restore (p : PS) : PS := { p with lim := false, left := 0, gone := false }
def PS.down (p : PS) : Bool := p.gone || (p.lim && p.left == 0)
def PS.useErr (p : PS) : Int := if p.down then 20 else 0
def PS.reckon (p : PS) (e : Int) : PS := if e = 0 then (if p.lim then { p with used := p.used + 1, left := p.left - 1 } else { p with used := p.used + 1 }) else { p with gone := true }
def PS.use (p : PS) : PS := p.reckon p.useErr

theorem pnew_any (w : World) :
    Calls Try.prog 6 #[] w fun e w' => e = .returned (.pointer (some ⟨w.heap.size, 0, none⟩)) ∧ Below w.heap.size w w' ∧ Pw w' w.heap.size PS.fresh ∧ w'.heap.size = w.heap.size + 1 := by
  go_enter Try.func6, Try.ntmps6
  go_wp2
  go_returns
  exact ⟨rfl, by go_grown, Pw.made w _ _ _ _, by simp⟩

theorem plimit_any (g : Nat) (p : PS) (n : Int) (w : World) (h : Pw w g p) :
    Calls Try.prog 38 #[.pointer (some ⟨g, 0, none⟩), .int .i64 n] w fun e w' => e = .returned (.int .i64 (limErr n)) ∧ Step [g] w w' ∧ Pw w' g (p.limit n) := by
  have m0 := h.c0; have m1 := h.c1; have z0 := h.f0; have z1 := h.f1
  by_cases hn : n < 0
  · have e1 : p.limit n = p := by unfold PS.limit; rw [if_pos hn]
    have e2 : limErr n = 2 := by unfold limErr; rw [if_pos hn]
    rw [e1, e2]; clear e1 e2
    go_enter Try.func38, Try.ntmps38
    go_wp2
    go_returns
    exact ⟨rfl, Step.refl _ _, h⟩
  · have e1 : p.limit n = { { p with lim := true } with left := n } := by unfold PS.limit; rw [if_neg hn]
    have e2 : limErr n = 0 := by unfold limErr; rw [if_neg hn]
    rw [e1, e2]; clear e1 e2
    go_enter Try.func38, Try.ntmps38
    go_wp2
    go_returns
    exact ⟨rfl, ((Step.refl _ _).setCell (.inl (by simp)) _).setCell (.inl (by simp)) _, (h.set0 true).set1 n⟩

theorem plimit_nil (n : Int) (w : World) :
    Calls Try.prog 38 #[.pointer none, .int .i64 n] w fun e w' => e = .returned (.int .i64 2) ∧ w = w' := by
  go_enter Try.func38, Try.ntmps38
  go_wp2
  go_returns
  exact ⟨rfl, rfl⟩

theorem prestore_any (g : Nat) (p : PS) (w : World) (h : Pw w g p) :
    Calls Try.prog 40 #[.pointer (some ⟨g, 0, none⟩)] w fun e w' => e = .returned (.tuple #[]) ∧ Step [g] w w' ∧ Pw w' g p.restore := by
  have m0 := h.c0; have m1 := h.c1; have m2 := h.c2; have z0 := h.f0; have z1 := h.f1; have z2 := h.f2
  go_enter Try.func40, Try.ntmps40
  go_wp2
  go_end0
  exact ⟨rfl, (((Step.refl _ _).setCell (.inl (by simp)) _).setCell (.inl (by simp)) _).setCell (.inl (by simp)) _, ((h.set0 false).set1 0).set2 false⟩

theorem prestore_nil (w : World) :
    Calls Try.prog 40 #[.pointer none] w fun e w' => e = .returned (.tuple #[]) ∧ w = w' := by
  go_enter Try.func40, Try.ntmps40
  go_wp2
  first | go_end0 | refine bodyPost_ret (results_none rfl _ _ _) rfl ?_
  exact ⟨rfl, rfl⟩
end Go.Proofs.Ytecedklfdmbnpaa
