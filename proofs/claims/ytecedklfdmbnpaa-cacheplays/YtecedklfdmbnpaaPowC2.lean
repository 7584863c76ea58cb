/-
  What the document's answer of layer 3 returns : no statement is proved here.
-/
import Derived.Test.YtecedklfdmbnpaaPowB2
namespace Go.Proofs.Ytecedklfdmbnpaa
open Go.ChangeShapes Go.WideShapes Go.ChangeAt Go.RowKit
set_option linter.unusedVariables false

/-- What the document's supply holds. -/
structure RS where
  left : Int
  used : Int
  gone : Bool
structure Rw (w : World) (g : Nat) (p : RS) : Prop where
  c0 : w.cell? ⟨g, 0, none⟩ = some (.int .i64 p.left)
  c1 : w.cell? ⟨g, 1, none⟩ = some (.int .i64 p.used)
  c2 : w.cell? ⟨g, 2, none⟩ = some (.bool p.gone)
  f0 : w.frozen? ⟨g, 0, none⟩ = false
  f1 : w.frozen? ⟨g, 1, none⟩ = false
  f2 : w.frozen? ⟨g, 2, none⟩ = false
theorem Rw.lt {w : World} {g : Nat} {p : RS} (h : Rw w g p) : g < w.heap.size := World.block_lt_of_cell? w ⟨g, 0, none⟩ h.c0
theorem Rw.step {B : List Nat} {w w' : World} {g : Nat} {p : RS} (h : Rw w g p) (k : Step B w w') (hg : g ∉ B) : Rw w' g p :=
  ⟨k.cell h.c0 hg, k.cell h.c1 hg, k.cell h.c2 hg, by rw [k.frozen (p := ⟨g, 0, none⟩) h.lt hg]; exact h.f0, by rw [k.frozen (p := ⟨g, 1, none⟩) h.lt hg]; exact h.f1,
   by rw [k.frozen (p := ⟨g, 2, none⟩) h.lt hg]; exact h.f2⟩
theorem Rw.drew {w : World} {g : Nat} {p : RS} (h : Rw w g p) : Rw w.drew g p := h.step (Step.refl [] w).drew (by simp)
theorem Rw.made (w : World) (m n : Int) (b : Bool) : Rw (w.alloc (Obj.cells #[.int .i64 m, .int .i64 n, .bool b] 55)) w.heap.size ⟨m, n, b⟩ := by
  constructor <;> simp [go_sem]
theorem Rw.set0 {w : World} {g : Nat} {p : RS} (h : Rw w g p) (n : Int) : Rw (w.setCell ⟨g, 0, none⟩ (.int .i64 n)) g { p with left := n } :=
  ⟨World.cell?_setCell_same _ _ _ h.c0, by rw [World.cell?_setCell_other _ _ _ _ (by simp)]; exact h.c1, by rw [World.cell?_setCell_other _ _ _ _ (by simp)]; exact h.c2,
   by simpa using h.f0, by simpa using h.f1, by simpa using h.f2⟩
theorem Rw.set1 {w : World} {g : Nat} {p : RS} (h : Rw w g p) (n : Int) : Rw (w.setCell ⟨g, 1, none⟩ (.int .i64 n)) g { p with used := n } :=
  ⟨by rw [World.cell?_setCell_other _ _ _ _ (by simp)]; exact h.c0, World.cell?_setCell_same _ _ _ h.c1, by rw [World.cell?_setCell_other _ _ _ _ (by simp)]; exact h.c2,
   by simpa using h.f0, by simpa using h.f1, by simpa using h.f2⟩
theorem Rw.set2 {w : World} {g : Nat} {p : RS} (h : Rw w g p) (b : Bool) : Rw (w.setCell ⟨g, 2, none⟩ (.bool b)) g { p with gone := b } :=
  ⟨by rw [World.cell?_setCell_other _ _ _ _ (by simp)]; exact h.c0, by rw [World.cell?_setCell_other _ _ _ _ (by simp)]; exact h.c1, World.cell?_setCell_same _ _ _ h.c2,
   by simpa using h.f0, by simpa using h.f1, by simpa using h.f2⟩
def RS.fresh : RS := ⟨-1, 0, false⟩
def RS.limit (p : RS) (n : Int) : RS := if n < 0 then p else { p with left := n }
def RS.restore (p : RS) : RS := { p with gone := false, left := -1 }
def RS.down (p : RS) : Bool := p.gone || p.left == 0
def RS.useErr (p : RS) : Int := if p.down then 20 else 0
def RS.use (p : RS) : RS := if p.down then { p with gone := true } else if 0 < p.left then { p with left := p.left - 1, used := p.used + 1 } else { p with used := p.used + 1 }
def RS.ok (p : RS) : Prop := -1 ≤ p.left ∧ p.left ≤ 9223372036854775807 ∧ 0 ≤ p.used ∧ p.used ≤ 1000000000000

theorem rnew_any (w : World) :
    Calls Try.prog 7 #[] w fun e w' => e = .returned (.pointer (some ⟨w.heap.size, 0, none⟩)) ∧ Below w.heap.size w w' ∧ Rw w' w.heap.size RS.fresh ∧ w'.heap.size = w.heap.size + 1 := by
  go_enter Try.func7, Try.ntmps7
  go_wp2
  go_returns
  exact ⟨rfl, by go_grown, Rw.made w _ _ _, by simp⟩

theorem rlimit_any (g : Nat) (p : RS) (n : Int) (w : World) (h : Rw w g p) :
    Calls Try.prog 39 #[.pointer (some ⟨g, 0, none⟩), .int .i64 n] w fun e w' => e = .returned (.int .i64 (limErr n)) ∧ Step [g] w w' ∧ Rw w' g (p.limit n) := by
  have m0 := h.c0; have z0 := h.f0
  by_cases hn : n < 0
  · have e1 : p.limit n = p := by unfold RS.limit; rw [if_pos hn]
    have e2 : limErr n = 2 := by unfold limErr; rw [if_pos hn]
    rw [e1, e2]; clear e1 e2
    go_enter Try.func39, Try.ntmps39
    go_wp2
    go_returns
    exact ⟨rfl, Step.refl _ _, h⟩
  · have e1 : p.limit n = { p with left := n } := by unfold RS.limit; rw [if_neg hn]
    have e2 : limErr n = 0 := by unfold limErr; rw [if_neg hn]
    rw [e1, e2]; clear e1 e2
    go_enter Try.func39, Try.ntmps39
    go_wp2
    go_returns
    exact ⟨rfl, (Step.refl _ _).setCell (.inl (by simp)) _, h.set0 n⟩

theorem rrestore_any (g : Nat) (p : RS) (w : World) (h : Rw w g p) :
    Calls Try.prog 41 #[.pointer (some ⟨g, 0, none⟩)] w fun e w' => e = .returned (.tuple #[]) ∧ Step [g] w w' ∧ Rw w' g p.restore := by
  have m0 := h.c0; have m2 := h.c2; have z0 := h.f0; have z2 := h.f2
  go_enter Try.func41, Try.ntmps41
  go_wp2
  go_end0
  exact ⟨rfl, ((Step.refl _ _).setCell (.inl (by simp)) _).setCell (.inl (by simp)) _, (h.set2 false).set0 (-1)⟩

theorem ruse_any (g : Nat) (p : RS) (w : World) (h : Rw w g p) (ok : p.ok) :
    Calls Try.prog 66 #[.pointer (some ⟨g, 0, none⟩)] w fun e w' => e = .returned (.int .i64 p.useErr) ∧ Step [g] w w' ∧ Rw w' g p.use := by
  obtain ⟨l1, l2, u1, u2⟩ := ok
  have m0 := h.c0; have m1 := h.c1; have m2 := h.c2; have z0 := h.f0; have z1 := h.f1; have z2 := h.f2
  have d : p.down = (p.gone || p.left == 0) := rfl
  cases hg : p.gone
  · rw [hg] at m2 d
    by_cases h0 : p.left = 0
    · have d' : p.down = true := by rw [d, h0]; rfl
      have e : p.useErr = 20 := by unfold RS.useErr; rw [d']; rfl
      have e' : p.use = { p with gone := true } := by unfold RS.use; rw [d']; rfl
      rw [e, e']; rw [h0] at m0; clear e e' d d' hg h0
      go_enter Try.func66, Try.ntmps66
      go_wp2
      go_returns
      exact ⟨rfl, (Step.refl _ _).setCell (.inl (by simp)) _, h.set2 true⟩
    · have d' : p.down = false := by rw [d]; simp [h0]
      have e : p.useErr = 0 := by unfold RS.useErr; rw [d']; rfl
      by_cases hp : 0 < p.left
      · have e' : p.use = { { p with left := p.left - 1 } with used := p.used + 1 } := by unfold RS.use; rw [d']; simp [hp]
        rw [e, e']; clear e e' d d' hg
        go_enter Try.func66, Try.ntmps66
        go_wp2
        go_returns
        exact ⟨rfl, ((Step.refl _ _).setCell (.inl (by simp)) _).setCell (.inl (by simp)) _, (h.set0 _).set1 _⟩
      · have e' : p.use = { p with used := p.used + 1 } := by unfold RS.use; rw [d']; simp [hp]
        rw [e, e']; clear e e' d d' hg
        go_enter Try.func66, Try.ntmps66
        go_wp2
        go_returns
        exact ⟨rfl, (Step.refl _ _).setCell (.inl (by simp)) _, h.set1 _⟩
  · rw [hg] at m2 d
    have d' : p.down = true := by rw [d]; rfl
    have e : p.useErr = 20 := by unfold RS.useErr; rw [d']; rfl
    have e' : p.use = { p with gone := true } := by unfold RS.use; rw [d']; rfl
    rw [e, e']; clear e e' d d' hg
    go_enter Try.func66, Try.ntmps66
    go_wp2
    go_returns
    exact ⟨rfl, (Step.refl _ _).setCell (.inl (by simp)) _, h.set2 true⟩
end Go.Proofs.Ytecedklfdmbnpaa
