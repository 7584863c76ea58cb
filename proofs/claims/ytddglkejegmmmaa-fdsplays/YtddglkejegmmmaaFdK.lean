/-
  Both tables side by side, and an act in a variable: no statement is proved here.
-/
import Derived.Test.YtddglkejegmmmaaFdJ
namespace Go.Proofs.Ytddglkejegmmmaa
open Go.ChangeShapes Go.WideShapes Go.ChangeAt Go.RowKit
set_option linter.unusedVariables false
set_option linter.unusedSimpArgs false

/-- The code's table and the document's, made behind W. -/
structure PlF (W w : World) (U : Nat → Prop) (g y : Nat) (t s : FT) : Prop where
  f : Fd w U g t
  r : Rd w y s
  ul : ∀ x, U x → W.heap.size ≤ x
  uy : ¬ U y
  yl : W.heap.size ≤ y
  b : Below W.heap.size W w
section
variable {W w w' : World} {U U' : Nat → Prop} {g y : Nat} {t s t' s' : FT}
theorem PlF.later (h : PlF W w U g y t s) (b : Below w.heap.size w w') : PlF W w' U g y t s := ⟨h.f.later b, h.r.later b, h.ul, h.uy, h.yl, bnext h.b b (Nat.le_refl _)⟩
theorem PlF.c (h : PlF W w U g y t s) (F : Fd w' U' g t') (k : Stp U w w') (G : Grew U U' w w') : PlF W w' U' g y t' s :=
  ⟨F, h.r.step k h.uy, fun x hx => by
    rcases G x hx with e | e
    · exact h.ul x e
    · exact Nat.le_trans h.b.size e.1, fun e => by
    rcases G y e with e | e
    · exact h.uy e
    · have := h.r.lt; omega, h.yl, ((Stp.of_below h.b U).trans k).below (Nat.le_refl _) h.ul⟩
theorem PlF.d (h : PlF W w U g y t s) (R : Rd w' y s') (k : Stp (fun z => z = y) w w') : PlF W w' U g y t s' :=
  ⟨h.f.step k (fun x hx e => h.uy (e ▸ hx)), R, h.ul, h.uy, h.yl, ((Stp.of_below h.b (fun z => z = y)).trans k).below (Nat.le_refl _) (fun x e => e ▸ h.yl)⟩
end
/-- .. and an act in block a. -/
def PlA (W w : World) (g y : Nat) (t s : FT) (a : Nat) (x : Fl) : Prop := ∃ U, PlF W w U g y t s ∧ Cs w a x.cs ∧ ¬ U a ∧ a ≠ y ∧ W.heap.size ≤ a
section
variable {W w w' : World} {U U' : Nat → Prop} {g y a : Nat} {t s t' s' : FT} {x : Fl}
theorem PlA.later (h : PlA W w g y t s a x) (b : Below w.heap.size w w') : PlA W w' g y t s a x := by
  obtain ⟨U, P, c, h1, h2, h3⟩ := h; exact ⟨U, P.later b, c.later b, h1, h2, h3⟩
theorem PlA.act (h : PlA W w g y t s a x) : w.cell? ⟨a, 0, none⟩ = some (.int .i64 x.i) ∧ w.cell? ⟨a, 1, none⟩ = some (.int .i64 x.p) ∧ w.cell? ⟨a, 2, none⟩ = some (.int .i64 x.m) := by
  obtain ⟨U, P, c, h1, h2, h3⟩ := h
  exact ⟨c.cell 0 _ (show x.cs[0]? = some (.int .i64 x.i) from rfl), c.cell 1 _ (show x.cs[1]? = some (.int .i64 x.p) from rfl), c.cell 2 _ (show x.cs[2]? = some (.int .i64 x.m) from rfl)⟩
theorem PlA.below (h : PlA W w g y t s a x) : Below W.heap.size W w := by obtain ⟨U, P, _⟩ := h; exact P.b
theorem PlA.yl (h : PlA W w g y t s a x) : y < w.heap.size := by obtain ⟨U, P, _⟩ := h; exact P.r.lt
theorem PlA.of (P : PlF W w U g y t s) (c : Cs w a x.cs) (h : ∀ z, U z → z < a) (hy : y < a) (hW : W.heap.size ≤ a) : PlA W w g y t s a x := ⟨U, P, c, fun e => by have := h a e; omega, by omega, hW⟩
theorem PlA.copen (h : PlA W w g y t s a x) (i m : Int) :
    Calls Try.prog 9 #[.pointer (some ⟨g, 0, none⟩), .int .i64 i, .int .i64 m] w fun e w' => e = .returned (.tuple #[.int .i64 (fdOpenN t), .int .i64 (fdOpenE t)]) ∧ PlA W w' g y (fdOpen t i m) s a x := by
  obtain ⟨U, P, c, h1, h2, h3⟩ := h
  refine (fopen_any P.f i m).mono ?_
  rintro e w' ⟨rfl, U', F', k, G⟩
  refine ⟨rfl, U', P.c F' k G, c.step k h1, fun e => ?_, h2, h3⟩
  rcases G a e with e | e
  · exact h1 e
  · have := c.lt; omega
theorem PlA.ropen (h : PlA W w g y t s a x) (i m : Int) :
    Calls Try.prog 10 #[.pointer (some ⟨y, 0, none⟩), .int .i64 i, .int .i64 m] w fun e w' => e = .returned (.tuple #[.int .i64 (fdOpenN s), .int .i64 (fdOpenE s)]) ∧ PlA W w' g y t (fdOpen s i m) a x := by
  obtain ⟨U, P, c, h1, h2, h3⟩ := h
  refine (rfopen_any P.r i m).mono ?_
  rintro e w' ⟨rfl, R', k⟩
  exact ⟨rfl, U, P.d R' k, c.step k h2, h1, h2, h3⟩
theorem PlA.cclose (h : PlA W w g y t s a x) (i : Int) :
    Calls Try.prog 11 #[.pointer (some ⟨g, 0, none⟩), .int .i64 i] w fun e w' => e = .returned (.tuple #[.agg (fdGet t i).cs.toArray, .int .i64 (fdGetE t i)]) ∧ PlA W w' g y (fdClose t i) s a x := by
  obtain ⟨U, P, c, h1, h2, h3⟩ := h
  refine (fclose_any P.f i).mono ?_
  rintro e w' ⟨rfl, F', k⟩
  exact ⟨rfl, U, P.c F' k (Grew.refl _ _ _), c.step k h1, h1, h2, h3⟩
theorem PlA.rclose (h : PlA W w g y t s a x) (i : Int) :
    Calls Try.prog 12 #[.pointer (some ⟨y, 0, none⟩), .int .i64 i] w fun e w' => e = .returned (.tuple #[.agg (fdGet s i).cs.toArray, .int .i64 (fdGetE s i)]) ∧ PlA W w' g y t (fdClose s i) a x ∧ Stp (fun z => z = y) w w' := by
  obtain ⟨U, P, c, h1, h2, h3⟩ := h
  refine (rfclose_any P.r i).mono ?_
  rintro e w' ⟨rfl, R', k⟩
  exact ⟨rfl, ⟨U, P.d R' k, c.step k h2, h1, h2, h3⟩, k⟩
theorem PlA.cseek (h : PlA W w g y t s a x) (i p : Int) :
    Calls Try.prog 13 #[.pointer (some ⟨g, 0, none⟩), .int .i64 i, .int .i64 p] w fun e w' => e = .returned (.int .i64 (fdSeekE t i p)) ∧ PlA W w' g y (fdSeek t i p) s a x := by
  obtain ⟨U, P, c, h1, h2, h3⟩ := h
  refine (fseek_any P.f i p).mono ?_
  rintro e w' ⟨rfl, F', k⟩
  exact ⟨rfl, U, P.c F' k (Grew.refl _ _ _), c.step k h1, h1, h2, h3⟩
theorem PlA.rseek (h : PlA W w g y t s a x) (i p : Int) :
    Calls Try.prog 14 #[.pointer (some ⟨y, 0, none⟩), .int .i64 i, .int .i64 p] w fun e w' => e = .returned (.int .i64 (fdSeekE s i p)) ∧ PlA W w' g y t (fdSeek s i p) a x := by
  obtain ⟨U, P, c, h1, h2, h3⟩ := h
  refine (rfseek_any P.r i p).mono ?_
  rintro e w' ⟨rfl, R', k⟩
  exact ⟨rfl, U, P.d R' k, c.step k h2, h1, h2, h3⟩
theorem PlA.cget (h : PlA W w g y t s a x) (i : Int) :
    Calls Try.prog 16 #[.pointer (some ⟨g, 0, none⟩), .int .i64 i] w fun e w' => e = .returned (.tuple #[.agg (fdGet t i).cs.toArray, .int .i64 (fdGetE t i)]) ∧ Below w.heap.size w w' := by
  obtain ⟨U, P, _⟩ := h; exact fget_any P.f i
theorem PlA.rget (h : PlA W w g y t s a x) (i : Int) :
    Calls Try.prog 17 #[.pointer (some ⟨y, 0, none⟩), .int .i64 i] w fun e w' => e = .returned (.tuple #[.agg (fdGet s i).cs.toArray, .int .i64 (fdGetE s i)]) ∧ Below w.heap.size w w' := by
  obtain ⟨U, P, _⟩ := h; exact rfget_any P.r i
theorem PlA.ccount (h : PlA W w g y t s a x) (i : Int) :
    Calls Try.prog 18 #[.pointer (some ⟨g, 0, none⟩), .int .i64 i] w fun e w' => e = .returned (.int .i64 (fdCt t i 8)) ∧ Below w.heap.size w w' := by
  obtain ⟨U, P, _⟩ := h; exact fcount_any P.f i
theorem PlA.rcount (h : PlA W w g y t s a x) (i : Int) :
    Calls Try.prog 19 #[.pointer (some ⟨y, 0, none⟩), .int .i64 i] w fun e w' => e = .returned (.int .i64 (fdCt s i 8)) ∧ w = w' := by
  obtain ⟨U, P, _⟩ := h; exact rfcount_any P.r i
theorem fdUs_wf (t : FT) : ∀ x ∈ fdUs t 8, wfi x := fun x hx => by
  obtain ⟨j, rfl, hj, _⟩ := fdUs_mem t 8 x hx
  exact wfi_of (by omega)
theorem LiR.ins {u w' : World} {l : List Int} {v : Value} (h : LiR u l v w') (hl : ∀ x ∈ l, wfi x) : ∃ s : Sv, v = .slice s.a l.length s.c ∧ s.n = l.length ∧ InsS w' s l := by
  obtain ⟨o, n, _⟩ := h
  obtain ⟨sv, e1, e2, e3, _⟩ := o.ins hl n
  exact ⟨sv, by rw [e1]; unfold Sv.v; rw [e2], e2, e3⟩
theorem PlA.cused (h : PlA W w g y t s a x) :
    Calls Try.prog 21 #[.pointer (some ⟨g, 0, none⟩)] w fun e w' => ∃ (xa : Option Addr) (xc : Nat), e = .returned (.slice xa (fdUs t 8).length xc) ∧ InsS w' ⟨xa, (fdUs t 8).length, xc⟩ (fdUs t 8) ∧ Below w.heap.size w w' := by
  obtain ⟨U, P, _⟩ := h
  refine (fused_any P.f).mono ?_
  rintro e w' ⟨v, rfl, L⟩
  obtain ⟨⟨xa, xn, xc⟩, rfl, e2, e3⟩ := L.ins (fdUs_wf t)
  simp only at e2; subst e2
  exact ⟨xa, xc, rfl, e3, L.2.2⟩
theorem PlA.rused (h : PlA W w g y t s a x) :
    Calls Try.prog 22 #[.pointer (some ⟨y, 0, none⟩)] w fun e w' => ∃ (xa : Option Addr) (xc : Nat), e = .returned (.slice xa (fdUs s 8).length xc) ∧ InsS w' ⟨xa, (fdUs s 8).length, xc⟩ (fdUs s 8) ∧ Below w.heap.size w w' := by
  obtain ⟨U, P, _⟩ := h
  refine (rfused_any P.r).mono ?_
  rintro e w' ⟨v, rfl, L⟩
  obtain ⟨⟨xa, xn, xc⟩, rfl, e2, e3⟩ := L.ins (fdUs_wf s)
  simp only at e2; subst e2
  exact ⟨xa, xc, rfl, e3, L.2.2⟩
theorem PlA.cfull (h : PlA W w g y t s a x) :
    Calls Try.prog 23 #[.pointer (some ⟨g, 0, none⟩)] w fun e w' => e = .returned (.bool (decide ((fdFr t : Int) = 8))) ∧ w = w' := by
  obtain ⟨U, P, _⟩ := h; exact ffull_any P.f
end
/-- .. and the table that it was copied from. -/
def PlB (W w : World) (g y : Nat) (t s : FT) (a : Nat) (x : Fl) (go : Nat) (to : FT) : Prop :=
  ∃ U Uo, PlF W w U g y t s ∧ Cs w a x.cs ∧ ¬ U a ∧ a ≠ y ∧ W.heap.size ≤ a ∧ Fd w Uo go to ∧ (∀ z, Uo z → W.heap.size ≤ z ∧ ¬ U z ∧ z ≠ y ∧ z ≠ a)
section
variable {W w w' : World} {g y a go : Nat} {t s to : FT} {x : Fl}
theorem PlA.ccopy (h : PlA W w g y t s a x) :
    Calls Try.prog 15 #[.pointer (some ⟨g, 0, none⟩)] w fun e w' => ∃ g', e = .returned (.pointer (some ⟨g', 0, none⟩)) ∧ PlB W w' g' y t s a x g t := by
  obtain ⟨U, P, c, h1, h2, h3⟩ := h
  have hl := P.f.low
  have hy := P.r.lt
  have ha := c.lt
  refine (fcopy_any P.f).mono ?_
  rintro e w' ⟨g', U', rfl, F', b, L⟩
  refine ⟨g', rfl, U', U, ⟨F', P.r.later b, fun z hz => Nat.le_trans P.b.size (L z hz), fun e => by have := L y e; omega, P.yl, bnext P.b b (Nat.le_refl _)⟩, c.later b, fun e => by have := L a e; omega, h2, h3, P.f.later b, fun z hz => ⟨P.ul z hz, fun e => by have := L z e; have := hl z hz; omega, fun e => P.uy (e ▸ hz), fun e => h1 (e ▸ hz)⟩⟩
theorem PlB.oclose (h : PlB W w g y t s a x go to) (i : Int) :
    Calls Try.prog 11 #[.pointer (some ⟨go, 0, none⟩), .int .i64 i] w fun e w' => ∃ v, e = .returned (.tuple v) ∧ PlB W w' g y t s a x go (fdClose to i) := by
  obtain ⟨U, Uo, P, c, h1, h2, h3, F, h4⟩ := h
  refine (fclose_any F i).mono ?_
  rintro e w' ⟨rfl, F', k⟩
  exact ⟨_, rfl, U, Uo, ⟨P.f.step k (fun z hz e => (h4 z e).2.1 hz), P.r.step k (fun e => (h4 y e).2.2.1 rfl), P.ul, P.uy, P.yl, ((Stp.of_below P.b Uo).trans k).below (Nat.le_refl _) (fun z e => (h4 z e).1)⟩, c.step k (fun e => (h4 a e).2.2.2 rfl), h1, h2, h3, F', h4⟩
theorem PlB.oseek (h : PlB W w g y t s a x go to) (i p : Int) :
    Calls Try.prog 13 #[.pointer (some ⟨go, 0, none⟩), .int .i64 i, .int .i64 p] w fun e w' => ∃ v, e = .returned (.int .i64 v) ∧ PlA W w' g y t s a x := by
  obtain ⟨U, Uo, P, c, h1, h2, h3, F, h4⟩ := h
  refine (fseek_any F i p).mono ?_
  rintro e w' ⟨rfl, F', k⟩
  exact ⟨_, rfl, U, ⟨P.f.step k (fun z hz e => (h4 z e).2.1 hz), P.r.step k (fun e => (h4 y e).2.2.1 rfl), P.ul, P.uy, P.yl, ((Stp.of_below P.b Uo).trans k).below (Nat.le_refl _) (fun z e => (h4 z e).1)⟩, c.step k (fun e => (h4 a e).2.2.2 rfl), h1, h2, h3⟩
end
end Go.Proofs.Ytddglkejegmmmaa
