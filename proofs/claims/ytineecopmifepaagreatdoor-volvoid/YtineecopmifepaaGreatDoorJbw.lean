/-
  Texts of my own, joined: no statement is proved here.
-/
import Derived.Great.BuildSlice
import Derived.Deep.CutBlock
import Derived.Test.YtineecopmifepaaGreatDoorJba
import Derived.Test.YtineecopmifepaaGreatDoorJbs
set_option linter.unusedSimpArgs false
set_option linter.unusedVariables false
namespace Go.Proofs.YtineecopmifepaaGreatDoor
open Go.ChangeShapes Go.WideShapes Go.ChangeAt Go.RowKit
set_option maxRecDepth 100000
set_option linter.unusedVariables false
set_option linter.unusedSimpArgs false
/-- A held sector's cells. -/
def onc (e : Int × Pg) : List Value := .int .i64 e.1 :: e.2.cs
def e0 : Int × Pg := (0, ⟨Blk.zero, false, 0⟩)
def flN (l : El) : List Value := l.flatMap onc
/-- The slice v, of one's own, holds just these. -/
def OwL (w : World) (v : Value) (l : El) : Prop := w.ownsRow 0 247 67 v l.length (flN l)
section
variable {w w' : World} {v : Value} {l : El} {F : Nat → Prop}
theorem OwL.nil (w : World) : OwL w (.slice none 0 0) [] := ⟨rfl, .inl ⟨rfl, rfl⟩⟩
end
end Go.Proofs.YtineecopmifepaaGreatDoor
namespace Go.Proofs.YtineecopmifepaaGreatDoor
open Go.ChangeShapes Go.WideShapes Go.ChangeAt Go.RowKit
set_option maxRecDepth 100000
set_option linter.unusedVariables false
set_option linter.unusedSimpArgs false
/-- The document's cache at yc, of its disk at y, whose supply is at q; lv: its list; E: the blocks of the cache, R: those of the disk. -/
structure Rx (w : World) (yc y q : Nat) (Z : CZ) (s : PS) (lv : Value) (E R : Nat → Prop) : Prop where
  rd : RD w y q Z.d R
  rw : Rw w q (ref s)
  hp : Z.p = some s
  c : Cs w yc [.pointer (some ⟨y, 0, none⟩), .int .i64 Z.n, lv, .int .i64 Z.h, .int .i64 Z.m]
  ow : OwL w lv Z.l
  eg : E yc
  eo : ∀ r, lv.ownBlock = some r → E r ∧ r ≠ yc
  er : ∀ x, E x → ¬ R x
  eq : ¬ E q
  nq : ¬ R q
  lt : ∀ x, E x → x < w.heap.size
  qt : q < w.heap.size
section
variable {w w' : World} {yc y q : Nat} {Z Z' : CZ} {s s' : PS} {lv lv' : Value} {E E' R R' B : Nat → Prop}
theorem rw_step {B : Nat → Prop} {w w' : World} {q : Nat} {p : RS} (h : Rw w q p) (k : Stp B w w') (hq : ¬ B q) (hl : q < w.heap.size) : Rw w' q p :=
  ⟨k.cell h.c0 hq, k.cell h.c1 hq, k.cell h.c2 hq, by rw [k.frozen (p := ⟨q, 0, none⟩) hl hq]; exact h.f0, by rw [k.frozen (p := ⟨q, 1, none⟩) hl hq]; exact h.f1, by rw [k.frozen (p := ⟨q, 2, none⟩) hl hq]; exact h.f2⟩
end
end Go.Proofs.YtineecopmifepaaGreatDoor
namespace Go.Proofs.YtineecopmifepaaGreatDoor
open Go.ChangeShapes Go.WideShapes Go.ChangeAt Go.RowKit
set_option linter.unusedVariables false
set_option linter.unusedSimpArgs false
theorem rcnew_good {w : World} {y q : Nat} {d : DS} {s : PS} {R : Nat → Prop} (hd : RD w y q d R) (hr : Rw w q (ref s)) (hq : ¬ R q) (hqt : q < w.heap.size) (n : Nat) (h1 : 1 ≤ n) (h2 : n ≤ 64) :
    Calls Tryz.prog 107 #[.pointer (some ⟨y, 0, none⟩), .int .i64 (n : Int)] w fun e w' => ∃ yc, e = .returned (.tuple #[.pointer (some ⟨yc, 0, none⟩), .int .i64 0]) ∧ w.heap.size ≤ yc ∧ Rx w' yc y q (CZ.new d (some s) n) s (.slice none 0 0) (fun x => x = yc) R ∧ Below w.heap.size w w' := by
  have a1 : (1 : Int) ≤ (n : Int) := by omega
  have a2 : (n : Int) ≤ 64 := by omega
  go_enter Tryz.func107, Tryz.ntmps107
  go_wp2
  go_returns
  have b2 : Below w.heap.size w (w.alloc (.cells #[.pointer (some ⟨y, 0, none⟩), .int .i64 (n : Int), .slice none 0 0, .int .i64 0, .int .i64 0] 237)) := (Below.refl _ w).alloc (Nat.le_refl _) _
  refine ⟨w.heap.size, rfl, Nat.le_refl _, ⟨hd.step (Stp.of_below b2 (fun _ => False)) (fun _ _ => id), rw_step hr (Stp.of_below b2 (fun _ => False)) id hqt, rfl, ?_, OwL.nil _, rfl, (fun r hr => by cases hr), fun x hx e => ?_, fun e => ?_, hq, fun x hx => ?_, Nat.lt_of_lt_of_le hqt b2.size⟩, b2⟩
  · exact Cs.made w [.pointer (some ⟨y, 0, none⟩), .int .i64 (n : Int), .slice none 0 0, .int .i64 0, .int .i64 0] 237 (by intro v hv; simp at hv; rcases hv with rfl | rfl | rfl | rfl <;> rfl)
  · have := hd.lt x e; omega
  · omega
  · subst hx; simp
end Go.Proofs.YtineecopmifepaaGreatDoor
