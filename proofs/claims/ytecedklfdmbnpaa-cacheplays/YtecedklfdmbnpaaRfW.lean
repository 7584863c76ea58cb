/-
  What a round of DiskPlays keeps: no statement is proved here.
-/
import Derived.Test.YtecedklfdmbnpaaRfV
import Derived.OrdersHeld
namespace Go.Proofs.Ytecedklfdmbnpaa
open Go.ChangeShapes Go.WideShapes Go.ChangeAt Go.RowKit
set_option linter.unusedVariables false

theorem below_made (w : World) (o : Obj) : Below w.heap.size w (w.alloc o) := (Below.refl _ _).alloc (Nat.le_refl _) _
/-- Within a region more may be known from here on. -/
theorem wpAnyH_more {P : Program} {md : Region.Mode} {ops : Array Oper} {Q : Exit → Act → World → Prop} {S S' : World → Prop} (h : ∀ w, S' w → S w) :
    ∀ (fuel : Nat) (listed : Array Bool) (a : Act) (w : World), wpAnyH P md ops Q S' fuel listed a w → wpAnyH P md ops Q S fuel listed a w
  | 0, _, _, _, h' => h'
  | fuel + 1, _, _, _, h' => ⟨h'.1, fun i hi => wpOp_mono (fun a' w' k => ⟨h _ k.1, wpAnyH_more h fuel _ a' w' k.2⟩) (h'.2 i hi)⟩

/-- Both hold the same, behind k acts; all that they hold has come since the beginning. -/
structure Pl (w wr : World) (g pg y q k : Nat) (S : DS) (p : PS) (F R : Nat → Prop) : Prop where
  b : Bth wr g pg y q S p F R k
  f : ∀ x, Foot pg q F R x → w.heap.size ≤ x
  bel : Below w.heap.size w wr
theorem Pl.later {w wr w' : World} {g pg y q k : Nat} {S : DS} {p : PS} {F R : Nat → Prop} (h : Pl w wr g pg y q k S p F R) (s : Below wr.heap.size wr w') : Pl w w' g pg y q k S p F R :=
  ⟨h.b.step (Stp.of_below s (fun _ => False)) (fun _ _ => id), h.f, bnext h.bel s (Nat.le_refl _)⟩
theorem Pl.done {w wr w2 : World} {g pg y q k : Nat} {S : DS} {p : PS} {F R : Nat → Prop} (h : Pl w wr g pg y q k S p F R) (d : Done wr w2 g pg y q k F R) :
    (∃ S' p' F' R', Pl w w2 g pg y q (k + 1) S' p' F' R') ∧ Stp (Foot pg q F R) wr w2 := by
  obtain ⟨S', p', F', R', b, s, gr⟩ := d
  refine ⟨⟨S', p', F', R', b, fun x hx => ?_, ?_⟩, s⟩
  · rcases gr x hx with a | ⟨a, _⟩
    · exact h.f x a
    · exact Nat.le_trans h.bel.size a
  · exact h.bel.trans (s.below h.bel.size h.f)
/-- What both are at the beginning. -/
theorem Pl.start {w u1 u2 u3 u4 : World} {pg q y N : Nat} {R : Nat → Prop} (h1 : 1 ≤ N) (h2 : N ≤ 2048) (e1 : pg = w.heap.size) (b1 : Below w.heap.size w u1) (p1 : Pw u1 pg PS.fresh) (z1 : u1.heap.size = w.heap.size + 1)
    (e2 : q = u1.heap.size) (b2 : Below u1.heap.size u1 u2) (p2 : Rw u2 q RS.fresh) (z2 : u2.heap.size = u1.heap.size + 1)
    (b3 : Below u2.heap.size u2 u3) (z3 : u3.heap.size = u2.heap.size + 3) (d3 : Disk u3 (u2.heap.size + 2) (.pointer (some ⟨pg, 0, none⟩)) (DS.new N) (fun x => u2.heap.size ≤ x ∧ x < u2.heap.size + 3))
    (b4 : Below u3.heap.size u3 u4) (r4 : RD u4 y q (DS.new N) R) (hR : ∀ x, R x → u3.heap.size ≤ x) :
    Pl w u4 (u2.heap.size + 2) pg y q 0 (DS.new N) PS.fresh (fun x => u2.heap.size ≤ x ∧ x < u2.heap.size + 3) R := by
  have s2 := Stp.of_below b2 (fun _ => False)
  have s3 := Stp.of_below b3 (fun _ => False)
  have s4 := Stp.of_below b4 (fun _ => False)
  have P4 : Pw u4 pg PS.fresh := ((p1.stp s2 id).stp s3 id).stp s4 id
  refine ⟨⟨⟨d3.step s4 (fun _ _ => id), ⟨pg, rfl, P4, rfl⟩, fun x hx e => ?_, fun x hx => ?_⟩, r4, ?_, ?_, fun x hx hr => ?_, fun hx => ?_, fun hr => ?_, fun hr => ?_, ?_, fun j => by simp [DS.new]⟩, ?_, ?_⟩
  · have := hx.1; omega
  · subst hx; exact P4.lt
  · rw [← fresh_ref]; exact (p2.stp s3 id).stp s4 id
  · unfold okAt PS.fresh; simp
  · have := hR x hr; have := hx.2; omega
  · have := hx.1; omega
  · have := hR q hr; omega
  · have := hR pg hr; omega
  · omega
  · rintro x (hx | hx | hx | hx)
    · have := hx.1; omega
    · have := hR x hx; omega
    · omega
    · omega
  · exact bnext (bnext (bnext b1 b2 (Nat.le_refl _)) b3 (Nat.le_refl _)) b4 (Nat.le_refl _)
end Go.Proofs.Ytecedklfdmbnpaa
