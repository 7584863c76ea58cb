/-
  What an act leaves that loads the image as it is: no statement is proved here.
-/
import Derived.Test.YtecedklfdmbnpaaRfQ
namespace Go.Proofs.Ytecedklfdmbnpaa
open Go.ChangeShapes Go.WideShapes Go.ChangeAt Go.RowKit
set_option linter.unusedVariables false

/-- Behind both Loads: of slices that lie outside, and read as l. -/
theorem Bth.loaded {w w0 w1 w2 : World} {g pg y q k : Nat} {S : DS} {p : PS} {F R : Nat → Prop} (h : Bth w0 g pg y q S p F R k) (s : Stp (fun _ => False) w w0) (l : List Blk) (d1 : Disk w1 g (.pointer (some ⟨pg, 0, none⟩)) (S.load l) F) (k1 : Stp F w0 w1) (r2 : RD w2 y q (S.load l) R) (k2 : Stp R w1 w2) : Done w w2 g pg y q k F R := by
  have k1' : Stp (fun x => F x ∨ x = pg) w0 w1 := k1.mono (fun x hx => .inl (.inl hx))
  have D1 : DD w1 g (.pointer (some ⟨pg, 0, none⟩)) (S.load l) (some p) F (fun x => x = pg) := ⟨d1, h.d.s.step k1 (fun x hx hf => h.d.fg x hf hx), h.d.fg, fun x hx => Nat.lt_of_lt_of_le (h.d.gl x hx) k1.size⟩
  exact Done.before ⟨_, _, _, _, h.both D1 k1' (Grew.refl _ _ _) r2 ((h.mid k1').2.stp k2 h.rq) (k2.mono (fun x hx => .inl (.inl hx))) (Grew.refl _ _ _) h.ok.more (wt_load h.wt _)⟩ s

/-- The image and its copy. -/
theorem copied {wA w1 w3 : World} {g3 gg cap n : Nat} {l : List Blk} (hl : l.length = n) (b1 : Below wA.heap.size wA w1) (l1 : wA.heap.size ≤ g3) (l2 : g3 < w1.heap.size) (o1 : w1.ownsRow 0 42 64 (.slice (some ⟨g3, 0, none⟩) n n) n (flat l))
    (o3 : w3.ownsRow 0 42 64 (.slice (some ⟨gg, 0, none⟩) (0 + n) cap) (0 + n) ([] ++ flat l)) (gr : (w1.alloc (.cells #[] 42)).grownBy w3 (Value.slice (some ⟨w1.heap.size, 0, none⟩) 0 0).ownBlock) (at3 : (Value.slice (some ⟨w1.heap.size, 0, none⟩) 0 0).ownBlock = some gg ∨ gg = w1.heap.size + 1) :
    Stp (fun _ => False) wA w3 ∧ Bls w3 (some ⟨g3, 0, none⟩) n n l ∧ Bls w3 (some ⟨gg, 0, none⟩) n cap l ∧ w1.heap.size ≤ gg := by
  have hz := b1.size
  have sg : Stp (fun x => x = w1.heap.size) w1 w3 := (Stp.of_alloc w1 _ _).trans (Stp.of_grown gr (fun x hx => .inl (by simp [Value.ownBlock] at hx; exact hx.symm)))
  rw [Nat.zero_add, List.nil_append] at o3
  refine ⟨(Stp.of_below b1 _).next sg (fun x hx => .inr (by omega)), (Bls.own o1 hl).step sg (fun x e hx => ?_), Bls.own o3 hl, ?_⟩
  · injection e with e; subst e; simp at hx; omega
  · rcases at3 with e | e
    · simp [Value.ownBlock] at e; omega
    · omega

end Go.Proofs.Ytecedklfdmbnpaa
