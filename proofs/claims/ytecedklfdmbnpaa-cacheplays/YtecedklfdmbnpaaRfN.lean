/-
  What an act leaves that flushes, limits or restores: no statement is proved here.
-/
import Derived.Test.YtecedklfdmbnpaaRfM
import Derived.Deep.RegionHeld3
namespace Go.Proofs.Ytecedklfdmbnpaa
open Go.ChangeShapes Go.WideShapes Go.ChangeAt Go.RowKit
set_option linter.unusedVariables false

/-- What an act leaves: both hold the same again. -/
def Done (w w' : World) (g pg y q k : Nat) (F R : Nat → Prop) : Prop := ∃ S' p' F' R', Bth w' g pg y q S' p' F' R' (k + 1) ∧ Stp (Foot pg q F R) w w' ∧ Grew (Foot pg q F R) (Foot pg q F' R') w w'
theorem Done.before {w w0 w' : World} {g pg y q k : Nat} {F R : Nat → Prop} (h : Done w0 w' g pg y q k F R) (s : Stp (fun _ => False) w w0) : Done w w' g pg y q k F R := by
  obtain ⟨S', p', F', R', b, s', g'⟩ := h
  refine ⟨S', p', F', R', b, (s.mono (fun _ h => h.elim)).trans s', fun x hx => (g' x hx).elim .inl (fun e => .inr ⟨Nat.le_trans s.size e.1, e.2⟩)⟩
theorem oOk_of {p : PS} {k : Nat} (h : okAt p k) (hk : k ≤ 100) : oOk (some p) := fun s e => by injection e with e; subst e; exact h.ok hk

/-- The code's supply alone has changed. -/
theorem Bth.supply {w w1 : World} {g pg y q k : Nat} {S : DS} {p p1 : PS} {F R : Nat → Prop} (h : Bth w g pg y q S p F R k) (k1 : Stp (fun x => x = pg) w w1) (hp : Pw w1 pg p1) : DD w1 g (.pointer (some ⟨pg, 0, none⟩)) S (some p1) F (fun x => x = pg) :=
  ⟨h.d.d.step k1 (fun x hx e => h.d.fg x hx e), ⟨pg, rfl, hp, rfl⟩, h.d.fg, fun x hx => Nat.lt_of_lt_of_le (h.d.gl x hx) k1.size⟩
/-- Both supplies have changed. -/
theorem Bth.supplies {w w1 w2 : World} {g pg y q k : Nat} {S : DS} {p p1 : PS} {F R : Nat → Prop} (h : Bth w g pg y q S p F R k) (k1 : Stp (fun x => x = pg) w w1) (hp : Pw w1 pg p1) (k2 : Stp (fun x => x = q) w1 w2) (s2 : Rw w2 q (ref p1)) (ok1 : okAt p1 (k + 1)) : Done w w2 g pg y q k F R := by
  have k1' : Stp (fun x => F x ∨ x = pg) w w1 := k1.mono (fun x hx => .inl (.inr hx))
  exact ⟨_, _, _, _, h.both (h.supply k1 hp) k1' (Grew.refl _ _ _) ((h.mid k1').1.step k2 (fun x hx e => h.rq (e ▸ hx))) s2 (k2.mono (fun x hx => .inl (.inr hx))) (Grew.refl _ _ _) ok1 (fun j => Nat.le_succ_of_le (h.wt j))⟩
end Go.Proofs.Ytecedklfdmbnpaa
