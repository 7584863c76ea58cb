/-
  Both disks and both supplies beside one another, and what a pair of calls leaves: no statement is proved here.
-/
import Derived.Test.YtecedklfdmbnpaaRfL
namespace Go.Proofs.Ytecedklfdmbnpaa
open Go.ChangeShapes Go.WideShapes Go.ChangeAt Go.RowKit
set_option linter.unusedVariables false

def useP1 (S : DS) (p : PS) (i : Int) : PS := if S.inn i then p.use else p
theorem useP_some (S : DS) (p : PS) (i : Int) : useP S (some p) i = some (useP1 S p i) := by unfold useP useP1; split <;> rfl
theorem res_same {p : PS} {k : Nat} (h : okAt p k) (S : DS) (i : Int) : rRes S (ref p) i = useRes S (some p) i := by
  unfold rRes useRes; rw [ref_err h]; rfl
theorem use_same {p : PS} {k : Nat} (h : okAt p k) (S : DS) (i : Int) : rUse S (ref p) i = ref (useP1 S p i) := by
  unfold rUse useP1; split
  · exact ref_use h
  · rfl
theorem write_same {p : PS} {k : Nat} (h : okAt p k) (S : DS) (i : Int) (b : Blk) : S.rwrite (ref p) i b = S.write (some p) i b := by
  unfold DS.rwrite DS.write; rw [res_same h]
theorem force_same {p : PS} {k : Nat} (h : okAt p k) (S : DS) (i : Int) (b : Blk) : S.rforce (ref p) i b = S.force (some p) i b := by
  unfold DS.rforce DS.force; rw [res_same h]
theorem flush_same {p : PS} {k : Nat} (h : okAt p k) (S : DS) : S.rflush (ref p) = S.flush (some p) := by
  unfold DS.rflush DS.flush; rw [ref_err h]; rfl
theorem okAt.more {p : PS} {k : Nat} (h : okAt p k) : okAt p (k + 1) := by unfold okAt at *; omega
theorem ok_useP1 {p : PS} {k : Nat} (h : okAt p k) (S : DS) (i : Int) : okAt (useP1 S p i) (k + 1) := by
  unfold useP1; split
  · exact ok_use h
  · exact h.more
theorem wt_write {S : DS} {k : Nat} (h : ∀ j, (S.wt j).length ≤ k) (p : Option PS) (i : Int) (b : Blk) : ∀ j, ((S.write p i b).wt j).length ≤ k + 1 := fun j => by
  have := h j
  unfold DS.write; split
  · show (if j = i then S.wt i ++ [b] else S.wt j).length ≤ k + 1
    have := h i
    split
    · rw [List.length_append]; simp only [List.length_cons, List.length_nil]; omega
    · omega
  · omega
theorem wt_force {S : DS} {k : Nat} (h : ∀ j, (S.wt j).length ≤ k) (p : Option PS) (i : Int) (b : Blk) : ∀ j, ((S.force p i b).wt j).length ≤ k + 1 := fun j => by
  have := h j
  unfold DS.force; split
  · show (if j = i then [] else S.wt j).length ≤ k + 1
    split
    · simp
    · omega
  · omega
theorem wt_flush {S : DS} {k : Nat} (h : ∀ j, (S.wt j).length ≤ k) (p : Option PS) : ∀ j, ((S.flush p).wt j).length ≤ k + 1 := fun j => by
  have := h j
  unfold DS.flush; split
  · simp
  · omega
theorem wt_crash (S : DS) (k : Nat) (l : List Int) : ∀ j, ((S.crash l).wt j).length ≤ k + 1 := fun j => by simp [DS.crash]
theorem wt_load {S : DS} {k : Nat} (h : ∀ j, (S.wt j).length ≤ k) (l : List Blk) : ∀ j, ((S.load l).wt j).length ≤ k + 1 := fun j => by
  have := h j
  unfold DS.load; split
  · simp
  · omega

/-- The code's disk (block g) and supply (pg), the document's (y, q): they hold the same. -/
structure Bth (w : World) (g pg y q : Nat) (S : DS) (p : PS) (F R : Nat → Prop) (k : Nat) : Prop where
  d : DD w g (.pointer (some ⟨pg, 0, none⟩)) S (some p) F (fun x => x = pg)
  r : RD w y q S R
  s : Rw w q (ref p)
  ok : okAt p k
  fr : ∀ x, F x → ¬ R x
  fq : ¬ F q
  rq : ¬ R q
  rp : ¬ R pg
  pq : pg ≠ q
  wt : ∀ j, (S.wt j).length ≤ k
/-- What they hold, all of it. -/
def Foot (pg q : Nat) (F R : Nat → Prop) : Nat → Prop := fun x => F x ∨ R x ∨ x = pg ∨ x = q
theorem Bth.lt {w : World} {g pg y q k : Nat} {S : DS} {p : PS} {F R : Nat → Prop} (h : Bth w g pg y q S p F R k) : ∀ x, Foot pg q F R x → x < w.heap.size := by
  rintro x (hx | hx | rfl | rfl)
  · exact h.d.d.lt x hx
  · exact h.r.lt x hx
  · exact h.d.gl x rfl
  · exact h.s.lt
theorem Bth.step {w w' : World} {g pg y q k : Nat} {S : DS} {p : PS} {F R B : Nat → Prop} (h : Bth w g pg y q S p F R k) (s : Stp B w w') (hB : ∀ x, Foot pg q F R x → ¬ B x) : Bth w' g pg y q S p F R k :=
  ⟨h.d.step s (fun x hx => hB x (.inl hx)) (fun x hx => hB x (.inr (.inr (.inl hx)))), h.r.step s (fun x hx => hB x (.inr (.inl hx))), h.s.stp s (hB q (.inr (.inr (.inr rfl)))), h.ok, h.fr, h.fq, h.rq, h.rp, h.pq, h.wt⟩
theorem Bth.pw {w : World} {g pg y q k : Nat} {S : DS} {p : PS} {F R : Nat → Prop} (h : Bth w g pg y q S p F R k) : Pw w pg p := by
  obtain ⟨gp, e, h1, h2⟩ := h.d.s
  subst h2; exact h1
/-- The document's side behind the code's call. -/
theorem Bth.mid {w w1 : World} {g pg y q k : Nat} {S : DS} {p : PS} {F R : Nat → Prop} (h : Bth w g pg y q S p F R k) (k1 : Stp (fun x => F x ∨ x = pg) w w1) : RD w1 y q S R ∧ Rw w1 q (ref p) :=
  ⟨h.r.step k1 (fun x hx e => e.elim (fun e => h.fr x e hx) (fun e => h.rp (e ▸ hx))), h.s.stp k1 (fun e => e.elim h.fq (fun e => h.pq e.symm))⟩
/-- Behind both. -/
theorem Bth.both {w w1 w2 : World} {g pg y q k : Nat} {S S1 : DS} {p p1 : PS} {F F1 R R1 : Nat → Prop} (h : Bth w g pg y q S p F R k)
    (d1 : DD w1 g (.pointer (some ⟨pg, 0, none⟩)) S1 (some p1) F1 (fun x => x = pg)) (k1 : Stp (fun x => F x ∨ x = pg) w w1) (g1 : Grew F F1 w w1)
    (r2 : RD w2 y q S1 R1) (s2 : Rw w2 q (ref p1)) (k2 : Stp (fun x => R x ∨ x = q) w1 w2) (g2 : Grew R R1 w1 w2) (ok1 : okAt p1 (k + 1)) (wt1 : ∀ j, (S1.wt j).length ≤ k + 1) :
    Bth w2 g pg y q S1 p1 F1 R1 (k + 1) ∧ Stp (Foot pg q F R) w w2 ∧ Grew (Foot pg q F R) (Foot pg q F1 R1) w w2 := by
  have z1 := k1.size
  have z2 := k2.size
  have hq := h.s.lt
  have hp : pg < w.heap.size := h.d.gl pg rfl
  have fF1 : ∀ x, F1 x → ¬ (R x ∨ x = q) := fun x hx e => by
    rcases g1 x hx with a | ⟨a, a'⟩ <;> rcases e with e | e
    · exact h.fr x a e
    · exact h.fq (e ▸ a)
    · have := h.r.lt x e; omega
    · omega
  refine ⟨⟨d1.step k2 fF1 (fun x hx e => ?_), r2, s2, ok1, fun x hx hr => ?_, fun hx => fF1 q hx (.inr rfl), fun hr => ?_, fun hr => ?_, h.pq, wt1⟩, ?_, ?_⟩
  · rcases e with e | e
    · exact h.rp (hx ▸ e)
    · exact h.pq (hx ▸ e)
  · have := d1.d.lt x hx
    rcases g2 x hr with a | ⟨a, _⟩
    · exact fF1 x hx (.inl a)
    · omega
  · rcases g2 q hr with a | ⟨a, _⟩
    · exact h.rq a
    · omega
  · rcases g2 pg hr with a | ⟨a, _⟩
    · exact h.rp a
    · omega
  · refine Stp.next (Stp.mono k1 (fun x hx => .inl ?_)) k2 (fun x hx => .inl ?_)
    · exact hx.elim .inl (fun e => .inr (.inr (.inl e)))
    · exact hx.elim (fun e => .inr (.inl e)) (fun e => .inr (.inr (.inr e)))
  · rintro x (hx | hx | hx | hx)
    · rcases g1 x hx with a | ⟨a, a'⟩
      · exact .inl (.inl a)
      · exact .inr ⟨a, by omega⟩
    · rcases g2 x hx with a | ⟨a, a'⟩
      · exact .inl (.inr (.inl a))
      · exact .inr ⟨by omega, a'⟩
    · exact .inl (.inr (.inr (.inl hx)))
    · exact .inl (.inr (.inr (.inr hx)))
end Go.Proofs.Ytecedklfdmbnpaa
