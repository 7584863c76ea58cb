/-
  What the law DiskFlushed keeps from loop to loop: no statement is proved here.
-/
import Derived.Test.YtdnjkpdcfjkmfaaDskI
import Derived.Test.YtdnjkpdcfjkmfaaPlain6
import Derived.Deep.DeepCutAuto
import Derived.Deep.CutBlock
namespace Go.Proofs.Ytdnjkpdcfjkmfaa.diskFlushed
open Go.ChangeShapes Go.WideShapes Go.ChangeAt Go.RowKit
set_option linter.unusedVariables false

theorem res0 {S : DS} (hn : S.n = 8) {m : Nat} (hm : m < 8) : useRes S none m = 0 := by
  unfold useRes; rw [if_pos (by unfold DS.inn; omega)]; rfl
theorem write0 {S : DS} (hn : S.n = 8) {m : Nat} (hm : m < 8) (b : Blk) : S.write none m b = (S.wrote m b).count := by
  unfold DS.write; rw [if_pos (res0 hn hm)]
/-- The disk, and how much waits. -/
structure I1 (w wr : World) (g k : Nat) (S : DS) (F : Nat → Prop) : Prop where
  d : DD wr g (.pointer none) S none F (fun _ => False)
  n : S.n = 8
  len : ∀ j, (S.wt j).length ≤ k
  bel : Below w.heap.size w wr
  hF : ∀ x, F x → w.heap.size ≤ x
theorem I1.write {w wr w' : World} {g k : Nat} {S : DS} {F F' : Nat → Prop} (h : I1 w wr g k S F) {m : Nat} (hm : m < 8) {b : Blk} (d : DD w' g (.pointer none) (S.write none m b) (useP S none m) F' (fun _ => False)) (s : Stp (fun x => F x ∨ False) wr w') (g' : Grew F F' wr w') :
    I1 w w' g (k + 1) ((S.wrote m b).count) F' := by
  rw [useP_none, write0 h.n hm] at d
  refine ⟨d, h.n, fun j => ?_, ?_, fun x hx => ?_⟩
  · show (if j = (m : Int) then S.wt m ++ [b] else S.wt j).length ≤ k + 1
    have h1 := h.len j
    have h2 := h.len m
    split
    · simp; omega
    · omega
  · exact ((Stp.of_below h.bel (fun x => w.heap.size ≤ x)).next s (fun x hx => .inl (by rcases hx with hx | hx; exact h.hF x hx; exact hx.elim))).below (Nat.le_refl _) (fun x hx => hx)
  · rcases g' x hx with e | e
    · exact h.hF x e
    · have := h.bel.size; omega

/-- Behind Flush: what is stable is what was shown; the array of what was shown, up to k. -/
structure I2 (w wr : World) (g h k : Nat) (S : DS) (v : Nat → Value) (F E : Nat → Prop) : Prop where
  i : I1 w wr g 0 S F
  s : Sh wr h (fun j => if j < k then [S.st j] else []) v E
  fe : ∀ x, F x → ¬ E x
  he : ∀ x, E x → w.heap.size ≤ x
theorem flush0 (S : DS) : S.flush none = { S with st := S.shown, wt := fun _ => [] } := by unfold DS.flush; exact if_pos (rfl : oErr none = 0)
theorem check0 {S : DS} (hn : S.n = 8) {m : Nat} (hm : m < 8) : checkErr S m = 0 := by unfold checkErr; rw [if_pos (by unfold DS.inn; omega)]
theorem wf8 {m : Nat} (hm : m < 8) : (Lit.int .i64 (m : Int)).wf = true := by simp [Lit.wf, IntKind.min, IntKind.max, IntKind.bits, IntKind.signed]; omega
theorem sh_nil (w : World) : Sh (w.alloc (.cells #[.slice none 0 0, .slice none 0 0, .slice none 0 0, .slice none 0 0, .slice none 0 0, .slice none 0 0, .slice none 0 0, .slice none 0 0] 36)) w.heap.size (fun _ => []) (fun _ => .slice none 0 0) (fun x => x = w.heap.size) := by
  refine ⟨fun j hj => ?_, fun j hj => by simp [go_sem], fun j hj => ⟨none, 0, rfl, World.ownsRow_nil _ 0 _ 64⟩, (fun j r hj e => by cases e), (fun j j' r hj hj' e => by cases e), rfl, (fun x hx => by subst hx; simp)⟩
  rw [cell_of_row _ _ j _ _ _ (heap_alloc_new w _)]
  have : j = 0 ∨ j = 1 ∨ j = 2 ∨ j = 3 ∨ j = 4 ∨ j = 5 ∨ j = 6 ∨ j = 7 := by omega
  rcases this with rfl | rfl | rfl | rfl | rfl | rfl | rfl | rfl <;> rfl

theorem at_lit {ops : Array Oper} {rest : List Oper} {o : Oper} {a : Act} {w : World} {Q : Exit → Act → World → Prop} (hw : Region.wanted o (yielded ops a.tmps) = true) (x : Operand) (ho : o.op = .buildSlice 35 1 #[(0, x)]) (c : Blk) (hx : a.eval x = .agg c.cs.toArray)
    (h : wpList Try.prog ops Q rest (a.put o.dst (.slice (some ⟨w.heap.size, 0, none⟩) 1 1)) (w.alloc (.cells c.cs.toArray 32))) : wpList Try.prog ops Q (o :: rest) a w := by
  refine wpList_val hw _ _ ?_ h
  simp only [execOp, ho, Sem.run_bind, List.map_toArray, List.map_cons, List.map_nil, hx, lit36]; rfl
theorem own_lit (w : World) (b : Blk) : (w.alloc (.cells b.cs.toArray 32)).ownsRow 0 32 64 (.slice (some ⟨w.heap.size, 0, none⟩) 1 1) 1 (flat [b]) := by
  refine ⟨by rw [flat_len]; rfl, .inr ⟨_, 1, b.cs.toArray, rfl, Nat.zero_le _, heap_alloc_new w _, Nat.le_refl _, by decide, by simp [b.cs_len], ?_⟩⟩
  unfold flat; simp; exact List.take_of_length_le (by rw [b.cs_len]; exact Nat.le_refl _)
theorem I2.next {w wr y1 : World} {g h k : Nat} {S : DS} {v : Nat → Value} {F E : Nat → Prop} (I : I2 w wr g h k S v F E) (hk : k < 8) (bY : Below wr.heap.size wr y1) :
    ∃ v' E', I2 w (((y1.setCell ⟨h, k, none⟩ (.slice (some ⟨y1.heap.size + 1, 0, none⟩) 1 1)).alloc (.cells (S.st k).cs.toArray 32)).alloc (.cells (S.st k).cs.toArray 32)) g h (k + 1) S v' F E' := by
  have sY := Stp.of_below bY (fun _ => False)
  have s1 := I.s.step sY (fun _ _ => id)
  have hl := s1.lt h s1.eh
  have kA : ∀ B : Nat → Prop, Stp B y1 ((y1.alloc (.cells (S.st k).cs.toArray 32)).alloc (.cells (S.st k).cs.toArray 32)) := fun B => (Stp.of_alloc y1 _ B).alloc _
  have ho := own_lit (y1.alloc (.cells (S.st k).cs.toArray 32)) (S.st k)
  have z1 : (y1.alloc (.cells (S.st k).cs.toArray 32)).heap.size = y1.heap.size + 1 := by simp
  rw [z1] at ho
  have s2 := s1.put hk (kA _) ho rfl (.inr (by omega)) (by simp)
  rw [← World.setCell_alloc_past (w := y1) _ h k _ hl, ← World.setCell_alloc_past (w := y1.alloc _) _ h k _ (by rw [z1]; omega)]
  have eL : (fun j => if j = k then [S.st k] else if j < k then [S.st j] else []) = (fun j => if j < k + 1 then [S.st j] else []) := by
    funext j
    by_cases e : j = k
    · subst e; simp
    · by_cases e2 : j < k
      · rw [if_neg e, if_pos e2, if_pos (by omega)]
      · rw [if_neg e, if_neg e2, if_neg (by omega)]
  rw [eL] at s2
  have kF : Stp (fun x => x = h) wr (((y1.alloc (.cells (S.st k).cs.toArray 32)).alloc (.cells (S.st k).cs.toArray 32)).setCell ⟨h, k, none⟩ (.slice (some ⟨y1.heap.size + 1, 0, none⟩) 1 1)) := Stp.setCell (F := fun x => x = h) ((sY.mono (fun x hx => hx.elim)).trans (kA _)) (p := ⟨h, k, none⟩) (.inl rfl) _
  refine ⟨_, _, ⟨I.i.d.step kF (fun x hx e => I.fe x hx (e ▸ I.s.eh)) (fun _ => False.elim), I.i.n, I.i.len, ?_, I.i.hF⟩, s2, fun x hx e => ?_, fun x hx => ?_⟩
  · exact ((Stp.of_below I.i.bel (fun x => w.heap.size ≤ x)).next kF (fun x hx => .inl (by subst hx; exact I.he _ I.s.eh))).below (Nat.le_refl _) (fun x hx => hx)
  · rcases e with e | e
    · exact I.fe x hx e
    · have := I.i.d.d.lt x hx; have := bY.size; omega
  · rcases hx with e | e
    · exact I.he x e
    · have := I.i.bel.size; have := bY.size; omega

theorem Sh.congr {E : Nat → Prop} {w : World} {h : Nat} {L L' : Nat → List Blk} {v : Nat → Value} (s : Sh w h L v E) (e : ∀ j, j < 8 → L j = L' j) : Sh w h L' v E :=
  ⟨s.c, s.z, fun j hj => by rw [← e j hj]; exact s.row j hj, s.blk, s.apart, s.eh, s.lt⟩
/-- More was written: the array holds what was shown, and what waits. -/
structure I3 (w wr : World) (g h k : Nat) (S : DS) (v : Nat → Value) (F E : Nat → Prop) : Prop where
  i : I1 w wr g k S F
  s : Sh wr h (fun j => S.st j :: S.wt j) v E
  fe : ∀ x, F x → ¬ E x
  he : ∀ x, E x → w.heap.size ≤ x
theorem I2.done {w wr : World} {g h : Nat} {S : DS} {v : Nat → Value} {F E : Nat → Prop} (I : I2 w wr g h 8 S v F E) : I3 w wr g h 0 S v F E :=
  ⟨I.i, Sh.congr I.s (fun j hj => by rw [if_pos hj, List.eq_nil_of_length_eq_zero (Nat.le_zero.1 (I.i.len j))]), I.fe, I.he⟩
/-- Behind one more Write, and the append. -/
theorem I3.next {w wr u1 w3 : World} {g h k m gg cap : Nat} {S : DS} {v : Nat → Value} {F F1 E : Nat → Prop} {b : Blk} {O : Obj} {a : Option Addr} {c : Nat} (I : I3 w wr g h k S v F E) (hm : m < 8) (D : DD u1 g (.pointer none) (S.write none m b) (useP S none m) F1 (fun _ => False)) (k1 : Stp (fun x => F x ∨ False) wr u1) (g1 : Grew F F1 wr u1)
    (ev : v m = .slice a (S.st m :: S.wt m).length c) (hg : (u1.alloc O).drew.grownBy w3 (Value.slice a (S.st m :: S.wt m).length c).ownBlock)
    (ho : w3.ownsRow 0 32 64 (.slice (some ⟨gg, 0, none⟩) ((S.st m :: S.wt m).length + 1) cap) ((S.st m :: S.wt m).length + 1) (flat (S.st m :: S.wt m) ++ b.cs))
    (hat : (Value.slice a (S.st m :: S.wt m).length c).ownBlock = some gg ∨ gg = u1.heap.size + 1) (hlt : gg < w3.heap.size) :
    ∃ v' E', I3 w (w3.setCell ⟨h, m, none⟩ (.slice (some ⟨gg, 0, none⟩) ((S.st m :: S.wt m).length + 1) cap)) g h (k + 1) ((S.wrote m b).count) v' F1 E' := by
  have hJ := I.i.write hm D k1 g1
  have s1 := I.s.step k1 (fun x hx e => by rcases e with e | e; exact I.fe x e hx; exact e.elim)
  have kg : Stp (fun x => (v m).ownBlock = some x) u1 w3 := ((Stp.of_alloc u1 O _).drew).trans (Stp.of_grown hg (fun x hx => .inl (by rw [ev]; exact hx)))
  have s2 := s1.put (l := (S.st m :: S.wt m) ++ [b]) hm kg (by rw [flat_snoc]; exact ho) (by simp) (by rw [ev]; exact hat.imp id (fun e => by omega)) hlt
  have fe1 : ∀ x, F1 x → ¬ E x := fun x hx e => by
    rcases g1 x hx with e1 | e1
    · exact I.fe x e1 e
    · have := I.s.lt x e; omega
  have kE : Stp E u1 (w3.setCell ⟨h, m, none⟩ (.slice (some ⟨gg, 0, none⟩) ((S.st m :: S.wt m).length + 1) cap)) := (kg.mono (fun x hx => .inl (I.s.blk m x hm hx).1)).setCell (p := ⟨h, m, none⟩) (.inl I.s.eh) _
  have nF : ∀ x, F1 x → x ≠ gg := fun x hx e => by
    subst e
    rcases hat with e1 | e1
    · exact fe1 _ hx (I.s.blk m _ hm (by rw [ev]; exact e1)).1
    · have := D.d.lt _ hx; omega
  refine ⟨_, _, ⟨hJ.d.step kE fe1 (fun _ => False.elim), hJ.n, hJ.len, ?_, hJ.hF⟩, Sh.congr s2 (fun j hj => ?_), fun x hx e => ?_, fun x hx => ?_⟩
  · exact ((Stp.of_below hJ.bel (fun x => w.heap.size ≤ x)).next kE (fun x hx => .inl (I.he x hx))).below (Nat.le_refl _) (fun x hx => hx)
  · show _ = S.st j :: (if (j : Int) = (m : Int) then S.wt m ++ [b] else S.wt j)
    by_cases e : j = m
    · subst e; simp
    · have e' : ¬ (j : Int) = (m : Int) := by omega
      rw [if_neg e, if_neg e']
  · rcases e with e | e
    · exact fe1 x hx e
    · exact nF x hx e
  · rcases hx with e | e
    · exact I.he x e
    · subst e
      rcases hat with e1 | e1
      · exact I.he _ (I.s.blk m _ hm (by rw [ev]; exact e1)).1
      · have := hJ.bel.size; omega

end Go.Proofs.Ytdnjkpdcfjkmfaa.diskFlushed
