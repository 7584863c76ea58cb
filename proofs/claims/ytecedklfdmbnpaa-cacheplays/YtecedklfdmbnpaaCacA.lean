/-
  What a cache of layer 13 is in memory: no statement is proved here.
-/
import Derived.Test.YtecedklfdmbnpaaSlA
namespace Go.Proofs.Ytecedklfdmbnpaa
open Go.ChangeShapes Go.WideShapes Go.ChangeAt Go.RowKit
set_option linter.unusedVariables false
set_option linter.unusedSimpArgs false

/-- Block g is just these cells. -/
structure Cs (w : World) (g : Nat) (cs : List Value) : Prop where
  here : ∃ t, w.heap[g]? = some (.cells cs.toArray t (0, 0))
  one : ∀ v ∈ cs, v.oneCell' = true
section
variable {w w' : World} {g : Nat} {cs : List Value} {F : Nat → Prop}
theorem Cs.lt (h : Cs w g cs) : g < w.heap.size := by
  obtain ⟨⟨t, h⟩, _⟩ := h
  exact (Array.getElem?_eq_some_iff.1 h).1
theorem Cs.step (h : Cs w g cs) (k : Stp F w w') (hg : ¬ F g) : Cs w' g cs := by
  have hl := h.lt
  obtain ⟨⟨t, h⟩, h1⟩ := h
  exact ⟨⟨t, by rw [k.block g hl hg]; exact h⟩, h1⟩
theorem Cs.later (h : Cs w g cs) (k : Below w.heap.size w w') : Cs w' g cs := h.step (Stp.of_below k (fun _ => False)) id
theorem Cs.cell (h : Cs w g cs) (i : Nat) (v : Value) (hi : cs[i]? = some v) : w.cell? ⟨g, i, none⟩ = some v := by
  obtain ⟨⟨t, h⟩, _⟩ := h
  rw [cell_of_row w g i _ t (0, 0) h, List.getElem?_toArray]; exact hi
theorem Cs.frozen (h : Cs w g cs) (i : Nat) : w.frozen? ⟨g, i, none⟩ = false := by
  obtain ⟨⟨t, h⟩, _⟩ := h
  simp [World.frozen?, h]
theorem Cs.range (h : Cs w g cs) : w.rangeAt g 0 cs := fun j v hv => by
  rw [Nat.zero_add]; exact h.cell j v hv
theorem Cs.there (h : Cs w g cs) : w.there g 0 cs.length := fun j hj => by
  refine ⟨?_, h.frozen _⟩
  rw [Nat.zero_add, h.cell j _ (List.getElem?_eq_getElem hj)]; rfl
theorem Cs.made (w : World) (cs : List Value) (t : TypeId) (h1 : ∀ v ∈ cs, v.oneCell' = true) : Cs (w.alloc (.cells cs.toArray t)) w.heap.size cs := ⟨⟨t, heap_alloc_new w _⟩, h1⟩
theorem Cs.set (h : Cs w g cs) (i : Nat) (v : Value) (hv : v.oneCell' = true) : Cs (w.setCell ⟨g, i, none⟩ v) g (cs.set i v) := by
  obtain ⟨⟨t, h⟩, h1⟩ := h
  refine ⟨⟨t, ?_⟩, fun x hx => ?_⟩
  · rw [setCell_eq_setRow w g i _ t (0, 0) _ h, setRow_heap w g _ _ t _ h]
    simp
  · rcases List.mem_or_eq_of_mem_set hx with hx | rfl
    · exact h1 x hx
    · exact hv
theorem Cs.ne {g' : Nat} {cs' : List Value} (h : Cs w g cs) (h' : Cs w g' cs') (hl : cs.length ≠ cs'.length) : g ≠ g' := fun e => by
  obtain ⟨⟨t, h⟩, _⟩ := h
  obtain ⟨⟨t', h'⟩, _⟩ := h'
  rw [e, h'] at h
  injection h with h
  injection h with h _ _
  exact hl (by rw [← List.size_toArray, ← h, List.size_toArray])
theorem Cs.notMap {P : Program} {K : TypeId} {b : Nat} {f : Int → Option Value} (h : Cs w g cs) (hm : MpI P K w b f) : g ≠ b := fun e => by
  obtain ⟨⟨t, h⟩, _⟩ := h
  obtain ⟨D, ⟨es, clock, hh, _⟩, _⟩ := hm
  rw [e, hh] at h; cases h
/-- Some of its cells, anew. -/
theorem Cs.setCells (h : Cs w g cs) (o : Nat) (vs : List Value) (hl : o + vs.length ≤ cs.length) (h1 : ∀ v ∈ vs, v.oneCell' = true) : Cs (w.setCells g o vs) g (cs.take o ++ vs ++ cs.drop (o + vs.length)) := by
  obtain ⟨⟨t, h⟩, h2⟩ := h
  have := setCells_heap vs h (by simpa using hl) h1
  refine ⟨⟨t, by simpa using this⟩, fun v hv => ?_⟩
  rcases List.mem_append.1 hv with hv | hv
  · rcases List.mem_append.1 hv with hv | hv
    · exact h2 v (List.mem_of_mem_take hv)
    · exact h1 v hv
  · exact h2 v (List.mem_of_mem_drop hv)
end
theorem MpI.clear {P : Program} {K E t : TypeId} {w : World} {b : Nat} {f : Int → Option Value} (h : MpI P K w b f) (ht : P.underlying t = some (.map K E)) (ty : TypeId) :
    ∃ w', (Builtin.clear_ #[t] ty #[.map (some b)]).run P w = .ok (.tuple #[]) w' ∧ MpI P K w' b (fun _ => none) ∧ Stp (fun x => x = b) w w' := by
  obtain ⟨D, ⟨es, clock, hb, hF, hn, hD⟩, hR⟩ := h
  refine ⟨{ w with heap := w.heap.setIfInBounds b (.map #[] clock) }, ?_, ⟨.map [], ⟨#[], clock, ?_, ?_, Nat.zero_le _, rfl⟩, reads_empty⟩, ?_⟩
  · simp [Builtin.clear_, run_underlying ht, MapKept.run_getObj_map hb, MapKept.run_setObj_map _ hb, Result.andThen]
  · have := (Array.getElem?_eq_some_iff.1 hb).1
    simp [this]
  · refine ⟨by simp, ⟨by simp, by simp, by simp⟩, by simp⟩
  · refine ⟨rfl, rfl, rfl, by simp, fun k hk hne => ?_⟩
    simp [Array.getElem?_setIfInBounds, Ne.symm hne]

/-- The cache at gc, of the disk at g; its map at mp, its order ov; n: how many it may hold, h, m: hits and misses; lp: what the sectors are held with; lo: in which order; f: where; E: the blocks that it takes. -/
structure Cm (w : World) (gc g mp : Nat) (ov : Value) (n : Nat) (h m : Int) (lp : Int → Option Pg) (lo : List Int) (f : Int → Option Value) (E : Nat → Prop) : Prop where
  c : Cs w gc [.pointer (some ⟨g, 0, none⟩), .int .i64 n, .map (some mp), ov, .int .i64 h, .int .i64 m]
  ow : OwV w ov lo
  mm : MpI Try.prog 3 w mp f
  pg : ∀ k q, lp k = some q → ∃ r, f k = some (.pointer (some ⟨r, 0, none⟩)) ∧ E r ∧ Cs w r q.cs ∧ ov.ownBlock ≠ some r
  no : ∀ k, lp k = none → f k = none
  apart : ∀ k k' r, f k = some (.pointer (some ⟨r, 0, none⟩)) → f k' = some (.pointer (some ⟨r, 0, none⟩)) → k = k'
  eg : E gc
  em : E mp
  eo : ∀ r, ov.ownBlock = some r → E r ∧ r ≠ gc
  lt : ∀ x, E x → x < w.heap.size
section
variable {w w' : World} {gc g mp' n : Nat} {ov : Value} {h m : Int} {lp : Int → Option Pg} {lo : List Int} {f : Int → Option Value} {E B : Nat → Prop}
theorem OwV.one {v : Value} {l : List Int} (h : OwV w v l) : v.oneCell' = true := by
  rcases h.row with ⟨rfl, _⟩ | ⟨g, cap, cur, rfl, _⟩ <;> rfl
theorem Cm.step (H : Cm w gc g mp' ov n h m lp lo f E) (k : Stp B w w') (hB : ∀ x, E x → ¬ B x) : Cm w' gc g mp' ov n h m lp lo f E :=
  ⟨H.c.step k (hB _ H.eg), H.ow.step k (fun r hr => hB r (H.eo r hr).1), H.mm.step k (hB _ H.em), fun i q hq => by
    obtain ⟨r, h1, h2, h3, h4⟩ := H.pg i q hq
    exact ⟨r, h1, h2, h3.step k (hB r h2), h4⟩, H.no, H.apart, H.eg, H.em, H.eo, fun x hx => Nat.lt_of_lt_of_le (H.lt x hx) k.size⟩
/-- Only the cell itself changed, at a place that is no pointer of it. -/
theorem Cm.count (H : Cm w gc g mp' ov n h m lp lo f E) (h' m' : Int) (k : Stp (fun x => x = gc) w w') (hc : Cs w' gc [.pointer (some ⟨g, 0, none⟩), .int .i64 n, .map (some mp'), ov, .int .i64 h', .int .i64 m']) : Cm w' gc g mp' ov n h' m' lp lo f E :=
  ⟨hc, H.ow.step k (fun r hr => (H.eo r hr).2), H.mm.step k (H.c.notMap H.mm).symm, fun i q hq => by
    obtain ⟨r, h1, h2, h3, h4⟩ := H.pg i q hq
    exact ⟨r, h1, h2, h3.step k (h3.ne H.c (by rw [q.cs_len]; simp)), h4⟩, H.no, H.apart, H.eg, H.em, H.eo, fun x hx => Nat.lt_of_lt_of_le (H.lt x hx) k.size⟩
theorem Cm.hit (H : Cm w gc g mp' ov n h m lp lo f E) (h' : Int) : Cm (w.setCell ⟨gc, 4, none⟩ (.int .i64 h')) gc g mp' ov n h' m lp lo f E :=
  H.count h' m ((Stp.refl (fun x => x = gc) w).setCell (p := ⟨gc, 4, none⟩) (.inl rfl) _) (H.c.set 4 (.int .i64 h') rfl)
theorem Cm.missed (H : Cm w gc g mp' ov n h m lp lo f E) (m' : Int) : Cm (w.setCell ⟨gc, 5, none⟩ (.int .i64 m')) gc g mp' ov n h m' lp lo f E :=
  H.count h m' ((Stp.refl (fun x => x = gc) w).setCell (p := ⟨gc, 5, none⟩) (.inl rfl) _) (H.c.set 5 (.int .i64 m') rfl)
/-- Another order. -/
theorem Cm.order (H : Cm w gc g mp' ov n h m lp lo f E) {ov' : Value} {lo' : List Int} (k : Stp (fun x => ov.ownBlock = some x) w w') (ho : OwV w' ov' lo') (hb : ∀ r, ov'.ownBlock = some r → ov.ownBlock = some r ∨ (w.heap.size ≤ r ∧ r < w'.heap.size)) :
    Cm (w'.setCell ⟨gc, 3, none⟩ ov') gc g mp' ov' n h m lp lo' f (fun x => E x ∨ ov'.ownBlock = some x) := by
  have k2 : Stp (fun x => x = gc) w' (w'.setCell ⟨gc, 3, none⟩ ov') := (Stp.refl (fun x => x = gc) w').setCell (p := ⟨gc, 3, none⟩) (.inl rfl) _
  have hgc : ov.ownBlock ≠ some gc := fun e => (H.eo gc e).2 rfl
  have hnew : ∀ r, ov'.ownBlock = some r → r ≠ gc := fun r hr => by
    rcases hb r hr with e | e
    · exact (H.eo r e).2
    · have := H.lt gc H.eg; omega
  have c1 := H.c.step k hgc
  have m1 := H.mm.step k (H.ow.map_ne H.mm)
  refine ⟨c1.set 3 ov' ho.one, ho.step k2 hnew, m1.step k2 (c1.notMap m1).symm, fun i q hq => ?_, H.no, H.apart, .inl H.eg, .inl H.em, fun r hr => ⟨.inr hr, hnew r hr⟩, fun x hx => ?_⟩
  · obtain ⟨r, h1, h2, h3, h4⟩ := H.pg i q hq
    have h5 := h3.step k h4
    refine ⟨r, h1, .inl h2, h5.step k2 (h3.ne H.c (by rw [q.cs_len]; simp)), fun e => ?_⟩
    rcases hb r e with e | e
    · exact h4 e
    · have := H.lt r h2; omega
  · refine Nat.lt_of_lt_of_le ?_ k2.size
    rcases hx with hx | hx
    · exact Nat.lt_of_lt_of_le (H.lt x hx) k.size
    · rcases hb x hx with e | e
      · exact Nat.lt_of_lt_of_le (H.lt x (H.eo x e).1) k.size
      · exact e.2
/-- What a sector is held with, anew. -/
theorem Cm.page (H : Cm w gc g mp' ov n h m lp lo f E) {i : Int} {q q' : Pg} {r : Nat} (hq : lp i = some q) (hr : f i = some (.pointer (some ⟨r, 0, none⟩))) (k : Stp (fun x => x = r) w w') (hc : Cs w' r q'.cs) :
    Cm w' gc g mp' ov n h m (fun x => if x = i then some q' else lp x) lo f E := by
  obtain ⟨r', h1, h2, h3, h4⟩ := H.pg i q hq
  obtain rfl : r' = r := by rw [h1] at hr; injection hr with hr; injection hr with hr; injection hr with hr; injection hr
  have hgc : gc ≠ r' := (h3.ne H.c (by rw [q.cs_len]; simp)).symm
  refine ⟨H.c.step k hgc, H.ow.step k (fun x hx e => h4 (by rw [← e]; exact hx)), H.mm.step k (h3.notMap H.mm).symm, fun j p hp => ?_, fun j hj => ?_, H.apart, H.eg, H.em, H.eo, fun x hx => Nat.lt_of_lt_of_le (H.lt x hx) k.size⟩
  · by_cases e : j = i
    · subst e
      simp only [if_true] at hp
      injection hp with hp; subst hp
      exact ⟨r', h1, h2, hc, h4⟩
    · simp only [e, if_false] at hp
      obtain ⟨s, g1, g2, g3, g4⟩ := H.pg j p hp
      exact ⟨s, g1, g2, g3.step k (fun e2 => e (H.apart j i s g1 (by rw [e2]; exact h1))), g4⟩
  · by_cases e : j = i
    · simp only [e, if_true] at hj; cases hj
    · simp only [e, if_false] at hj; exact H.no j hj
/-- A sector more is held. -/
theorem Cm.more (H : Cm w gc g mp' ov n h m lp lo f E) {i : Int} {q : Pg} {r : Nat} (hi : lp i = none) (hr : Cs w r q.cs) (hE : ¬ E r) (k : Stp (fun x => x = mp') w w') (hm : MpI Try.prog 3 w' mp' (upd f i (some (.pointer (some ⟨r, 0, none⟩))))) :
    Cm w' gc g mp' ov n h m (fun x => if x = i then some q else lp x) lo (upd f i (some (.pointer (some ⟨r, 0, none⟩)))) (fun x => E x ∨ x = r) := by
  have far : ∀ j, j ≠ i → f j = some (.pointer (some ⟨r, 0, none⟩)) → False := fun j hj e => by
    cases hl : lp j with
    | none => rw [H.no j hl] at e; cases e
    | some p =>
      obtain ⟨s, h1, h2, h3, h4⟩ := H.pg j p hl
      rw [h1] at e; injection e with e; injection e with e; injection e with e; injection e with e
      exact hE (e ▸ h2)
  refine ⟨H.c.step k (H.c.notMap H.mm), H.ow.step k (fun x hx e => H.ow.map_ne H.mm (by rw [← e]; exact hx)), hm, fun j p hp => ?_, fun j hj => ?_, fun a b s e1 e2 => ?_, .inl H.eg, .inl H.em, fun s hs => ⟨.inl (H.eo s hs).1, (H.eo s hs).2⟩, fun x hx => ?_⟩
  · by_cases e : j = i
    · simp only [e, if_true] at hp
      injection hp with hp; subst hp
      exact ⟨r, by simp [upd, e], .inr rfl, hr.step k (hr.notMap H.mm), fun e2 => hE (H.eo r e2).1⟩
    · simp only [e, if_false] at hp
      obtain ⟨s, h1, h2, h3, h4⟩ := H.pg j p hp
      exact ⟨s, by unfold upd; rw [if_neg e]; exact h1, .inl h2, h3.step k (h3.notMap H.mm), h4⟩
  · by_cases e : j = i
    · simp only [e, if_true] at hj; cases hj
    · simp only [e, if_false] at hj; unfold upd; rw [if_neg e]; exact H.no j hj
  · unfold upd at e1 e2
    by_cases n1 : a = i
    · by_cases n2 : b = i
      · rw [n1, n2]
      · rw [if_pos n1] at e1; rw [if_neg n2] at e2
        injection e1 with e1; injection e1 with e1; injection e1 with e1; injection e1 with e1; subst e1
        exact (far b n2 e2).elim
    · by_cases n2 : b = i
      · rw [if_neg n1] at e1; rw [if_pos n2] at e2
        injection e2 with e2; injection e2 with e2; injection e2 with e2; injection e2 with e2; subst e2
        exact (far a n1 e1).elim
      · rw [if_neg n1] at e1; rw [if_neg n2] at e2; exact H.apart a b s e1 e2
  · refine Nat.lt_of_lt_of_le ?_ k.size
    rcases hx with hx | hx
    · exact H.lt x hx
    · rw [hx]; exact hr.lt
/-- A sector goes. -/
theorem Cm.gone (H : Cm w gc g mp' ov n h m lp lo f E) {i : Int} (k : Stp (fun x => x = mp') w w') (hm : MpI Try.prog 3 w' mp' (upd f i none)) :
    Cm w' gc g mp' ov n h m (fun x => if x = i then none else lp x) lo (upd f i none) E := by
  refine ⟨H.c.step k (H.c.notMap H.mm), H.ow.step k (fun x hx e => H.ow.map_ne H.mm (by rw [← e]; exact hx)), hm, fun j p hp => ?_, fun j hj => ?_, fun a b s e1 e2 => ?_, H.eg, H.em, H.eo, fun x hx => Nat.lt_of_lt_of_le (H.lt x hx) k.size⟩
  · by_cases e : j = i
    · simp only [e, if_true] at hp; cases hp
    · simp only [e, if_false] at hp
      obtain ⟨s, h1, h2, h3, h4⟩ := H.pg j p hp
      exact ⟨s, by unfold upd; rw [if_neg e]; exact h1, h2, h3.step k (h3.notMap H.mm), h4⟩
  · by_cases e : j = i
    · unfold upd; rw [if_pos e]
    · simp only [e, if_false] at hj; unfold upd; rw [if_neg e]; exact H.no j hj
  · unfold upd at e1 e2
    by_cases n1 : a = i
    · rw [if_pos n1] at e1; cases e1
    · by_cases n2 : b = i
      · rw [if_pos n2] at e2; cases e2
      · rw [if_neg n1] at e1; rw [if_neg n2] at e2; exact H.apart a b s e1 e2
/-- All go. -/
theorem Cm.allGone (H : Cm w gc g mp' ov n h m lp lo f E) (k : Stp (fun x => x = mp') w w') (hm : MpI Try.prog 3 w' mp' (fun _ => Option.none)) :
    Cm w' gc g mp' ov n h m (fun _ => Option.none) lo (fun _ => Option.none) E :=
  ⟨H.c.step k (H.c.notMap H.mm), H.ow.step k (fun x hx e => H.ow.map_ne H.mm (by rw [← e]; exact hx)), hm, (fun j p hp => by cases hp), fun _ _ => rfl, (fun a b s e1 _ => by cases e1), H.eg, H.em, H.eo, fun x hx => Nat.lt_of_lt_of_le (H.lt x hx) k.size⟩
theorem Cm.cells (H : Cm w gc g mp' ov n h m lp lo f E) : w.cell? ⟨gc, 0, none⟩ = some (.pointer (some ⟨g, 0, none⟩)) ∧ w.cell? ⟨gc, 1, none⟩ = some (.int .i64 n) ∧ w.cell? ⟨gc, 2, none⟩ = some (.map (some mp')) ∧ w.cell? ⟨gc, 3, none⟩ = some ov ∧ w.cell? ⟨gc, 4, none⟩ = some (.int .i64 h) ∧ w.cell? ⟨gc, 5, none⟩ = some (.int .i64 m) :=
  ⟨H.c.cell 0 _ rfl, H.c.cell 1 _ rfl, H.c.cell 2 _ rfl, H.c.cell 3 _ rfl, H.c.cell 4 _ rfl, H.c.cell 5 _ rfl⟩
end
theorem Pg.b_range {w : World} {r : Nat} {q : Pg} (h : Cs w r q.cs) : w.rangeAt r 0 q.b.cs := fun j v hv => by
  rw [Nat.zero_add]
  refine h.cell j v ?_
  unfold Pg.cs
  rw [List.getElem?_append_left (List.getElem?_eq_some_iff.1 hv).1]; exact hv
theorem Pg.ch_cell {w : World} {r : Nat} {q : Pg} (h : Cs w r q.cs) : w.cell? ⟨r, 64, none⟩ = some (.bool q.ch) := h.cell 64 _ (by
  unfold Pg.cs; rw [List.getElem?_append_right (by rw [q.b.cs_len]; omega), q.b.cs_len]; rfl)
theorem Pg.pn_cell {w : World} {r : Nat} {q : Pg} (h : Cs w r q.cs) : w.cell? ⟨r, 65, none⟩ = some (.int .i64 q.pn) := h.cell 65 _ (by
  unfold Pg.cs; rw [List.getElem?_append_right (by rw [q.b.cs_len]; omega), q.b.cs_len]; rfl)
theorem Pg.set_ch {w : World} {r : Nat} {q : Pg} (h : Cs w r q.cs) (b : Bool) : Cs (w.setCell ⟨r, 64, none⟩ (.bool b)) r (Pg.cs ⟨q.b, b, q.pn⟩) := by
  have := h.set 64 (.bool b) rfl
  have e : q.cs.set 64 (.bool b) = Pg.cs ⟨q.b, b, q.pn⟩ := by
    unfold Pg.cs; rw [List.set_append_right _ _ (by rw [q.b.cs_len]; omega), q.b.cs_len]; rfl
  rwa [e] at this
theorem Pg.set_pn {w : World} {r : Nat} {q : Pg} (h : Cs w r q.cs) (x : Int) : Cs (w.setCell ⟨r, 65, none⟩ (.int .i64 x)) r (Pg.cs ⟨q.b, q.ch, x⟩) := by
  have := h.set 65 (.int .i64 x) rfl
  have e : q.cs.set 65 (.int .i64 x) = Pg.cs ⟨q.b, q.ch, x⟩ := by
    unfold Pg.cs; rw [List.set_append_right _ _ (by rw [q.b.cs_len]; omega), q.b.cs_len]; rfl
  rwa [e] at this
theorem Pg.set_b {w : World} {r : Nat} {q : Pg} (h : Cs w r q.cs) (b : Blk) : Cs (w.setCells r 0 b.cs) r (Pg.cs ⟨b, q.ch, q.pn⟩) := by
  have := h.setCells 0 b.cs (by rw [q.cs_len, b.cs_len]; omega) b.cs_one
  have e : q.cs.take 0 ++ b.cs ++ q.cs.drop (0 + b.cs.length) = Pg.cs ⟨b, q.ch, q.pn⟩ := by
    unfold Pg.cs; rw [b.cs_len, List.drop_append_of_le_length (by rw [q.b.cs_len]; omega), List.drop_eq_nil_of_le (by rw [q.b.cs_len]; omega)]; simp
  rwa [e] at this
/-- The cache, its disk and the disk's supply. -/
structure Cx (w : World) (gc g : Nat) (sp : Value) (Z : CZ) (mp : Nat) (ov : Value) (f : Int → Option Value) (E F G : Nat → Prop) : Prop where
  dd : DD w g sp Z.d Z.p F G
  cm : Cm w gc g mp ov Z.n Z.h Z.m (fnd Z.l) (keys Z.l) f E
  ef : ∀ x, E x → ¬ F x
  eg : ∀ x, E x → ¬ G x
theorem Cx.step {w w' : World} {gc g mp : Nat} {sp ov : Value} {Z : CZ} {f : Int → Option Value} {E F G B : Nat → Prop} (H : Cx w gc g sp Z mp ov f E F G) (k : Stp B w w') (h1 : ∀ x, E x → ¬ B x) (h2 : ∀ x, F x → ¬ B x) (h3 : ∀ x, G x → ¬ B x) : Cx w' gc g sp Z mp ov f E F G :=
  ⟨H.dd.step k h2 h3, H.cm.step k h1, H.ef, H.eg⟩
theorem Cx.later {w w' : World} {gc g mp : Nat} {sp ov : Value} {Z : CZ} {f : Int → Option Value} {E F G : Nat → Prop} (H : Cx w gc g sp Z mp ov f E F G) (k : Below w.heap.size w w') : Cx w' gc g sp Z mp ov f E F G :=
  H.step (Stp.of_below k (fun _ => False)) (fun _ _ => id) (fun _ _ => id) (fun _ _ => id)
/-- Only the cache changed. -/
theorem Cx.own {w w' : World} {gc g mp : Nat} {sp ov ov' : Value} {Z Z' : CZ} {f f' : Int → Option Value} {E E' F G : Nat → Prop} (H : Cx w gc g sp Z mp ov f E F G) (k : Stp E w w') (hd : Z'.d = Z.d) (hp : Z'.p = Z.p) (hc : Cm w' gc g mp ov' Z'.n Z'.h Z'.m (fnd Z'.l) (keys Z'.l) f' E') (hE : Grew E E' w w') : Cx w' gc g sp Z' mp ov' f' E' F G := by
  refine ⟨by rw [hd, hp]; exact H.dd.step k (fun x hx e => H.ef x e hx) (fun x hx e => H.eg x e hx), hc, fun x hx hF => ?_, fun x hx hG => ?_⟩
  · rcases hE x hx with e | e
    · exact H.ef x e hF
    · have := H.dd.d.lt x hF; omega
  · rcases hE x hx with e | e
    · exact H.eg x e hG
    · have := H.dd.gl x hG; omega
/-- All that it takes. -/
def Al (E F G : Nat → Prop) : Nat → Prop := fun x => E x ∨ F x ∨ G x
theorem Al.grew {E E' F F' G : Nat → Prop} {w w' : World} (h1 : Grew E E' w w') (h2 : Grew F F' w w') : Grew (Al E F G) (Al E' F' G) w w' := fun x hx => by
  rcases hx with hx | hx | hx
  · rcases h1 x hx with e | e
    · exact .inl (.inl e)
    · exact .inr e
  · rcases h2 x hx with e | e
    · exact .inl (.inr (.inl e))
    · exact .inr e
  · exact .inl (.inr (.inr hx))
theorem yields_B {ops : Array Oper} {o : Oper} {a : Act} {S : World → Prop} (hw : Region.wanted o (yielded ops a.tmps) = true) (x : Operand) (ho : o.op = .load 42 x) (g off : Nat) (hx : a.eval x = .pointer (some ⟨g, off, none⟩)) (c : Blk) (hS : ∀ w, S w → w.rangeAt g off c.cs) :
    YieldsIf Try.prog ops S o (.agg c.cs.toArray) a := yieldsIf_load_mid hw _ x ho g off hx c.cs _ hS u36 rfl (size36 c)
end Go.Proofs.Ytecedklfdmbnpaa
