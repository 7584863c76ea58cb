/-
  Texts of my own, joined: no statement is proved here.
-/
import Derived.Test.YtgdnhkdfcjpdiaaGreatDoorJap
set_option linter.unusedSimpArgs false
set_option linter.unusedVariables false
namespace Go.Proofs.YtgdnhkdfcjpdiaaGreatDoor
open Go.ChangeShapes Go.WideShapes Go.ChangeAt Go.RowKit
structure Cm (w : World) (gc g mp : Nat) (ov : Value) (n : Nat) (h m : Int) (lp : Int → Option Pg) (lo : List Int) (f : Int → Option Value) (E : Nat → Prop) : Prop where
  c : Cs w gc [.pointer (some ⟨g, 0, none⟩), .int .i64 n, .map (some mp), ov, .int .i64 h, .int .i64 m]
  ow : OwV w ov lo
  mm : MpI Tryz.prog 3 w mp f
  pg : ∀ k q, lp k = some q → ∃ r, f k = some (.pointer (some ⟨r, 0, none⟩)) ∧ E r ∧ Cs w r q.cs ∧ ov.ownBlock ≠ some r
  no : ∀ k, lp k = none → f k = none
  apart : ∀ k k' r, f k = some (.pointer (some ⟨r, 0, none⟩)) → f k' = some (.pointer (some ⟨r, 0, none⟩)) → k = k'
  eg : E gc
  em : E mp
  eo : ∀ r, ov.ownBlock = some r → E r ∧ r ≠ gc
  lt : ∀ x, E x → x < w.heap.size
section
variable {w w' : World} {gc g mp' n : Nat} {ov : Value} {h m : Int} {lp : Int → Option Pg} {lo : List Int} {f : Int → Option Value} {E B : Nat → Prop}
theorem Cm.step (H : Cm w gc g mp' ov n h m lp lo f E) (k : Stp B w w') (hB : ∀ x, E x → ¬ B x) : Cm w' gc g mp' ov n h m lp lo f E :=
  ⟨H.c.step k (hB _ H.eg), H.ow.step k (fun r hr => hB r (H.eo r hr).1), H.mm.step k (hB _ H.em), fun i q hq => by
    obtain ⟨r, h1, h2, h3, h4⟩ := H.pg i q hq
    exact ⟨r, h1, h2, h3.step k (hB r h2), h4⟩, H.no, H.apart, H.eg, H.em, H.eo, fun x hx => Nat.lt_of_lt_of_le (H.lt x hx) k.size⟩
theorem Cm.count (H : Cm w gc g mp' ov n h m lp lo f E) (h' m' : Int) (k : Stp (fun x => x = gc) w w') (hc : Cs w' gc [.pointer (some ⟨g, 0, none⟩), .int .i64 n, .map (some mp'), ov, .int .i64 h', .int .i64 m']) : Cm w' gc g mp' ov n h' m' lp lo f E :=
  ⟨hc, H.ow.step k (fun r hr => (H.eo r hr).2), H.mm.step k (H.c.notMap H.mm).symm, fun i q hq => by
    obtain ⟨r, h1, h2, h3, h4⟩ := H.pg i q hq
    exact ⟨r, h1, h2, h3.step k (h3.ne H.c (by rw [q.cs_len]; simp)), h4⟩, H.no, H.apart, H.eg, H.em, H.eo, fun x hx => Nat.lt_of_lt_of_le (H.lt x hx) k.size⟩
theorem Cm.hit (H : Cm w gc g mp' ov n h m lp lo f E) (h' : Int) : Cm (w.setCell ⟨gc, 4, none⟩ (.int .i64 h')) gc g mp' ov n h' m lp lo f E :=
  H.count h' m ((Stp.refl (fun x => x = gc) w).setCell (p := ⟨gc, 4, none⟩) (.inl rfl) _) (H.c.set 4 (.int .i64 h') rfl)
theorem Cm.missed (H : Cm w gc g mp' ov n h m lp lo f E) (m' : Int) : Cm (w.setCell ⟨gc, 5, none⟩ (.int .i64 m')) gc g mp' ov n h m' lp lo f E :=
  H.count h m' ((Stp.refl (fun x => x = gc) w).setCell (p := ⟨gc, 5, none⟩) (.inl rfl) _) (H.c.set 5 (.int .i64 m') rfl)
theorem Cm.order (H : Cm w gc g mp' ov n h m lp lo f E) {ov' : Value} {lo' : List Int} (k : Stp (fun x => ov.ownBlock = some x) w w') (ho : OwV w' ov' lo') (hb : ∀ r, ov'.ownBlock = some r → ov.ownBlock = some r ∨ (w.heap.size ≤ r ∧ r < w'.heap.size)) :
    Cm (w'.setCell ⟨gc, 3, none⟩ ov') gc g mp' ov' n h m lp lo' f (fun x => E x ∨ ov'.ownBlock = some x) := by
  have k2 : Stp (fun x => x = gc) w' (w'.setCell ⟨gc, 3, none⟩ ov') := (Stp.refl (fun x => x = gc) w').setCell (p := ⟨gc, 3, none⟩) (.inl rfl) _
  have hgc : ov.ownBlock ≠ some gc := fun e => (H.eo gc e).2 rfl
  have hnew : ∀ r, ov'.ownBlock = some r → r ≠ gc := fun r hr => by
    rcases hb r hr with e | e
    · exact (H.eo r e).2
    · have := H.lt gc H.eg; omega
  have c1 := H.c.step k hgc
  have m1 := H.mm.step k (H.ow.map_ne H.mm)
  refine ⟨c1.set 3 ov' ho.one, ho.step k2 hnew, m1.step k2 (c1.notMap m1).symm, fun i q hq => ?_, H.no, H.apart, .inl H.eg, .inl H.em, fun r hr => ⟨.inr hr, hnew r hr⟩, fun x hx => ?_⟩
  · obtain ⟨r, h1, h2, h3, h4⟩ := H.pg i q hq
    have h5 := h3.step k h4
    refine ⟨r, h1, .inl h2, h5.step k2 (h3.ne H.c (by rw [q.cs_len]; simp)), fun e => ?_⟩
    rcases hb r e with e | e
    · exact h4 e
    · have := H.lt r h2; omega
  · refine Nat.lt_of_lt_of_le ?_ k2.size
    rcases hx with hx | hx
    · exact Nat.lt_of_lt_of_le (H.lt x hx) k.size
    · rcases hb x hx with e | e
      · exact Nat.lt_of_lt_of_le (H.lt x (H.eo x e).1) k.size
      · exact e.2
theorem Cm.page (H : Cm w gc g mp' ov n h m lp lo f E) {i : Int} {q q' : Pg} {r : Nat} (hq : lp i = some q) (hr : f i = some (.pointer (some ⟨r, 0, none⟩))) (k : Stp (fun x => x = r) w w') (hc : Cs w' r q'.cs) :
    Cm w' gc g mp' ov n h m (fun x => if x = i then some q' else lp x) lo f E := by
  obtain ⟨r', h1, h2, h3, h4⟩ := H.pg i q hq
  obtain rfl : r' = r := by rw [h1] at hr; injection hr with hr; injection hr with hr; injection hr with hr; injection hr
  have hgc : gc ≠ r' := (h3.ne H.c (by rw [q.cs_len]; simp)).symm
  refine ⟨H.c.step k hgc, H.ow.step k (fun x hx e => h4 (by rw [← e]; exact hx)), H.mm.step k (h3.notMap H.mm).symm, fun j p hp => ?_, fun j hj => ?_, H.apart, H.eg, H.em, H.eo, fun x hx => Nat.lt_of_lt_of_le (H.lt x hx) k.size⟩
  · by_cases e : j = i
    · subst e
      simp only [if_true] at hp
      injection hp with hp; subst hp
      exact ⟨r', h1, h2, hc, h4⟩
    · simp only [e, if_false] at hp
      obtain ⟨s, g1, g2, g3, g4⟩ := H.pg j p hp
      exact ⟨s, g1, g2, g3.step k (fun e2 => e (H.apart j i s g1 (by rw [e2]; exact h1))), g4⟩
  · by_cases e : j = i
    · simp only [e, if_true] at hj; cases hj
    · simp only [e, if_false] at hj; exact H.no j hj
theorem Cm.more (H : Cm w gc g mp' ov n h m lp lo f E) {i : Int} {q : Pg} {r : Nat} (hi : lp i = none) (hr : Cs w r q.cs) (hE : ¬ E r) (k : Stp (fun x => x = mp') w w') (hm : MpI Tryz.prog 3 w' mp' (upd f i (some (.pointer (some ⟨r, 0, none⟩))))) :
    Cm w' gc g mp' ov n h m (fun x => if x = i then some q else lp x) lo (upd f i (some (.pointer (some ⟨r, 0, none⟩)))) (fun x => E x ∨ x = r) := by
  have far : ∀ j, j ≠ i → f j = some (.pointer (some ⟨r, 0, none⟩)) → False := fun j hj e => by
    cases hl : lp j with
    | none => rw [H.no j hl] at e; cases e
    | some p =>
      obtain ⟨s, h1, h2, h3, h4⟩ := H.pg j p hl
      rw [h1] at e; injection e with e; injection e with e; injection e with e; injection e with e
      exact hE (e ▸ h2)
  refine ⟨H.c.step k (H.c.notMap H.mm), H.ow.step k (fun x hx e => H.ow.map_ne H.mm (by rw [← e]; exact hx)), hm, fun j p hp => ?_, fun j hj => ?_, fun a b s e1 e2 => ?_, .inl H.eg, .inl H.em, fun s hs => ⟨.inl (H.eo s hs).1, (H.eo s hs).2⟩, fun x hx => ?_⟩
  · by_cases e : j = i
    · simp only [e, if_true] at hp
      injection hp with hp; subst hp
      exact ⟨r, by simp [upd, e], .inr rfl, hr.step k (hr.notMap H.mm), fun e2 => hE (H.eo r e2).1⟩
    · simp only [e, if_false] at hp
      obtain ⟨s, h1, h2, h3, h4⟩ := H.pg j p hp
      exact ⟨s, by unfold upd; rw [if_neg e]; exact h1, .inl h2, h3.step k (h3.notMap H.mm), h4⟩
  · by_cases e : j = i
    · simp only [e, if_true] at hj; cases hj
    · simp only [e, if_false] at hj; unfold upd; rw [if_neg e]; exact H.no j hj
  · unfold upd at e1 e2
    by_cases n1 : a = i
    · by_cases n2 : b = i
      · rw [n1, n2]
      · rw [if_pos n1] at e1; rw [if_neg n2] at e2
        injection e1 with e1; injection e1 with e1; injection e1 with e1; injection e1 with e1; subst e1
        exact (far b n2 e2).elim
    · by_cases n2 : b = i
      · rw [if_neg n1] at e1; rw [if_pos n2] at e2
        injection e2 with e2; injection e2 with e2; injection e2 with e2; injection e2 with e2; subst e2
        exact (far a n1 e1).elim
      · rw [if_neg n1] at e1; rw [if_neg n2] at e2; exact H.apart a b s e1 e2
  · refine Nat.lt_of_lt_of_le ?_ k.size
    rcases hx with hx | hx
    · exact H.lt x hx
    · rw [hx]; exact hr.lt
theorem Cm.gone (H : Cm w gc g mp' ov n h m lp lo f E) {i : Int} (k : Stp (fun x => x = mp') w w') (hm : MpI Tryz.prog 3 w' mp' (upd f i none)) :
    Cm w' gc g mp' ov n h m (fun x => if x = i then none else lp x) lo (upd f i none) E := by
  refine ⟨H.c.step k (H.c.notMap H.mm), H.ow.step k (fun x hx e => H.ow.map_ne H.mm (by rw [← e]; exact hx)), hm, fun j p hp => ?_, fun j hj => ?_, fun a b s e1 e2 => ?_, H.eg, H.em, H.eo, fun x hx => Nat.lt_of_lt_of_le (H.lt x hx) k.size⟩
  · by_cases e : j = i
    · simp only [e, if_true] at hp; cases hp
    · simp only [e, if_false] at hp
      obtain ⟨s, h1, h2, h3, h4⟩ := H.pg j p hp
      exact ⟨s, by unfold upd; rw [if_neg e]; exact h1, h2, h3.step k (h3.notMap H.mm), h4⟩
  · by_cases e : j = i
    · unfold upd; rw [if_pos e]
    · simp only [e, if_false] at hj; unfold upd; rw [if_neg e]; exact H.no j hj
  · unfold upd at e1 e2
    by_cases n1 : a = i
    · rw [if_pos n1] at e1; cases e1
    · by_cases n2 : b = i
      · rw [if_pos n2] at e2; cases e2
      · rw [if_neg n1] at e1; rw [if_neg n2] at e2; exact H.apart a b s e1 e2
theorem Cm.cells (H : Cm w gc g mp' ov n h m lp lo f E) : w.cell? ⟨gc, 0, none⟩ = some (.pointer (some ⟨g, 0, none⟩)) ∧ w.cell? ⟨gc, 1, none⟩ = some (.int .i64 n) ∧ w.cell? ⟨gc, 2, none⟩ = some (.map (some mp')) ∧ w.cell? ⟨gc, 3, none⟩ = some ov ∧ w.cell? ⟨gc, 4, none⟩ = some (.int .i64 h) ∧ w.cell? ⟨gc, 5, none⟩ = some (.int .i64 m) :=
  ⟨H.c.cell 0 _ rfl, H.c.cell 1 _ rfl, H.c.cell 2 _ rfl, H.c.cell 3 _ rfl, H.c.cell 4 _ rfl, H.c.cell 5 _ rfl⟩
end
theorem Pg.b_range {w : World} {r : Nat} {q : Pg} (h : Cs w r q.cs) : w.rangeAt r 0 q.b.cs := fun j v hv => by
  rw [Nat.zero_add]
  refine h.cell j v ?_
  unfold Pg.cs
  rw [List.getElem?_append_left (List.getElem?_eq_some_iff.1 hv).1]; exact hv
theorem Pg.ch_cell {w : World} {r : Nat} {q : Pg} (h : Cs w r q.cs) : w.cell? ⟨r, 64, none⟩ = some (.bool q.ch) := h.cell 64 _ (by
  unfold Pg.cs; rw [List.getElem?_append_right (by rw [q.b.cs_len]; omega), q.b.cs_len]; rfl)
theorem Pg.pn_cell {w : World} {r : Nat} {q : Pg} (h : Cs w r q.cs) : w.cell? ⟨r, 65, none⟩ = some (.int .i64 q.pn) := h.cell 65 _ (by
  unfold Pg.cs; rw [List.getElem?_append_right (by rw [q.b.cs_len]; omega), q.b.cs_len]; rfl)
theorem Pg.set_ch {w : World} {r : Nat} {q : Pg} (h : Cs w r q.cs) (b : Bool) : Cs (w.setCell ⟨r, 64, none⟩ (.bool b)) r (Pg.cs ⟨q.b, b, q.pn⟩) := by
  have := h.set 64 (.bool b) rfl
  have e : q.cs.set 64 (.bool b) = Pg.cs ⟨q.b, b, q.pn⟩ := by
    unfold Pg.cs; rw [List.set_append_right _ _ (by rw [q.b.cs_len]; omega), q.b.cs_len]; rfl
  rwa [e] at this
structure Cx (w : World) (gc g : Nat) (sp : Value) (Z : CZ) (mp : Nat) (ov : Value) (f : Int → Option Value) (E F G : Nat → Prop) : Prop where
  dd : DD w g sp Z.d Z.p F G
  cm : Cm w gc g mp ov Z.n Z.h Z.m (fndC Z.l) (keys Z.l) f E
  ef : ∀ x, E x → ¬ F x
  eg : ∀ x, E x → ¬ G x
theorem Cx.step {w w' : World} {gc g mp : Nat} {sp ov : Value} {Z : CZ} {f : Int → Option Value} {E F G B : Nat → Prop} (H : Cx w gc g sp Z mp ov f E F G) (k : Stp B w w') (h1 : ∀ x, E x → ¬ B x) (h2 : ∀ x, F x → ¬ B x) (h3 : ∀ x, G x → ¬ B x) : Cx w' gc g sp Z mp ov f E F G :=
  ⟨H.dd.step k h2 h3, H.cm.step k h1, H.ef, H.eg⟩
theorem Cx.later {w w' : World} {gc g mp : Nat} {sp ov : Value} {Z : CZ} {f : Int → Option Value} {E F G : Nat → Prop} (H : Cx w gc g sp Z mp ov f E F G) (k : Below w.heap.size w w') : Cx w' gc g sp Z mp ov f E F G :=
  H.step (Stp.of_below k (fun _ => False)) (fun _ _ => id) (fun _ _ => id) (fun _ _ => id)
theorem Cx.own {w w' : World} {gc g mp : Nat} {sp ov ov' : Value} {Z Z' : CZ} {f f' : Int → Option Value} {E E' F G : Nat → Prop} (H : Cx w gc g sp Z mp ov f E F G) (k : Stp E w w') (hd : Z'.d = Z.d) (hp : Z'.p = Z.p) (hc : Cm w' gc g mp ov' Z'.n Z'.h Z'.m (fndC Z'.l) (keys Z'.l) f' E') (hE : Grew E E' w w') : Cx w' gc g sp Z' mp ov' f' E' F G := by
  refine ⟨by rw [hd, hp]; exact H.dd.step k (fun x hx e => H.ef x e hx) (fun x hx e => H.eg x e hx), hc, fun x hx hF => ?_, fun x hx hG => ?_⟩
  · rcases hE x hx with e | e
    · exact H.ef x e hF
    · have := H.dd.d.lt x hF; omega
  · rcases hE x hx with e | e
    · exact H.eg x e hG
    · have := H.dd.gl x hG; omega
def Al (E F G : Nat → Prop) : Nat → Prop := fun x => E x ∨ F x ∨ G x
theorem Al.grew {E E' F F' G : Nat → Prop} {w w' : World} (h1 : Grew E E' w w') (h2 : Grew F F' w w') : Grew (Al E F G) (Al E' F' G) w w' := fun x hx => by
  rcases hx with hx | hx | hx
  · rcases h1 x hx with e | e
    · exact .inl (.inl e)
    · exact .inr e
  · rcases h2 x hx with e | e
    · exact .inl (.inr (.inl e))
    · exact .inr e
  · exact .inl (.inr (.inr hx))
theorem yields_B {ops : Array Oper} {o : Oper} {a : Act} {S : World → Prop} (hw : Region.wanted o (yielded ops a.tmps) = true) (x : Operand) (ho : o.op = .load 88 x) (g off : Nat) (hx : a.eval x = .pointer (some ⟨g, off, none⟩)) (c : Blk) (hS : ∀ w, S w → w.rangeAt g off c.cs) :
    YieldsIf Tryz.prog ops S o (.agg c.cs.toArray) a := yieldsIf_load_mid hw _ x ho g off hx c.cs _ hS u36 rfl (size36 c)
theorem uPgs : Tryz.prog.underlying 169 = some (.map 3 187) := by kernel_rfl
theorem zeroPgp (w : World) : (zeroValue 187).run Tryz.prog w = .ok (.pointer none) w := (zero_of_info (v := .pointer none) (n := 1) (by kernel_rfl)).1 w
theorem yields_MC {ops : Array Oper} {o : Oper} {a : Act} {S : World → Prop} (hw : Region.wanted o (yielded ops a.tmps) = true) (m x : Operand) (ho : o.op = .lookup 169 m x false) (b : Nat) (f : Int → Option Value) (hm : a.eval m = .map (some b)) (k : Int) (hx : a.eval x = .int .i64 k) (hk : (Lit.int .i64 k).wf = true) (v : Value) (hv : f k = some v) (hS : ∀ w, S w → MpI Tryz.prog 3 w b f) :
    YieldsIf Tryz.prog ops S o v a := by
  refine Or.inl ⟨hw, fun w hs => ?_⟩
  simp [execOp, ho, hm, hx, (hS w hs).look u3 uPgs (zeroPgp w) hk, hv]
def pgE (lp : Int → Option Pg) (i : Int) : Int := match lp i with
  | none => 5
  | some _ => 0
theorem find_anyC {w : World} {gc g mp n : Nat} {ov : Value} {h m : Int} {lp : Int → Option Pg} {lo : List Int} {f : Int → Option Value} {E : Nat → Prop} (H : Cm w gc g mp ov n h m lp lo f E) (i : Int) (hi : (Lit.int .i64 i).wf = true) :
    Calls Tryz.prog 115 #[.pointer (some ⟨gc, 0, none⟩), .int .i64 i] w fun e w' => e = .returned (.tuple #[(f i).getD (.pointer none), .int .i64 (pgE lp i)]) ∧ w = w' := by
  obtain ⟨y0, y1, y2, y3, y4, y5⟩ := H.cells
  have hm := H.mm
  cases hl : lp i with
  | none =>
    have hf : f i = none := H.no i hl
    have e1 : pgE lp i = 5 := by unfold pgE; rw [hl]
    rw [e1, hf]; clear e1
    go_enter Tryz.func115, Tryz.ntmps115
    go_wp2_with (refine at_look (by rfl) _ _ (by rfl) uPgs (.pointer none) (zeroPgp _) i (by rfl) (by rfl) hm hi ?_; rw [hf])
    go_returns
    exact ⟨rfl, rfl⟩
  | some q =>
    obtain ⟨r, hf, _⟩ := H.pg i q hl
    have e1 : pgE lp i = 0 := by unfold pgE; rw [hl]
    rw [e1, hf]; clear e1
    go_enter Tryz.func115, Tryz.ntmps115
    go_wp2_with (refine at_look (by rfl) _ _ (by rfl) uPgs (.pointer none) (zeroPgp _) i (by rfl) (by rfl) hm hi ?_; rw [hf])
    go_returns
    exact ⟨rfl, rfl⟩
def oldN (l : El) : Nat → Int
  | 0 => -1
  | k + 1 => match l[k]? with
    | some e => if e.2.pn = 0 then (k : Int) else oldN l k
    | none => oldN l k
theorem oldN_app (l : El) (e : Int × Pg) : ∀ k, k ≤ l.length → oldN (l ++ [e]) k = oldN l k
  | 0, _ => rfl
  | k + 1, h => by
    unfold oldN
    rw [List.getElem?_append_left (by omega), oldN_app l e k (by omega)]
theorem vic_app (l : El) (e : Int × Pg) : vic (l ++ [e]) = if e.2.pn = 0 then some e else vic l := by
  induction l with
  | nil => simp [vic]
  | cons a t ih =>
    rw [List.cons_append]
    unfold vic
    rw [ih]
    by_cases h : e.2.pn = 0
    · simp [h]
    · simp only [h, if_false]
theorem oldN_vic : ∀ (n : Nat) (l : El), l.length = n → (match vic l with
    | none => oldN l n = -1
    | some e => ∃ k : Nat, k < n ∧ oldN l n = (k : Int) ∧ l[k]? = some e)
  | 0, l, h => by
    have : l = [] := List.eq_nil_of_length_eq_zero h
    subst this; rfl
  | n + 1, l, h => by
    obtain ⟨t, e, rfl⟩ : ∃ t e, l = t ++ [e] := ⟨l.dropLast, l.getLast (by intro e; subst e; cases h), (List.dropLast_concat_getLast _).symm⟩
    have ht : t.length = n := by simpa using h
    rw [vic_app]
    have hg : (t ++ [e])[n]? = some e := by rw [List.getElem?_append_right (by omega), ht]; simp
    have ho : oldN (t ++ [e]) (n + 1) = if e.2.pn = 0 then (n : Int) else oldN t n := by
      conv => lhs; unfold oldN
      rw [hg]; simp only; rw [oldN_app t e n (by omega)]
    by_cases hp : e.2.pn = 0
    · rw [if_pos hp]
      rw [if_pos hp] at ho
      exact ⟨n, by omega, ho, hg⟩
    · rw [if_neg hp]
      rw [if_neg hp] at ho
      have ih := oldN_vic n t ht
      rw [ho]
      cases hv : vic t with
      | none => rw [hv] at ih; exact ih
      | some x =>
        rw [hv] at ih
        obtain ⟨k, h1, h2, h3⟩ := ih
        exact ⟨k, by omega, h2, by rw [List.getElem?_append_left (by omega)]; exact h3⟩
theorem erase_at : ∀ (l : List Int) (k : Nat), l.Nodup → k < l.length → l.take k ++ l.drop (k + 1) = l.erase (l.getD k 0)
  | [], k, _, h => by simp at h
  | a :: t, 0, _, _ => by simp
  | a :: t, k + 1, hn, h => by
    rw [List.nodup_cons] at hn
    have ih := erase_at t k hn.2 (by simpa using h)
    have hk : t.getD k 0 ∈ t := by rw [List.getD_eq_getElem?_getD, List.getElem?_eq_getElem (by simpa using h)]; exact List.getElem_mem _
    rw [List.getD_cons_succ, List.erase_cons, if_neg (by simp; intro e; exact hn.1 (e ▸ hk)), ← ih]; simp
set_option maxRecDepth 100000 in
set_option maxHeartbeats 2000000 in
theorem oldest_any {w : World} {gc g mp n : Nat} {ov : Value} {h m : Int} {l : El} {f : Int → Option Value} {E : Nat → Prop} (H : Cm w gc g mp ov n h m (fndC l) (keys l) f E) (hn : (keys l).Nodup) (hwf : ∀ e ∈ l, (Lit.int .i64 e.1).wf = true) (hlen : l.length ≤ 64) :
    Calls Tryz.prog 150 #[.pointer (some ⟨gc, 0, none⟩)] w fun e w' => e = .returned (.int .i64 (oldN l l.length)) ∧ Below w.heap.size w w' := by
  obtain ⟨y0, y1, y2, y3, y4, y5⟩ := H.cells
  have hov : ∃ a c, ov = .slice a l.length c := by
    rcases H.ow.row with ⟨e1, e2⟩ | ⟨r, cap, cur, e1, _⟩
    · have : l.length = 0 := by rw [← keys_len, e2]; rfl
      exact ⟨none, 0, by rw [this]; exact e1⟩
    · exact ⟨_, cap, by rw [e1, keys_len]⟩
  obtain ⟨a0, c0, rfl⟩ := hov
  go_enter Tryz.func150, Tryz.ntmps150
  go_wp2
  go_loopw [3] (fun v wr => ∃ k : Nat, k ≤ l.length ∧ v = .int .i64 ((k : Int) - 1) ∧ oldN l l.length = oldN l k ∧ Below w.heap.size w wr) (fun v _ => (intOf v + 1).toNat)
  case atStart => exact ⟨l.length, Nat.le_refl _, by go_num, rfl, Below.refl _ _⟩
  case round =>
    obtain ⟨k, hk, rfl, ho, hb⟩ := hrel
    have H2 := H.step (Stp.of_below hb (fun _ => False)) (fun _ _ => id)
    obtain ⟨z0, z1, z2, z3, z4, z5⟩ := H2.cells
    cases k with
    | zero =>
      go_wp2
      go_returns
      exact ⟨by rw [ho]; rfl, hb⟩
    | succ k =>
      have hkl : k < l.length := by omega
      obtain ⟨e, he⟩ : ∃ e, l[k]? = some e := ⟨_, List.getElem?_eq_getElem hkl⟩
      have hmem : e ∈ l := List.mem_of_getElem? he
      have hfe : fndC l e.1 = some e.2 := fnd_of_mem hn hmem
      obtain ⟨r, hf, _, hcs, _⟩ := H2.pg e.1 e.2 hfe
      have hke : (keys l).getD k 0 = e.1 := by unfold keys; rw [List.getD_eq_getElem?_getD, List.getElem?_map, he]; rfl
      have hrow : ∃ g0 cap cur, (Value.slice a0 l.length c0) = .slice (some ⟨g0, 0, none⟩) (keys l).length cap ∧ Rw1 wr g0 cap (keys l) cur := by
        rcases H2.ow.row with ⟨e1, e2⟩ | h
        · have : l.length = 0 := by rw [← keys_len, e2]; rfl
          omega
        · exact h
      obtain ⟨g0, cap, cur, e1, hw⟩ := hrow
      injection e1 with e1 e2 e3
      subst e1; subst e3; clear e2
      have ck := hw.cell k (by rw [keys_len]; exact hkl)
      rw [hke] at ck
      have cp := Pg.pn_cell hcs
      have hmm := H2.mm
      have hwe := hwf e hmem
      have a1 : (0 : Int) ≤ (k : Int) := by omega
      have a2 : (k : Int) < (l.length : Int) := by omega
      have a3 : IntKind.i64.wrap ((k : Int) - 1) = (k : Int) - 1 := by rw [IntKind.wrap_i64]; omega
      have a4 : ((k + 1 : Nat) : Int) - 1 = (k : Int) := by omega
      rw [a4]
      have hS : ∀ u, Below wr.heap.size wr u → (u.cell? ⟨gc, 2, none⟩ = some (.map (some mp)) ∧ u.cell? ⟨gc, 3, none⟩ = some (.slice (some ⟨g0, 0, none⟩) l.length c0) ∧ u.cell? ⟨g0, k, none⟩ = some (.int .i64 e.1) ∧ u.cell? ⟨r, 65, none⟩ = some (.int .i64 e.2.pn) ∧ MpI Tryz.prog 3 u mp f) := fun u hu =>
        ⟨(Stp.of_below hu (fun _ => False)).cell z2 id, (Stp.of_below hu (fun _ => False)).cell z3 id, (Stp.of_below hu (fun _ => False)).cell ck id, (Stp.of_below hu (fun _ => False)).cell cp id, hmm.step (Stp.of_below hu (fun _ => False)) id⟩
      have ho2 : oldN l (k + 1) = if e.2.pn = 0 then (k : Int) else oldN l k := by
        conv => lhs; unfold oldN
        rw [he]
      go_wp2
      by_cases hp : e.2.pn = 0
      · rw [if_pos hp] at ho2
        refine wp_region_held_drew (S := fun u => u.cell? ⟨gc, 2, none⟩ = some (.map (some mp)) ∧ u.cell? ⟨gc, 3, none⟩ = some (.slice (some ⟨g0, 0, none⟩) l.length c0) ∧ u.cell? ⟨g0, k, none⟩ = some (.int .i64 e.1) ∧ u.cell? ⟨r, 65, none⟩ = some (.int .i64 e.2.pn) ∧ MpI Tryz.prog 3 u mp f) (by kernel_rfl) (hS _ (Below.refl _ _).drew) (fun hHeld => ?_)
        refine tl 0 (.pointer (some ⟨gc, 0, none⟩)) rfl ?_
        try simp only [z]
        refine tl 1 (.pointer (some ⟨gc, 0, none⟩)) rfl ?_
        try simp only [z]
        refine tl 2 (.pointer (some ⟨gc, 2, none⟩)) rfl ?_
        try simp only [z]
        refine tl 3 (.map (some mp)) rfl ?_ (fun u hu => by obtain ⟨x1, x2, x3, x4, x5⟩ := hu; go_simp)
        try simp only [z]
        refine tl 4 (.pointer (some ⟨gc, 0, none⟩)) rfl ?_
        try simp only [z]
        refine tl 5 (.pointer (some ⟨gc, 0, none⟩)) rfl ?_
        try simp only [z]
        refine tl 6 (.pointer (some ⟨gc, 3, none⟩)) rfl ?_
        try simp only [z]
        refine tl 7 (.slice (some ⟨g0, 0, none⟩) l.length c0) rfl ?_ (fun u hu => by obtain ⟨x1, x2, x3, x4, x5⟩ := hu; go_simp)
        try simp only [z]
        refine tl 8 (.int .i64 (k : Int)) rfl ?_
        try simp only [z]
        refine tl 9 (.pointer (some ⟨g0, k, none⟩)) rfl ?_
        try simp only [z]
        refine tl 10 (.int .i64 e.1) rfl ?_ (fun u hu => by obtain ⟨x1, x2, x3, x4, x5⟩ := hu; go_simp)
        try simp only [z]
        refine tm 11 (.pointer (some ⟨r, 0, none⟩)) rfl
          (yields_MC (by rfl) _ _ (by rfl) mp f (by rfl) e.1 (by rfl) hwe _ hf (fun u hu => hu.2.2.2.2)) ?_
        try simp only [z]
        refine tl 12 (.pointer (some ⟨r, 0, none⟩)) rfl ?_
        try simp only [z]
        refine tl 13 (.pointer (some ⟨r, 65, none⟩)) rfl ?_
        try simp only [z]
        refine tl 14 (.int .i64 e.2.pn) rfl ?_ (fun u hu => by obtain ⟨x1, x2, x3, x4, x5⟩ := hu; go_simp)
        try simp only [z]
        refine tl 15 (.bool true) rfl ?_
        try simp only [z]
        refine wpAnyH_done (by kernel_rfl) ?_ _
        go_wp2
        go_returns
        exact ⟨by rw [ho, ho2]; rfl, by go_grown⟩
      · rw [if_neg hp] at ho2
        refine wp_region_held_drew (S := fun u => u.cell? ⟨gc, 2, none⟩ = some (.map (some mp)) ∧ u.cell? ⟨gc, 3, none⟩ = some (.slice (some ⟨g0, 0, none⟩) l.length c0) ∧ u.cell? ⟨g0, k, none⟩ = some (.int .i64 e.1) ∧ u.cell? ⟨r, 65, none⟩ = some (.int .i64 e.2.pn) ∧ MpI Tryz.prog 3 u mp f) (by kernel_rfl) (hS _ (Below.refl _ _).drew) (fun hHeld => ?_)
        refine tl 0 (.pointer (some ⟨gc, 0, none⟩)) rfl ?_
        try simp only [z]
        refine tl 1 (.pointer (some ⟨gc, 0, none⟩)) rfl ?_
        try simp only [z]
        refine tl 2 (.pointer (some ⟨gc, 2, none⟩)) rfl ?_
        try simp only [z]
        refine tl 3 (.map (some mp)) rfl ?_ (fun u hu => by obtain ⟨x1, x2, x3, x4, x5⟩ := hu; go_simp)
        try simp only [z]
        refine tl 4 (.pointer (some ⟨gc, 0, none⟩)) rfl ?_
        try simp only [z]
        refine tl 5 (.pointer (some ⟨gc, 0, none⟩)) rfl ?_
        try simp only [z]
        refine tl 6 (.pointer (some ⟨gc, 3, none⟩)) rfl ?_
        try simp only [z]
        refine tl 7 (.slice (some ⟨g0, 0, none⟩) l.length c0) rfl ?_ (fun u hu => by obtain ⟨x1, x2, x3, x4, x5⟩ := hu; go_simp)
        try simp only [z]
        refine tl 8 (.int .i64 (k : Int)) rfl ?_
        try simp only [z]
        refine tl 9 (.pointer (some ⟨g0, k, none⟩)) rfl ?_
        try simp only [z]
        refine tl 10 (.int .i64 e.1) rfl ?_ (fun u hu => by obtain ⟨x1, x2, x3, x4, x5⟩ := hu; go_simp)
        try simp only [z]
        refine tm 11 (.pointer (some ⟨r, 0, none⟩)) rfl
          (yields_MC (by rfl) _ _ (by rfl) mp f (by rfl) e.1 (by rfl) hwe _ hf (fun u hu => hu.2.2.2.2)) ?_
        try simp only [z]
        refine tl 12 (.pointer (some ⟨r, 0, none⟩)) rfl ?_
        try simp only [z]
        refine tl 13 (.pointer (some ⟨r, 65, none⟩)) rfl ?_
        try simp only [z]
        refine tl 14 (.int .i64 e.2.pn) rfl ?_ (fun u hu => by obtain ⟨x1, x2, x3, x4, x5⟩ := hu; go_simp)
        try simp only [z]
        refine tl 15 (.bool false) rfl ?_
        try simp only [z]
        refine wpAnyH_done (by kernel_rfl) ?_ _
        go_wp2
        go_roundw
        case rel => exact ⟨k, by omega, by go_num, by rw [ho, ho2], by go_grown⟩
        case measure => simp [intOf]
theorem wf_inn {S : DS} {i : Int} (hn : S.n ≤ 2048) (hi : S.inn i) : (Lit.int .i64 i).wf = true := by
  unfold DS.inn at hi; simp [Lit.wf, IntKind.min, IntKind.max, IntKind.bits, IntKind.signed]; omega
theorem CZ.ok.oOk {Z : CZ} {t : Nat} (h : Z.ok t) (ht : t ≤ 1000000) : oOk Z.p := fun s hs => by
  have := h.sp s hs; unfold okAt at this; unfold PS.ok; omega
section
variable {w : World} {gc g mp : Nat} {sp ov : Value} {Z : CZ} {f : Int → Option Value} {E F G : Nat → Prop} {t : Nat}
theorem Cx.page (H : Cx w gc g sp Z mp ov f E F G) {i : Int} {q : Pg} (hq : fndC Z.l i = some q) : ∃ r, f i = some (.pointer (some ⟨r, 0, none⟩)) ∧ E r ∧ Cs w r q.cs := by
  obtain ⟨r, h1, h2, h3, _⟩ := H.cm.pg i q hq
  exact ⟨r, h1, h2, h3⟩
theorem Cx.put {w' : World} (H : Cx w gc g sp Z mp ov f E F G) {i : Int} {q q' : Pg} {r : Nat} (hq : fndC Z.l i = some q) (hr : f i = some (.pointer (some ⟨r, 0, none⟩))) (k : Stp (fun x => x = r) w w') (hc : Cs w' r q'.cs) : Cx w' gc g sp (Z.setP i q') mp ov f E F G := by
  obtain ⟨r', h1, h2, h3⟩ := H.page hq
  obtain rfl : r' = r := by rw [h1] at hr; injection hr with hr; injection hr with hr; injection hr with hr; injection hr
  have hm := H.cm.page hq hr k hc
  refine H.own (k.mono (fun x e => .inl (e ▸ h2))) rfl rfl ?_ (Grew.refl _ _ _)
  show Cm w' gc g mp ov Z.n Z.h Z.m (fndC (stP Z.l i q')) (keys (stP Z.l i q')) f E
  have e : fndC (stP Z.l i q') = fun x => if x = i then some q' else fndC Z.l x := by
    funext x; rw [fnd_setP, hq]; rfl
  rw [e, keys_setP]; exact hm
theorem Cx.disk {w' : World} {d : DS} {p : Option PS} {F' : Nat → Prop} (H : Cx w gc g sp Z mp ov f E F G) (k : Stp (fun x => F x ∨ G x) w w') (hd : DD w' g sp d p F' G) (hF : Grew F F' w w') : Cx w' gc g sp { Z with d := d, p := p } mp ov f E F' G := by
  refine ⟨hd, H.cm.step k (fun x hx e => by rcases e with e | e; exact H.ef x hx e; exact H.eg x hx e), fun x hx e => ?_, H.eg⟩
  rcases hF x e with e | e
  · exact H.ef x hx e
  · have := H.cm.lt x hx; omega
end
set_option maxRecDepth 100000 in
set_option maxHeartbeats 2000000 in
theorem back_anyC {w : World} {gc g mp : Nat} {sp ov : Value} {Z : CZ} {f : Int → Option Value} {E F G : Nat → Prop} {t : Nat} (H : Cx w gc g sp Z mp ov f E F G) (ok : Z.ok t) (ht : t ≤ 10000) (i : Int) (hi : (Lit.int .i64 i).wf = true) :
    Calls Tryz.prog 151 #[.pointer (some ⟨gc, 0, none⟩), .int .i64 i] w fun e w' => e = .returned (.int .i64 (Z.backE i)) ∧ ∃ F', Cx w' gc g sp (Z.back i) mp ov f E F' G ∧ Stp (Al E F G) w w' ∧ Grew F F' w w' := by
  have hfi := find_anyC H.cm i hi
  cases hq : fndC Z.l i with
  | none =>
    have e1 : Z.backE i = 5 := by unfold CZ.backE bkE; rw [hq]
    have e2 : Z.back i = Z := by unfold CZ.back; rw [hq]
    have e3 : pgE (fndC Z.l) i = 5 := by unfold pgE; rw [hq]
    have e4 : f i = none := H.cm.no i hq
    rw [e1, e2]; rw [e3, e4] at hfi; clear e1 e2 e3 e4
    go_enter Tryz.func151, Tryz.ntmps151
    go_wp2_with (go_at_call 115; refine hfi.mono ?_; rintro e w1 ⟨rfl, rfl⟩)
    go_returns
    exact ⟨rfl, F, H, Stp.refl _ _, Grew.refl _ _ _⟩
  | some q =>
    obtain ⟨r, hf, hE, hc⟩ := H.page hq
    have e3 : pgE (fndC Z.l) i = 0 := by unfold pgE; rw [hq]
    rw [e3, hf] at hfi; clear e3
    have cc := Pg.ch_cell hc
    cases hch : q.ch with
    | false =>
      have e1 : Z.backE i = 0 := by unfold CZ.backE bkE; rw [hq]; simp [hch]
      have e2 : Z.back i = Z := by unfold CZ.back; rw [hq]; simp [hch]
      rw [e1, e2]; rw [hch] at cc; clear e1 e2
      go_enter Tryz.func151, Tryz.ntmps151
      go_wp2_with (go_at_call 115; refine hfi.mono ?_; rintro e w1 ⟨rfl, rfl⟩)
      go_returns
      exact ⟨rfl, F, H, Stp.refl _ _, Grew.refl _ _ _⟩
    | true =>
      have e1 : Z.backE i = useRes Z.d Z.p i := by unfold CZ.backE bkE; rw [hq]; simp [hch]
      have e2 : Z.back i = Z.wrt i q := by unfold CZ.back; rw [hq]; simp [hch]
      rw [e1, e2]; rw [hch] at cc; clear e1 e2
      have hW := fun u (hu : Below w.heap.size w u) => write_anyD (H.later hu).dd (ok.oOk (by omega)) i q.b (by have := ok.wt i; omega)
      have rng := Pg.b_range hc
      obtain ⟨y0, _⟩ := H.cm.cells
      have hS : ∀ u, Stp (fun x => F x ∨ G x) w u → (u.cell? ⟨gc, 0, none⟩ = some (.pointer (some ⟨g, 0, none⟩)) ∧ u.rangeAt r 0 q.b.cs) := fun u hu =>
        ⟨hu.cell y0 (fun e => by rcases e with e | e; exact H.ef gc H.cm.eg e; exact H.eg gc H.cm.eg e), hu.range rng (fun e => by rcases e with e | e; exact H.ef r hE e; exact H.eg r hE e)⟩
      have key : ∀ u F', DD u g sp (Z.d.write Z.p i q.b) (useP Z.d Z.p i) F' G → Stp (fun x => F x ∨ G x) w u → Grew F F' w u → Cx u gc g sp { Z with d := Z.d.write Z.p i q.b, p := useP Z.d Z.p i } mp ov f E F' G := fun u F' h1 h2 h3 => H.disk h2 h1 h3
      go_enter Tryz.func151, Tryz.ntmps151
      go_wp2_with (go_at_call 115; refine hfi.mono ?_; rintro e w1 ⟨rfl, rfl⟩)
      refine wp_region_held_drew (S := fun u => u.cell? ⟨gc, 0, none⟩ = some (.pointer (some ⟨g, 0, none⟩)) ∧ u.rangeAt r 0 q.b.cs) (by kernel_rfl) (hS _ (Stp.refl _ w).drew) (fun hHeld => ?_)
      refine tl 0 (.pointer (some ⟨gc, 0, none⟩)) rfl ?_
      try simp only [z]
      refine tl 1 (.pointer (some ⟨gc, 0, none⟩)) rfl ?_
      try simp only [z]
      refine tl 2 (.pointer (some ⟨gc, 0, none⟩)) rfl ?_
      try simp only [z]
      refine tl 3 (.pointer (some ⟨g, 0, none⟩)) rfl ?_ (fun u hu => by have x1 := hu.1; go_simp)
      try simp only [z]
      refine tl 4 (.int .i64 i) rfl ?_
      try simp only [z]
      refine tl 5 (.pointer (some ⟨r, 0, none⟩)) rfl ?_
      try simp only [z]
      refine tl 6 (.pointer (some ⟨r, 0, none⟩)) rfl ?_
      try simp only [z]
      refine tl 7 (.pointer (some ⟨r, 0, none⟩)) rfl ?_
      try simp only [z]
      refine tm 8 (.agg q.b.cs.toArray) rfl
        (yields_B (by rfl) _ (by rfl) r 0 (by rfl) q.b (fun u hu => hu.2)) ?_
      try simp only [z]
      refine rd 9 rfl (fun K hK => ?_)
      go_simp
      refine (hW _ (Below.refl _ _).drew).mono ?_
      rintro e w2 ⟨rfl, F', hD, hk, hg⟩
      try go_wp2_with fail
      have hk2 : Stp (fun x => F x ∨ G x) w w2 := ((Stp.refl _ w).drew).trans hk
      have hX := key w2 F' hD hk2 hg
      have hk3 : Stp (Al E F G) w w2 := hk2.mono (fun x e => .inl (.inr e))
      refine hK.out _ _ (hS _ hk2) (fun hHeld => ?_)
      clear hK K
      try simp only [z]
      refine tl 10 (.int .i64 (useRes Z.d Z.p i)) rfl ?_
      try simp only [z]
      refine wpAnyH_done (by kernel_rfl) ?_ _
      clear hHeld hS hW key rng hfi y0 cc
      by_cases hu : useRes Z.d Z.p i = 0
      · have e5 : Z.wrt i q = CZ.setP { Z with d := Z.d.write Z.p i q.b, p := useP Z.d Z.p i } i ⟨q.b, false, q.pn⟩ := by
          unfold CZ.wrt CZ.setP; rw [if_pos hu]
        have hc2 : Cs w2 r q.cs := hc.step hk2 (fun e => by rcases e with e | e; exact H.ef r hE e; exact H.eg r hE e)
        have x1 := Pg.ch_cell hc2
        have x2 := hc2.frozen 64
        rw [hch] at x1
        rw [hu]
        have hE5 : Hid (Z.wrt i q = CZ.setP { Z with d := Z.d.write Z.p i q.b, p := useP Z.d Z.p i } i ⟨q.b, false, q.pn⟩) := e5
        have hH : Hid (useRes Z.d Z.p i = 0) := hu
        clear e5 hu
        go_wp2
        go_returns
        have k6 : Stp (fun x => x = r) w2 (w2.setCell ⟨r, 64, none⟩ (.bool false)) := (Stp.refl (fun x => x = r) w2).setCell (p := ⟨r, 64, none⟩) (.inl rfl) _
        exact ⟨by rw [hH.out]; rfl, F', by rw [hE5.out]; exact hX.put hq hf k6 (Pg.set_ch hc2 false), hk3.next k6 (fun x e => .inl (.inl (e ▸ hE))), Grew.trans (b := w2) hg (Grew.refl _ _ _) hk2.size k6.size⟩
      · have e5 : Z.wrt i q = { Z with d := Z.d.write Z.p i q.b, p := useP Z.d Z.p i } := by
          unfold CZ.wrt; rw [if_neg hu]
        have hE5 : Hid (Z.wrt i q = { Z with d := Z.d.write Z.p i q.b, p := useP Z.d Z.p i }) := e5
        clear e5
        go_wp2
        go_returns
        exact ⟨rfl, F', by rw [hE5.out]; exact hX, hk3, hg⟩
end Go.Proofs.YtgdnhkdfcjpdiaaGreatDoor
