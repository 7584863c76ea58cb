/-
  What a cache of layer 13 whose supply never ends tells of its sectors, as plain functions: no statement is proved here.
-/
import Derived.Test.YtecedklfdmbnpaaCacK
namespace Go.Proofs.Ytecedklfdmbnpaa
open Go.ChangeShapes Go.WideShapes Go.ChangeAt Go.RowKit
set_option linter.unusedVariables false
set_option linter.unusedSimpArgs false

/-- What a sector is held with, or what the disk shows. -/
def CZ.val (Z : CZ) (k : Int) : Blk := match fnd Z.l k with
  | some q => q.b
  | none => Z.d.shown k
theorem val_some {Z : CZ} {k : Int} {q : Pg} (h : fnd Z.l k = some q) : Z.val k = q.b := by unfold CZ.val; rw [h]
theorem val_none {Z : CZ} {k : Int} (h : fnd Z.l k = none) : Z.val k = Z.d.shown k := by unfold CZ.val; rw [h]
theorem getLastD_snoc (l : List Blk) (b x : Blk) : (l ++ [b]).getLastD x = b := by simp
theorem shown_write {d : DS} {p : Option PS} {i : Int} (b : Blk) (h : useRes d p i = 0) (j : Int) : (d.write p i b).shown j = if j = i then b else d.shown j := by
  unfold DS.write
  rw [if_pos h]
  unfold DS.shown shownBy
  simp only [DS.count, DS.wrote]
  by_cases e : j = i
  · rw [if_pos e, if_pos e, getLastD_snoc]
  · rw [if_neg e, if_neg e]
theorem shown_write_no {d : DS} {p : Option PS} {i : Int} (b : Blk) (j : Int) (hj : j ≠ i) : (d.write p i b).shown j = d.shown j := by
  by_cases h : useRes d p i = 0
  · rw [shown_write b h, if_neg hj]
  · unfold DS.write; rw [if_neg h]
theorem shown_force {d : DS} {p : Option PS} {i : Int} (b : Blk) (h : useRes d p i = 0) (j : Int) : (d.force p i b).shown j = if j = i then b else d.shown j := by
  unfold DS.force
  rw [if_pos h]
  unfold DS.shown shownBy
  simp only [DS.count, DS.settle]
  by_cases e : j = i
  · rw [if_pos e, if_pos e, if_pos e]; rfl
  · rw [if_neg e, if_neg e, if_neg e]
/-- The supply never ends; nothing is pinned; what is not changed is what the disk shows. -/
structure Shw (Z : CZ) : Prop where
  p0 : Z.p = none
  n6 : Z.d.n = 6
  pn : ∀ e ∈ Z.l, e.2.pn = 0
  cl : ∀ k q, fnd Z.l k = some q → q.ch = false → q.b = Z.d.shown k
section
variable {Z : CZ} {t : Nat} {i : Int} {b : Blk}
theorem Shw.use (h : Shw Z) (hi : Z.d.inn i) : useRes Z.d Z.p i = 0 ∧ useP Z.d Z.p i = none := by
  unfold useRes useP
  rw [if_pos hi, if_pos hi, h.p0]
  exact ⟨rfl, rfl⟩
/-- What Back leaves. -/
theorem Shw.back (h : Shw Z) (ok : Z.ok t) (i : Int) : Shw (Z.back i) ∧ (∀ k, (Z.back i).val k = Z.val k) ∧ (∀ q, fnd Z.l i = some q → Z.backE i = 0) ∧
    (∀ q, fnd Z.l i = some q → fnd (Z.back i).l i = some ⟨q.b, false, q.pn⟩ ∧ (Z.back i).d.shown i = q.b) ∧ (∀ k, k ≠ i → fnd (Z.back i).l k = fnd Z.l k) := by
  cases hq : fnd Z.l i with
  | none =>
    have e : Z.back i = Z := by unfold CZ.back; rw [hq]
    rw [e]
    exact ⟨h, fun _ => rfl, (fun q hq => by cases hq), (fun q hq => by cases hq), fun _ _ => rfl⟩
  | some q =>
    have hi : Z.d.inn i := ok.inn _ (fnd_mem hq)
    obtain ⟨u1, u2⟩ := h.use hi
    cases hc : q.ch with
    | false =>
      have e : Z.back i = Z := by unfold CZ.back; rw [hq]; simp [hc]
      have e2 : Z.backE i = 0 := by unfold CZ.backE bkE; rw [hq]; simp [hc]
      rw [e]
      refine ⟨h, fun _ => rfl, fun _ _ => e2, fun q' hq' => ?_, fun _ _ => rfl⟩
      injection hq' with hq'; subst hq'
      exact ⟨by rw [hq, ← hc], (h.cl i q hq hc).symm⟩
    | true =>
      have e : Z.back i = Z.wrt i q := by unfold CZ.back; rw [hq]; simp [hc]
      have e2 : Z.backE i = 0 := by unfold CZ.backE bkE; rw [hq]; simp [hc, u1]
      have el : (Z.wrt i q).l = stP Z.l i ⟨q.b, false, q.pn⟩ := by unfold CZ.wrt; simp only; rw [if_pos u1]
      have ed : (Z.wrt i q).d = Z.d.write Z.p i q.b := rfl
      have ef : ∀ k, fnd (Z.wrt i q).l k = if k = i then some ⟨q.b, false, q.pn⟩ else fnd Z.l k := fun k => by rw [el, fnd_setP, hq]; rfl
      rw [e]
      refine ⟨⟨u2, by rw [ed, write_n]; exact h.n6, fun x hx => ?_, fun k p hp hpc => ?_⟩, fun k => ?_, fun _ _ => e2, fun q' hq' => ?_, fun k hk => by rw [ef, if_neg hk]⟩
      · rw [el] at hx
        rcases mem_setP hx with rfl | hx
        · exact h.pn (i, q) (fnd_mem hq)
        · exact h.pn x hx
      · rw [ed, shown_write _ u1]
        rw [ef] at hp
        by_cases ek : k = i
        · rw [if_pos ek] at hp ⊢; injection hp with hp; rw [← hp]
        · rw [if_neg ek] at hp ⊢; exact h.cl k p hp hpc
      · by_cases ek : k = i
        · rw [val_some (q := ⟨q.b, false, q.pn⟩) (by rw [ef, if_pos ek]), ek, val_some hq]
        · cases hk : fnd Z.l k with
          | none => rw [val_none (by rw [ef, if_neg ek]; exact hk), val_none hk, ed, shown_write _ u1, if_neg ek]
          | some p => rw [val_some (by rw [ef, if_neg ek]; exact hk), val_some hk]
      · injection hq' with hq'; subst hq'
        exact ⟨by rw [ef, if_pos rfl], by rw [ed, shown_write _ u1, if_pos rfl]⟩
/-- What room leaves. -/
theorem Shw.room (h : Shw Z) (ok : Z.ok t) : Z.roomE = 0 ∧ Shw Z.room ∧ (∀ k, Z.room.val k = Z.val k) := by
  by_cases hl : Z.l.length < Z.n
  · have e1 : Z.roomE = 0 := by unfold CZ.roomE; rw [if_pos hl]
    have e2 : Z.room = Z := by unfold CZ.room; rw [if_pos hl]
    rw [e2]; exact ⟨e1, h, fun _ => rfl⟩
  · have hne : ∃ e, e ∈ Z.l := by
      cases hz : Z.l with
      | nil => rw [hz] at hl; have := ok.n1; simp at hl; omega
      | cons a r => exact ⟨a, by simp⟩
    cases hv : vic Z.l with
    | none =>
      obtain ⟨e, he⟩ := hne
      exact absurd (h.pn e he) (vic_none hv e he)
    | some e =>
      obtain ⟨he, _⟩ := vic_mem hv
      have hq : fnd Z.l e.1 = some e.2 := fnd_of_mem ok.nd he
      obtain ⟨b1, b2, b3, b4, b5⟩ := h.back ok e.1
      have hE := b3 e.2 hq
      obtain ⟨b6, b7⟩ := b4 e.2 hq
      have e1 : Z.roomE = 0 := by unfold CZ.roomE; rw [if_neg hl, hv]; exact hE
      have e2 : Z.room = (Z.back e.1).less e.1 := by unfold CZ.room; rw [if_neg hl, hv]; simp only [hE, if_true]
      have hn : (keys (Z.back e.1).l).Nodup := by rw [back_keys]; exact ok.nd
      have ef : ∀ k, fnd ((Z.back e.1).less e.1).l k = if k = e.1 then none else fnd (Z.back e.1).l k := fun k => fnd_rmv hn k
      rw [e2]
      refine ⟨e1, ⟨b1.p0, b1.n6, fun x hx => b1.pn x (mem_rmv hx), fun k q hk hc => ?_⟩, fun k => ?_⟩
      · rw [ef] at hk
        by_cases ek : k = e.1
        · rw [if_pos ek] at hk; cases hk
        · rw [if_neg ek] at hk; exact b1.cl k q hk hc
      · by_cases ek : k = e.1
        · rw [val_none (by rw [ef, if_pos ek]), ek, val_some hq]; exact b7
        · rw [← b2 k]
          cases hk : fnd (Z.back e.1).l k with
          | none => rw [val_none (by rw [ef, if_neg ek]; exact hk), val_none hk]; rfl
          | some p => rw [val_some (by rw [ef, if_neg ek]; exact hk), val_some hk]
/-- What holding a sector leaves. -/
theorem Shw.hold (h : Shw Z) (ok : Z.ok t) (hi : Z.d.inn i) : Z.holdE i = 0 ∧ Shw (Z.hold i) ∧ (∀ k, (Z.hold i).val k = Z.val k) := by
  cases hq : fnd Z.l i with
  | some q =>
    have e1 : Z.holdE i = 0 := by unfold CZ.holdE; rw [if_pos hi, hq]
    have e2 : Z.hold i = Z.hit i q := by unfold CZ.hold; rw [if_pos hi, hq]
    have ef : fnd (Z.hit i q).l = fnd Z.l := fnd_front ok.nd hq
    rw [e2]
    refine ⟨e1, ⟨h.p0, h.n6, fun e he => ?_, fun k p hk hc => ?_⟩, fun k => ?_⟩
    · rcases List.mem_cons.1 he with rfl | he
      · exact h.pn (i, q) (fnd_mem hq)
      · exact h.pn e (mem_rmv he)
    · rw [ef] at hk; exact h.cl k p hk hc
    · unfold CZ.val; rw [ef]; rfl
  | none =>
    obtain ⟨r1, r2, r3⟩ := h.room ok
    have e1 : Z.holdE i = 0 := by unfold CZ.holdE; rw [if_pos hi, hq]; exact r1
    have e2 : Z.hold i = Z.room.miss i (Z.d.shown i) := by unfold CZ.hold; rw [if_pos hi, hq]; simp only [r1, if_true]
    have hn : fnd Z.room.l i = none := fnd_none_iff.2 fun hk => fnd_none_iff.1 hq (room_keys Z hk)
    have hs : Z.room.d.shown i = Z.d.shown i := by have := r3 i; rw [val_none hn, val_none hq] at this; exact this
    have ef : ∀ k, fnd (Z.room.miss i (Z.d.shown i)).l k = if k = i then some ⟨Z.d.shown i, false, 0⟩ else fnd Z.room.l k := fun k => by
      show fnd ((i, _) :: Z.room.l) k = _
      rw [fnd_cons_fun]
    rw [e2]
    refine ⟨e1, ⟨r2.p0, r2.n6, fun e he => ?_, fun k p hk hc => ?_⟩, fun k => ?_⟩
    · rcases List.mem_cons.1 he with rfl | he
      · rfl
      · exact r2.pn e he
    · rw [ef] at hk
      by_cases ek : k = i
      · rw [if_pos ek] at hk; injection hk with hk; rw [← hk, ek]; exact hs.symm
      · rw [if_neg ek] at hk; exact r2.cl k p hk hc
    · by_cases ek : k = i
      · rw [val_some (q := ⟨Z.d.shown i, false, 0⟩) (by rw [ef, if_pos ek]), ek, val_none hq]
      · rw [← r3 k]
        cases hk : fnd Z.room.l k with
        | none => rw [val_none (by rw [ef, if_neg ek]; exact hk), val_none hk]; rfl
        | some p => rw [val_some (by rw [ef, if_neg ek]; exact hk), val_some hk]
theorem Shw.got (h : Shw Z) (ok : Z.ok t) (hi : Z.d.inn i) : Z.got i = Z.val i := by
  obtain ⟨h1, h2, h3⟩ := h.hold ok hi
  obtain ⟨q, r, hl⟩ := hold_head h1
  rw [← h3 i, val_some (fnd_head hl)]
  unfold CZ.got; rw [if_pos h1, fnd_head hl]
theorem onHd_fnd {Z : CZ} {i : Int} {q : Pg} {r : El} (hl : Z.l = (i, q) :: r) (hn : (keys Z.l).Nodup) (u : Pg → Pg) (k : Int) : fnd (hdU u Z.l) k = if k = i then some (u q) else fnd Z.l k := by
  rw [hd_set hl hn, fnd_setP, fnd_head hl]; rfl
theorem hd_mem {l : El} {u : Pg → Pg} {e : Int × Pg} (h : e ∈ hdU u l) : ∃ x ∈ l, e = (x.1, u x.2) ∨ e = x := by
  cases l with
  | nil => cases h
  | cons a r =>
    rcases List.mem_cons.1 h with rfl | h
    · exact ⟨a, by simp, .inl rfl⟩
    · exact ⟨e, List.mem_cons_of_mem _ h, .inr rfl⟩
theorem Shw.put (h : Shw Z) (ok : Z.ok t) (hi : Z.d.inn i) (b : Blk) : Shw (Z.put i b) ∧ (∀ k, (Z.put i b).val k = if k = i then b else Z.val k) := by
  obtain ⟨h1, h2, h3⟩ := h.hold ok hi
  obtain ⟨q, r, hl⟩ := hold_head h1
  have e : Z.put i b = (Z.hold i).onHd (fun q => ⟨b, true, q.pn⟩) := by unfold CZ.put; rw [if_pos h1]
  have hn := (ok.hold i).nd
  have ef : ∀ k, fnd ((Z.hold i).onHd (fun q => ⟨b, true, q.pn⟩)).l k = if k = i then some ⟨b, true, q.pn⟩ else fnd (Z.hold i).l k := fun k => onHd_fnd hl hn (fun q => ⟨b, true, q.pn⟩) k
  rw [e]
  refine ⟨⟨h2.p0, h2.n6, fun x hx => ?_, fun k p hk hc => ?_⟩, fun k => ?_⟩
  · have hx' : x ∈ hdU (fun q => ⟨b, true, q.pn⟩) (Z.hold i).l := hx
    obtain ⟨y, hy, e | e⟩ := hd_mem hx'
    · rw [e]; exact h2.pn y hy
    · rw [e]; exact h2.pn y hy
  · rw [ef] at hk
    by_cases ek : k = i
    · rw [if_pos ek] at hk; injection hk with hk; rw [← hk] at hc; cases hc
    · rw [if_neg ek] at hk; exact h2.cl k p hk hc
  · by_cases ek : k = i
    · rw [if_pos ek, val_some (q := ⟨b, true, q.pn⟩) (by rw [ef, if_pos ek])]
    · rw [if_neg ek, ← h3 k]
      cases hk : fnd (Z.hold i).l k with
      | none => rw [val_none (by rw [ef, if_neg ek]; exact hk), val_none hk]; rfl
      | some p => rw [val_some (by rw [ef, if_neg ek]; exact hk), val_some hk]
theorem Shw.force (h : Shw Z) (ok : Z.ok t) (hi : Z.d.inn i) (b : Blk) : Z.forceE i = 0 ∧ Shw (Z.force i b) ∧ (∀ k, (Z.force i b).val k = if k = i then b else Z.val k) := by
  obtain ⟨h1, h2, h3⟩ := h.hold ok hi
  obtain ⟨q, r, hl⟩ := hold_head h1
  have hi2 : (Z.hold i).d.inn i := by
    unfold DS.inn at hi ⊢
    rw [h2.n6]; rw [h.n6] at hi; exact hi
  obtain ⟨u1, u2⟩ := h2.use hi2
  have e0 : Z.forceE i = 0 := by unfold CZ.forceE; rw [if_pos h1]; exact u1
  have e : Z.force i b = (Z.hold i).frc i b := by unfold CZ.force; rw [if_pos h1]
  have el : ((Z.hold i).frc i b).l = hdU (fun q => ⟨b, false, q.pn⟩) (Z.hold i).l := if_pos u1
  have ed : ((Z.hold i).frc i b).d = (Z.hold i).d.force (Z.hold i).p i b := rfl
  have hn := (ok.hold i).nd
  have ef : ∀ k, fnd ((Z.hold i).frc i b).l k = if k = i then some ⟨b, false, q.pn⟩ else fnd (Z.hold i).l k := fun k => by rw [el]; exact onHd_fnd hl hn (fun q => ⟨b, false, q.pn⟩) k
  rw [e]
  refine ⟨e0, ⟨u2, by rw [ed, force_n]; exact h2.n6, fun x hx => ?_, fun k p hk hc => ?_⟩, fun k => ?_⟩
  · rw [el] at hx
    obtain ⟨y, hy, e | e⟩ := hd_mem hx
    · rw [e]; exact h2.pn y hy
    · rw [e]; exact h2.pn y hy
  · rw [ed, shown_force _ u1]
    rw [ef] at hk
    by_cases ek : k = i
    · rw [if_pos ek] at hk ⊢; injection hk with hk; rw [← hk]
    · rw [if_neg ek] at hk ⊢; exact h2.cl k p hk hc
  · by_cases ek : k = i
    · rw [if_pos ek, val_some (q := ⟨b, false, q.pn⟩) (by rw [ef, if_pos ek])]
    · rw [if_neg ek, ← h3 k]
      cases hk : fnd (Z.hold i).l k with
      | none => rw [val_none (by rw [ef, if_neg ek]; exact hk), val_none hk, ed, shown_force _ u1, if_neg ek]
      | some p => rw [val_some (by rw [ef, if_neg ek]; exact hk), val_some hk]
end
/-- What Sync leaves, of a list of sectors that are held. -/
theorem Shw.syncL : ∀ (L : List Int) {Z : CZ} {t : Nat}, Shw Z → Z.ok t → (∀ k ∈ L, k ∈ keys Z.l) → (CZ.syncL L Z).1 = 0 ∧ Shw (CZ.syncL L Z).2 ∧ (∀ k, (CZ.syncL L Z).2.val k = Z.val k) ∧
    (∀ k, isCh (CZ.syncL L Z).2.l k = true → isCh Z.l k = true ∧ k ∉ L)
  | [], Z, t, h, ok, _ => ⟨rfl, h, fun _ => rfl, fun k hk => ⟨hk, by simp⟩⟩
  | i :: r, Z, t, h, ok, hk => by
    obtain ⟨b1, b2, b3, b4, b5⟩ := h.back ok i
    obtain ⟨q, hq⟩ : ∃ q, fnd Z.l i = some q := by
      cases hq : fnd Z.l i with
      | none => exact absurd (hk i (by simp)) (fnd_none_iff.1 hq)
      | some q => exact ⟨q, rfl⟩
    have hE := b3 q hq
    have e : CZ.syncL (i :: r) Z = CZ.syncL r (Z.back i) := by rw [syncL_cons, if_pos hE]
    obtain ⟨s1, s2, s3, s4⟩ := Shw.syncL r b1 (ok.back i) (fun k hkr => by rw [back_keys]; exact hk k (List.mem_cons_of_mem _ hkr))
    rw [e]
    refine ⟨s1, s2, fun k => by rw [s3, b2], fun k hc => ?_⟩
    obtain ⟨c1, c2⟩ := s4 k hc
    by_cases ek : k = i
    · subst ek
      unfold isCh at c1
      rw [(b4 q hq).1] at c1
      cases c1
    · refine ⟨?_, fun hm => by rcases List.mem_cons.1 hm with e | e; exact ek e; exact c2 e⟩
      unfold isCh at c1 ⊢
      rw [b5 k ek] at c1; exact c1
theorem Shw.sync {Z : CZ} {t : Nat} (h : Shw Z) (ok : Z.ok t) : (CZ.syncL Z.chg Z).1 = 0 ∧ Shw (CZ.syncL Z.chg Z).2 ∧ (∀ k, (CZ.syncL Z.chg Z).2.val k = Z.val k) ∧ (CZ.syncL Z.chg Z).2.chg = [] ∧ (∀ k, (CZ.syncL Z.chg Z).2.d.shown k = Z.val k) := by
  obtain ⟨s1, s2, s3, s4⟩ := Shw.syncL Z.chg h ok (fun k hk => isCh_key (mem_chgN.1 hk).2)
  have none' : ∀ k, isCh (CZ.syncL Z.chg Z).2.l k = false := fun k => by
    cases hc : isCh (CZ.syncL Z.chg Z).2.l k with
    | false => rfl
    | true =>
      obtain ⟨c1, c2⟩ := s4 k hc
      refine absurd (mem_chgN.2 ⟨?_, c1⟩) c2
      obtain ⟨e, he, hx⟩ := List.mem_map.1 (isCh_key c1)
      have := ok.inn e he
      unfold DS.inn at this
      rw [← hx]; exact this
  refine ⟨s1, s2, s3, ?_, fun k => ?_⟩
  · refine List.eq_nil_iff_forall_not_mem.2 fun k hk => ?_
    have := (mem_chgN.1 hk).2
    rw [none' k] at this; cases this
  · rw [← s3 k]
    cases hk : fnd (CZ.syncL Z.chg Z).2.l k with
    | none => rw [val_none hk]
    | some q =>
      rw [val_some hk]
      have hc := none' k
      unfold isCh at hc
      rw [hk] at hc
      exact (s2.cl k q hk hc).symm
end Go.Proofs.Ytecedklfdmbnpaa
