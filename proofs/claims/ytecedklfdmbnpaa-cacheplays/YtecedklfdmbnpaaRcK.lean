/-
  Both caches beside one another, and what a pair of calls leaves: no statement is proved here.
-/
import Derived.Test.YtecedklfdmbnpaaRcH
import Derived.Test.YtecedklfdmbnpaaCacN
namespace Go.Proofs.Ytecedklfdmbnpaa
open Go.ChangeShapes Go.WideShapes Go.ChangeAt Go.RowKit
set_option linter.unusedVariables false
set_option linter.unusedSimpArgs false

/-- The document's cache at yc, its disk at y, its supply at q; V: all that they take. -/
def Ra (u : World) (yc y q : Nat) (Z : CZ) (V : Nat → Prop) : Prop := ∃ s lv E R, Rx u yc y q Z s lv E R ∧ ∀ x, V x ↔ Rl q E R x
def RGoes (yc y q : Nat) (Z' : CZ) (V : Nat → Prop) (w w' : World) : Prop := ∃ V', Ra w' yc y q Z' V' ∧ Stp V w w' ∧ Grew V V' w w'
def CZ.limit (Z : CZ) (n : Int) : CZ := { Z with p := Z.p.map (fun s => s.limit n) }
def CZ.restore (Z : CZ) : CZ := { Z with p := Z.p.map PS.restore }
section
variable {u u' : World} {yc y q gc g : Nat} {sp : Value} {Z Z' : CZ} {V U B : Nat → Prop} {t : Nat}
theorem CZ.ok.limit (h : Z.ok t) (n : Int) (hn : (Lit.int .i64 n).wf = true) : (Z.limit n).ok t := by
  refine ⟨h.n1, h.n2, h.nd, h.inn, h.len, h.pin, h.wt, fun s hs => ?_⟩
  have hs' : Z.p.map (fun s => s.limit n) = some s := hs
  cases hp : Z.p with
  | none => rw [hp] at hs'; cases hs'
  | some s0 =>
    rw [hp] at hs'
    injection hs' with hs'
    have h0 := h.sp s0 hp
    have hw : n ≤ 9223372036854775807 := by simp [Lit.wf, IntKind.min, IntKind.max, IntKind.bits, IntKind.signed] at hn; omega
    unfold okAt at h0 ⊢
    subst hs'
    unfold PS.limit
    split
    · exact h0
    · simp only; omega
theorem CZ.ok.restore (h : Z.ok t) : Z.restore.ok t := by
  refine ⟨h.n1, h.n2, h.nd, h.inn, h.len, h.pin, h.wt, fun s hs => ?_⟩
  have hs' : Z.p.map PS.restore = some s := hs
  cases hp : Z.p with
  | none => rw [hp] at hs'; cases hs'
  | some s0 =>
    rw [hp] at hs'
    injection hs' with hs'
    have h0 := h.sp s0 hp
    unfold okAt at h0 ⊢
    subst hs'
    unfold PS.restore
    simp only; omega
theorem Ra.lt (h : Ra u yc y q Z V) : ∀ x, V x → x < u.heap.size := by
  obtain ⟨s, lv, E, R, H, hV⟩ := h
  intro x hx
  exact Nat.lt_of_not_le (fun hl => H.far x hl ((hV x).1 hx))
theorem Ra.step (h : Ra u yc y q Z V) (k : Stp B u u') (hB : ∀ x, V x → ¬ B x) : Ra u' yc y q Z V := by
  obtain ⟨s, lv, E, R, H, hV⟩ := h
  exact ⟨s, lv, E, R, H.step k (fun x hx => hB x ((hV x).2 (.inl hx))) (fun x hx => hB x ((hV x).2 (.inr (.inl hx)))) (hB q ((hV q).2 (.inr (.inr rfl)))), hV⟩
theorem Ra.later (h : Ra u yc y q Z V) (k : Below u.heap.size u u') : Ra u' yc y q Z V := h.step (Stp.of_below k (fun _ => False)) (fun _ _ => id)
theorem rto_goes {E R : Nat → Prop} (h : RTo yc y q E R Z' u u') (hV : ∀ x, V x ↔ Rl q E R x) : RGoes yc y q Z' V u u' := by
  obtain ⟨s', lv', E', R', h1, h2, h3, h4⟩ := h
  refine ⟨Rl q E' R', ⟨s', lv', E', R', h1, fun _ => Iff.rfl⟩, h2.mono (fun x hx => .inl ((hV x).2 hx)), fun x hx => ?_⟩
  rcases hx with hx | hx | hx
  · rcases h3 x hx with e | e
    · exact .inl ((hV x).2 (.inl e))
    · exact .inr e
  · rcases h4 x hx with e | e
    · exact .inl ((hV x).2 (.inr (.inl e)))
    · exact .inr e
  · exact .inl ((hV x).2 (.inr (.inr hx)))
theorem rget_ra (h : Ra u yc y q Z V) (ok : Z.ok t) (ht : t ≤ 9000) (i : Int) (hi : (Lit.int .i64 i).wf = true) :
    Calls Try.prog 42 #[.pointer (some ⟨yc, 0, none⟩), .int .i64 i] u fun e u' => e = .returned (.tuple #[.agg (Z.got i).cs.toArray, .int .i64 (Z.holdE i)]) ∧ RGoes yc y q (Z.hold i) V u u' := by
  obtain ⟨s, lv, E, R, H, hV⟩ := h
  exact (rget_any H ok (by omega) i hi).mono (fun e u' ⟨h1, h2⟩ => ⟨h1, rto_goes h2 hV⟩)
theorem rput_ra (h : Ra u yc y q Z V) (ok : Z.ok t) (ht : t ≤ 9000) (i : Int) (hi : (Lit.int .i64 i).wf = true) (b : Blk) :
    Calls Try.prog 32 #[.pointer (some ⟨yc, 0, none⟩), .int .i64 i, .agg b.cs.toArray] u fun e u' => e = .returned (.int .i64 (Z.holdE i)) ∧ RGoes yc y q (Z.put i b) V u u' := by
  obtain ⟨s, lv, E, R, H, hV⟩ := h
  exact (rput_any H ok (by omega) i hi b).mono (fun e u' ⟨h1, h2⟩ => ⟨h1, rto_goes h2 hV⟩)
theorem rforce_ra (h : Ra u yc y q Z V) (ok : Z.ok t) (ht : t ≤ 9000) (i : Int) (hi : (Lit.int .i64 i).wf = true) (b : Blk) :
    Calls Try.prog 33 #[.pointer (some ⟨yc, 0, none⟩), .int .i64 i, .agg b.cs.toArray] u fun e u' => e = .returned (.int .i64 (Z.forceE i)) ∧ RGoes yc y q (Z.force i b) V u u' := by
  obtain ⟨s, lv, E, R, H, hV⟩ := h
  exact (rcforce_any H ok ht i hi b).mono (fun e u' ⟨h1, h2⟩ => ⟨h1, rto_goes h2 hV⟩)
theorem rpin_ra (h : Ra u yc y q Z V) (ok : Z.ok t) (i : Int) :
    Calls Try.prog 34 #[.pointer (some ⟨yc, 0, none⟩), .int .i64 i] u fun e u' => e = .returned (.int .i64 (Z.pinE i)) ∧ RGoes yc y q (Z.pin i) V u u' := by
  obtain ⟨s, lv, E, R, H, hV⟩ := h
  exact (rpin_any H ok i).mono (fun e u' ⟨h1, h2⟩ => ⟨h1, rto_goes h2 hV⟩)
theorem runpin_ra (h : Ra u yc y q Z V) (ok : Z.ok t) (i : Int) :
    Calls Try.prog 35 #[.pointer (some ⟨yc, 0, none⟩), .int .i64 i] u fun e u' => e = .returned (.int .i64 (Z.unpinE i)) ∧ RGoes yc y q (Z.unpin i) V u u' := by
  obtain ⟨s, lv, E, R, H, hV⟩ := h
  exact (runpin_any H ok i).mono (fun e u' ⟨h1, h2⟩ => ⟨h1, rto_goes h2 hV⟩)
theorem rback_ra (h : Ra u yc y q Z V) (ok : Z.ok t) (ht : t ≤ 9000) (i : Int) :
    Calls Try.prog 36 #[.pointer (some ⟨yc, 0, none⟩), .int .i64 i] u fun e u' => e = .returned (.int .i64 (Z.backE i)) ∧ RGoes yc y q (Z.back i) V u u' := by
  obtain ⟨s, lv, E, R, H, hV⟩ := h
  exact (rback_any H ok (by omega) i).mono (fun e u' ⟨h1, h2⟩ => ⟨h1, rto_goes h2 hV⟩)
theorem rsync_ra (h : Ra u yc y q Z V) (ok : Z.ok t) (ht : t ≤ 9000) :
    Calls Try.prog 37 #[.pointer (some ⟨yc, 0, none⟩)] u fun e u' => e = .returned (.int .i64 (CZ.syncL Z.chg Z).1) ∧ RGoes yc y q (CZ.syncL Z.chg Z).2 V u u' := by
  obtain ⟨s, lv, E, R, H, hV⟩ := h
  exact (rsync_any H ok ht).mono (fun e u' ⟨h1, h2⟩ => ⟨h1, rto_goes h2 hV⟩)
theorem rheld_ra (h : Ra u yc y q Z V) (ok : Z.ok t) :
    Calls Try.prog 16 #[.pointer (some ⟨yc, 0, none⟩)] u fun e u' => ∃ v', e = .returned v' ∧ OwV u' v' (keys Z.l) ∧ Below u.heap.size u u' := by
  obtain ⟨s, lv, E, R, H, hV⟩ := h
  exact rheld_any H ok
theorem rchanged_ra (h : Ra u yc y q Z V) (ok : Z.ok t) :
    Calls Try.prog 18 #[.pointer (some ⟨yc, 0, none⟩)] u fun e u' => ∃ v', e = .returned v' ∧ OwV u' v' Z.chg ∧ Below u.heap.size u u' := by
  obtain ⟨s, lv, E, R, H, hV⟩ := h
  exact (rchanged_any H ok).mono (fun e u' ⟨v', h1, h2, h3, h4⟩ => ⟨v', h1, h2, h4⟩)
theorem rread_ra (h : Ra u yc y q Z V) (i : Int) (hi : (Lit.int .i64 i).wf = true) :
    Calls Try.prog 21 #[.pointer (some ⟨y, 0, none⟩), .int .i64 i] u fun e u' => e = .returned (.tuple #[.agg (Z.d.shown i).cs.toArray, .int .i64 (checkErr Z.d i)]) ∧ Below u.heap.size u u' := by
  obtain ⟨s, lv, E, R, H, hV⟩ := h
  exact rread_any H.rd i hi
theorem Rx.supply {s s' : PS} {lv : Value} {E R : Nat → Prop} (H : Rx u yc y q Z s lv E R) (k : Stp (fun x => x = q) u u') (hr : Rw u' q (ref s')) (hd : Z'.d = Z.d) (hn : Z'.n = Z.n) (hl : Z'.l = Z.l) (hh : Z'.h = Z.h) (hm : Z'.m = Z.m) (hp : Z'.p = some s') : Rx u' yc y q Z' s' lv E R := by
  have h1 : ∀ x, E x → ¬ x = q := fun x hx e => H.eq (e ▸ hx)
  have h2 : ∀ x, R x → ¬ x = q := fun x hx e => H.nq (e ▸ hx)
  refine ⟨by rw [hd]; exact H.rd.step k h2, hr, hp, by rw [hn, hh, hm]; exact H.c.step k (h1 _ H.eg), by rw [hl]; exact H.ow.step k (fun r hr => h1 r (H.eo r hr).1), H.eg, H.eo, H.er, H.eq, H.nq, fun x hx => Nat.lt_of_lt_of_le (H.lt x hx) k.size, Nat.lt_of_lt_of_le H.qt k.size⟩
theorem rlimit_ra (h : Ra u yc y q Z V) (n : Int) :
    Calls Try.prog 39 #[.pointer (some ⟨q, 0, none⟩), .int .i64 n] u fun e u' => e = .returned (.int .i64 (limErr n)) ∧ RGoes yc y q (Z.limit n) V u u' := by
  obtain ⟨s, lv, E, R, H, hV⟩ := h
  refine (rlimit_any q (ref s) n u H.rw).mono ?_
  rintro e u' ⟨rfl, h1, h2⟩
  have k : Stp (fun x => x = q) u u' := Stp.of_step h1 (fun x hx => .inl (by simpa using hx))
  rw [ref_limit] at h2
  refine ⟨rfl, V, ⟨s.limit n, lv, E, R, H.supply k h2 rfl rfl rfl rfl rfl (by show Z.p.map _ = _; rw [H.hp]; rfl), hV⟩, k.mono (fun x e => .inl ((hV x).2 (.inr (.inr e)))), Grew.refl _ _ _⟩
theorem rrestore_ra (h : Ra u yc y q Z V) :
    Calls Try.prog 41 #[.pointer (some ⟨q, 0, none⟩)] u fun e u' => e = .returned (.tuple #[]) ∧ RGoes yc y q Z.restore V u u' := by
  obtain ⟨s, lv, E, R, H, hV⟩ := h
  refine (rrestore_any q (ref s) u H.rw).mono ?_
  rintro e u' ⟨rfl, h1, h2⟩
  have k : Stp (fun x => x = q) u u' := Stp.of_step h1 (fun x hx => .inl (by simpa using hx))
  rw [ref_restore] at h2
  refine ⟨rfl, V, ⟨s.restore, lv, E, R, H.supply k h2 rfl rfl rfl rfl rfl (by show Z.p.map _ = _; rw [H.hp]; rfl), hV⟩, k.mono (fun x e => .inl ((hV x).2 (.inr (.inr e)))), Grew.refl _ _ _⟩
/-- 'y.L = nil'. -/
theorem Ra.dropped (h : Ra u yc y q Z V) : (∃ v, u.cell? ⟨yc, 2, none⟩ = some v) ∧ u.frozen? ⟨yc, 2, none⟩ = false ∧ RGoes yc y q Z.drop V u (u.setCell ⟨yc, 2, none⟩ (.slice none 0 0)) := by
  obtain ⟨s, lv, E, R, H, hV⟩ := h
  refine ⟨⟨_, H.c.cell 2 _ rfl⟩, H.c.frozen 2, ?_⟩
  obtain ⟨E', H', st, gr⟩ := H.list (Z' := Z.drop) (Stp.refl _ u) rfl rfl rfl rfl rfl (OwL.nil u) (fun r hr => by cases hr)
  exact rto_goes ⟨s, _, E', R, H', st.mono (fun x e => .inl (.inl e)), gr, Grew.refl _ _ _⟩ hV
theorem Ra.counts (h : Ra u yc y q Z V) : u.cell? ⟨yc, 3, none⟩ = some (.int .i64 Z.h) ∧ u.cell? ⟨yc, 4, none⟩ = some (.int .i64 Z.m) ∧ ∃ s, Z.p = some s ∧ u.cell? ⟨q, 1, none⟩ = some (.int .i64 s.used) := by
  obtain ⟨s, lv, E, R, H, hV⟩ := h
  exact ⟨H.c.cell 3 _ rfl, H.c.cell 4 _ rfl, s, H.hp, H.rw.c1⟩
end
section
variable {u u' : World} {gc g gp : Nat} {Z : CZ} {U : Nat → Prop} {t : Nat}
theorem Cx.supply {mp : Nat} {ov : Value} {f : Int → Option Value} {E F G : Nat → Prop} {Z' : CZ} {s' : PS} (H : Cx u gc g (.pointer (some ⟨gp, 0, none⟩)) Z mp ov f E F G) (hG : G gp) (k : Stp (fun x => x = gp) u u') (hr : Pw u' gp s') (hd : Z'.d = Z.d) (hn : Z'.n = Z.n) (hl : Z'.l = Z.l) (hh : Z'.h = Z.h) (hm : Z'.m = Z.m) (hp : Z'.p = some s') : Cx u' gc g (.pointer (some ⟨gp, 0, none⟩)) Z' mp ov f E F G := by
  refine ⟨⟨by rw [hd]; exact H.dd.d.step k (fun x hx e => H.dd.fg x hx (e ▸ hG)), by rw [hp]; exact ⟨gp, rfl, hr, hG⟩, H.dd.fg, fun x hx => Nat.lt_of_lt_of_le (H.dd.gl x hx) k.size⟩, ?_, H.ef, H.eg⟩
  rw [hn, hh, hm, hl]
  exact H.cm.step k (fun x hx e => H.eg x hx (e ▸ hG))
theorem Ca.sup {mp : Nat} {ov : Value} {f : Int → Option Value} {E F G : Nat → Prop} (H : Cx u gc g (.pointer (some ⟨gp, 0, none⟩)) Z mp ov f E F G) : ∃ s, Z.p = some s ∧ Pw u gp s ∧ G gp := by
  have h := H.dd.s
  cases hp : Z.p with
  | none =>
    rw [hp] at h
    have h : Value.pointer (some ⟨gp, 0, none⟩) = Value.pointer none := h
    injection h with h; cases h
  | some s =>
    rw [hp] at h
    obtain ⟨gp', e, h1, h2⟩ := h
    injection e with e; injection e with e; injection e with e
    subst e
    exact ⟨s, rfl, h1, h2⟩
theorem limit_ca (h : Ca u gc g (.pointer (some ⟨gp, 0, none⟩)) Z U) (n : Int) :
    Calls Try.prog 38 #[.pointer (some ⟨gp, 0, none⟩), .int .i64 n] u fun e u' => e = .returned (.int .i64 (limErr n)) ∧ Goes gc g (.pointer (some ⟨gp, 0, none⟩)) (Z.limit n) U u u' := by
  obtain ⟨mp, ov, f, E, F, G, H, hU⟩ := h
  obtain ⟨s, hs, hw, hG⟩ := Ca.sup H
  refine (plimit_any gp s n u hw).mono ?_
  rintro e u' ⟨rfl, h1, h2⟩
  have k : Stp (fun x => x = gp) u u' := Stp.of_step h1 (fun x hx => .inl (by simpa using hx))
  exact ⟨rfl, U, ⟨mp, ov, f, E, F, G, H.supply hG k h2 rfl rfl rfl rfl rfl (by show Z.p.map _ = _; rw [hs]; rfl), hU⟩, k.mono (fun x e => .inl ((hU x).2 (.inr (.inr (e ▸ hG))))), Grew.refl _ _ _⟩
theorem restore_ca (h : Ca u gc g (.pointer (some ⟨gp, 0, none⟩)) Z U) :
    Calls Try.prog 40 #[.pointer (some ⟨gp, 0, none⟩)] u fun e u' => e = .returned (.tuple #[]) ∧ Goes gc g (.pointer (some ⟨gp, 0, none⟩)) Z.restore U u u' := by
  obtain ⟨mp, ov, f, E, F, G, H, hU⟩ := h
  obtain ⟨s, hs, hw, hG⟩ := Ca.sup H
  refine (prestore_any gp s u hw).mono ?_
  rintro e u' ⟨rfl, h1, h2⟩
  have k : Stp (fun x => x = gp) u u' := Stp.of_step h1 (fun x hx => .inl (by simpa using hx))
  exact ⟨rfl, U, ⟨mp, ov, f, E, F, G, H.supply hG k h2 rfl rfl rfl rfl rfl (by show Z.p.map _ = _; rw [hs]; rfl), hU⟩, k.mono (fun x e => .inl ((hU x).2 (.inr (.inr (e ▸ hG))))), Grew.refl _ _ _⟩
theorem used_ca (h : Ca u gc g (.pointer (some ⟨gp, 0, none⟩)) Z U) {s : PS} (hs : Z.p = some s) :
    Calls Try.prog 19 #[.pointer (some ⟨gp, 0, none⟩)] u fun e u' => e = .returned (.int .i64 s.used) ∧ Below u.heap.size u u' := by
  obtain ⟨mp, ov, f, E, F, G, H, hU⟩ := h
  obtain ⟨s', hs', hw, hG⟩ := Ca.sup H
  have e : s' = s := by rw [hs] at hs'; injection hs' with hs'; exact hs'.symm
  subst e
  have c3 := hw.c3
  go_enter Try.func19, Try.ntmps19
  go_wp2
  go_returns
  exact ⟨rfl, Below.refl _ _⟩
end
theorem same_self {w : World} {v1 v2 : Value} {l : List Int} (h1 : OwV w v1 l) (h2 : OwV w v2 l) (hl : l.length ≤ 1000000) :
    Calls Try.prog 14 #[v1, v2] w fun e w' => e = .returned (.bool true) ∧ Below w.heap.size w w' := by
  have := same_any h1 h2 hl
  rwa [decide_eq_true rfl] at this
/-- Both. -/
structure Bt (u : World) (gc g gp yc y q : Nat) (Z : CZ) (U V : Nat → Prop) : Prop where
  a : Ca u gc g (.pointer (some ⟨gp, 0, none⟩)) Z U
  b : Ra u yc y q Z V
  d : ∀ x, U x → ¬ V x
def Uv (U V : Nat → Prop) : Nat → Prop := fun x => U x ∨ V x
section
variable {u u1 u2 : World} {gc g gp yc y q : Nat} {Z Z' : CZ} {U V : Nat → Prop}
theorem Bt.later (h : Bt u gc g gp yc y q Z U V) (k : Below u.heap.size u u1) : Bt u1 gc g gp yc y q Z U V := ⟨h.a.later k, h.b.later k, h.d⟩
theorem Bt.own (h : Bt u gc g gp yc y q Z U V) {x : Nat} (k : Stp (fun z => z = x) u u1) (hx : ¬ Uv U V x) : Bt u1 gc g gp yc y q Z U V :=
  ⟨h.a.step k (fun z hz e => hx (.inl (e ▸ hz))), h.b.step k (fun z hz e => hx (.inr (e ▸ hz))), h.d⟩
theorem Bt.far (h : Bt u gc g gp yc y q Z U V) (x : Nat) (hx : u.heap.size ≤ x) : ¬ Uv U V x := fun e => by
  rcases e with e | e
  · have := h.a.lt x e; omega
  · have := h.b.lt x e; omega
/-- The document's, behind a call of the code's. -/
theorem Bt.mid (h : Bt u gc g gp yc y q Z U V) (k : Stp U u u1) : Ra u1 yc y q Z V := h.b.step k (fun x hx e => h.d x e hx)
/-- A pair of calls. -/
theorem Bt.pair {U' : Nat → Prop} (h : Bt u gc g gp yc y q Z U V) (c : Ca u1 gc g (.pointer (some ⟨gp, 0, none⟩)) Z' U') (s1 : Stp U u u1) (g1 : Grew U U' u u1) (r : RGoes yc y q Z' V u1 u2) : ∃ U' V', Bt u2 gc g gp yc y q Z' U' V' ∧ Stp (Uv U V) u u2 ∧ Grew (Uv U V) (Uv U' V') u u2 := by
  obtain ⟨V', b2, s2, g2⟩ := r
  have hUV : ∀ x, U' x → ¬ V x := fun x hx hv => by
    rcases g1 x hx with e | e
    · exact h.d x e hv
    · have := h.b.lt x hv; omega
  refine ⟨U', V', ⟨c.step s2 hUV, b2, fun x hx hv => ?_⟩, (s1.mono (F' := Uv U V) (fun x e => .inl (.inl e))).next s2 (fun x e => .inl (.inr e)), fun x hx => ?_⟩
  · rcases g2 x hv with e | e
    · exact hUV x hx e
    · have := c.lt x hx; omega
  · rcases hx with hx | hx
    · rcases g1 x hx with e | e
      · exact .inl (.inl e)
      · exact .inr ⟨e.1, Nat.lt_of_lt_of_le e.2 s2.size⟩
    · rcases g2 x hx with e | e
      · exact .inl (.inr e)
      · exact .inr ⟨Nat.le_trans s1.size e.1, e.2⟩
end
end Go.Proofs.Ytecedklfdmbnpaa
