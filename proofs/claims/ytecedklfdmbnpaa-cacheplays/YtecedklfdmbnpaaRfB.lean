/-
  What Force of the document's disk leaves: no statement is proved here.
-/
import Derived.Test.YtecedklfdmbnpaaRfA
namespace Go.Proofs.Ytecedklfdmbnpaa
open Go.ChangeShapes Go.WideShapes Go.ChangeAt Go.RowKit
set_option linter.unusedVariables false

def DS.setSt (S : DS) (i : Int) (b : Blk) : DS := { S with st := fun k => if k = i then b else S.st k }
def DS.clr (S : DS) (i : Int) : DS := { S with wt := fun k => if k = i then [] else S.wt k }
theorem settle_two (S : DS) (i : Int) (b : Blk) : S.settle i b = (S.setSt i b).clr i := rfl
theorem Rk.setSt {R : Nat → Prop} {w : World} {y q s t : Nat} {v : Nat → Value} {S : DS} (h : Rk w y q s t v S R) {i : Nat} (hi : i < S.n) (b : Blk) : Rk (w.setCells s (i * 64) b.cs) y q s t v (S.setSt i b) R := by
  have k : Stp (fun x => x = s) w (w.setCells s (i * 64) b.cs) := Stp.of_setCells w s (i * 64) b.cs (.inl rfl)
  refine ⟨k.cell h.c0 h.ys, k.cell h.c1 h.ys, k.cell h.c2 h.ys, k.cell h.c3 h.ys, by rw [k.frozen (p := ⟨y, 3, none⟩) (h.lt y h.ry) h.ys]; exact h.z3, fun j hj => ?_, fun j hj => World.there_setCells (h.th j hj) _ _ _,
    fun j hj => k.cell (h.wc j hj) (fun e => h.st' e.symm), fun j hj => by rw [k.frozen (p := ⟨t, j, none⟩) (h.lt t h.rt) (fun e => h.st' e.symm)]; exact h.wz j hj, fun j hj => ?_, ?_, h.ry, h.rs, h.rt, h.ys, h.yt, h.st', fun x hx => Nat.lt_of_lt_of_le (h.lt x hx) k.size, h.wn⟩
  · show (w.setCells s (i * 64) b.cs).rangeAt s (j * 64) ((if (j : Int) = (i : Int) then b else S.st j)).cs
    by_cases e : j = i
    · subst e; rw [if_pos rfl]
      exact World.rangeAt_setCells_same w s (j * 64) b.cs (by rw [b.cs_len]; exact h.th j hj)
    · rw [if_neg (by omega)]
      exact World.rangeAt_setCells_apart (h.st j hj) s (i * 64) b.cs (.inr (by rw [b.cs_len, (S.st j).cs_len]; omega))
  · obtain ⟨a, c, e, hb, hx⟩ := h.wv j hj
    exact ⟨a, c, e, hb.step k (fun x ex => (hx x ex).2.2.1), hx⟩
  · refine ⟨h.ok.n1, h.ok.n2, fun k hk => ?_, h.ok.wt⟩
    show (if k = (i : Int) then b else S.st k) = Blk.zero
    rw [if_neg (fun e => hk (by subst e; exact ⟨by omega, by show (i : Int) < S.n; omega⟩))]
    exact h.ok.st k hk
theorem Rk.clr {R : Nat → Prop} {w : World} {y q s t : Nat} {v : Nat → Value} {S : DS} (h : Rk w y q s t v S R) {i : Nat} (hi : i < S.n) : Rk (w.setCell ⟨t, i, none⟩ (.slice none 0 0)) y q s t (fun j => if j = i then .slice none 0 0 else v j) (S.clr i) R := by
  have k : Stp (fun x => x = t) w (w.setCell ⟨t, i, none⟩ (.slice none 0 0)) := (Stp.refl (fun x => x = t) w).setCell (p := ⟨t, i, none⟩) (.inl rfl) _
  refine ⟨k.cell h.c0 h.yt, k.cell h.c1 h.yt, k.cell h.c2 h.yt, k.cell h.c3 h.yt, by rw [k.frozen (p := ⟨y, 3, none⟩) (h.lt y h.ry) h.yt]; exact h.z3, fun j hj => k.range (h.st j hj) h.st', fun j hj => k.there (h.th j hj) h.st',
    fun j hj => ?_, fun j hj => by simpa using h.wz j hj, fun j hj => ?_, ?_, h.ry, h.rs, h.rt, h.ys, h.yt, h.st', fun x hx => Nat.lt_of_lt_of_le (h.lt x hx) k.size, fun j hj L c e => ?_⟩
  · by_cases e : j = i
    · subst e; simp only [if_true]; exact World.cell?_setCell_same _ _ _ (h.wc j hj)
    · simp only [if_neg e]; rw [World.cell?_setCell_other _ _ _ _ (fun e' => e (by injection e' with _ e'; exact e'.symm))]; exact h.wc j hj
  · by_cases e : j = i
    · subst e
      refine ⟨none, 0, ?_, ?_, fun x ex => by cases ex⟩
      · show (if j = j then Value.slice none 0 0 else v j) = .slice none (if (j : Int) = (j : Int) then [] else S.wt j).length 0
        rw [if_pos rfl, if_pos rfl]; rfl
      · show Bls _ none (if (j : Int) = (j : Int) then [] else S.wt j).length 0 (if (j : Int) = (j : Int) then [] else S.wt j)
        rw [if_pos rfl]; exact Bls.nilSlice _
    · obtain ⟨a, c, ev, hb, hx⟩ := h.wv j hj
      have e' : ¬ (j : Int) = (i : Int) := by omega
      refine ⟨a, c, ?_, ?_, hx⟩
      · show (if j = i then Value.slice none 0 0 else v j) = .slice a (if (j : Int) = (i : Int) then [] else S.wt j).length c
        rw [if_neg e, if_neg e']; exact ev
      · show Bls _ a (if (j : Int) = (i : Int) then [] else S.wt j).length c (if (j : Int) = (i : Int) then [] else S.wt j)
        rw [if_neg e']; exact hb.step k (fun x ex => (hx x ex).2.2.2)
  · refine ⟨h.ok.n1, h.ok.n2, h.ok.st, fun k hk => ?_⟩
    show (if k = (i : Int) then [] else S.wt k) = []
    split
    · rfl
    · exact h.ok.wt k hk
  · by_cases e' : j = i
    · rw [if_pos e'] at e; injection e with _ _ e3; exact e3.symm
    · rw [if_neg e'] at e; exact h.wn j hj L c e
theorem Rk.counted {R : Nat → Prop} {w : World} {y q s t : Nat} {v : Nat → Value} {S : DS} (h : Rk w y q s t v S R) : Rk (w.setCell ⟨y, 3, none⟩ (.int .i64 (wrap64 (S.wr + 1)))) y q s t v S.count R := by
  have k : Stp (fun x => x = y) w (w.setCell ⟨y, 3, none⟩ (.int .i64 (wrap64 (S.wr + 1)))) := (Stp.refl (fun x => x = y) w).setCell (p := ⟨y, 3, none⟩) (.inl rfl) _
  refine ⟨?_, ?_, ?_, World.cell?_setCell_same _ _ _ h.c3, by simpa using h.z3, fun j hj => k.range (h.st j hj) (fun e => h.ys e.symm), fun j hj => k.there (h.th j hj) (fun e => h.ys e.symm),
    fun j hj => k.cell (h.wc j hj) (fun e => h.yt e.symm), fun j hj => by rw [k.frozen (p := ⟨t, j, none⟩) (h.lt t h.rt) (fun e => h.yt e.symm)]; exact h.wz j hj, fun j hj => ?_, ⟨h.ok.n1, h.ok.n2, h.ok.st, h.ok.wt⟩, h.ry, h.rs, h.rt, h.ys, h.yt, h.st', fun x hx => Nat.lt_of_lt_of_le (h.lt x hx) k.size, h.wn⟩
  · rw [World.cell?_setCell_other _ _ _ _ (by simp)]; exact h.c0
  · rw [World.cell?_setCell_other _ _ _ _ (by simp)]; exact h.c1
  · rw [World.cell?_setCell_other _ _ _ _ (by simp)]; exact h.c2
  · obtain ⟨a, c, ev, hb, hx⟩ := h.wv j hj
    exact ⟨a, c, ev, hb.step k (fun x ex => (hx x ex).2.1), hx⟩

theorem Rw.stp {F : Nat → Prop} {w w' : World} {g : Nat} {p : RS} (h : Rw w g p) (k : Stp F w w') (hg : ¬ F g) : Rw w' g p :=
  ⟨k.cell h.c0 hg, k.cell h.c1 hg, k.cell h.c2 hg, by rw [k.frozen (p := ⟨g, 0, none⟩) h.lt hg]; exact h.f0, by rw [k.frozen (p := ⟨g, 1, none⟩) h.lt hg]; exact h.f1, by rw [k.frozen (p := ⟨g, 2, none⟩) h.lt hg]; exact h.f2⟩
/-- What the document's disk answers where power is used. -/
def rRes (S : DS) (p : RS) (i : Int) : Int := if S.inn i then p.useErr else 2
def rUse (S : DS) (p : RS) (i : Int) : RS := if S.inn i then p.use else p
def DS.rforce (S : DS) (p : RS) (i : Int) (b : Blk) : DS := if rRes S p i = 0 then (S.settle i b).count else S

set_option maxRecDepth 100000 in
set_option maxHeartbeats 1000000 in
theorem rforce_any {R : Nat → Prop} {w : World} {y q : Nat} {S : DS} {p : RS} (h : RD w y q S R) (hq : Rw w q p) (hqR : ¬ R q) (ok : p.ok) (i : Int) (b : Blk) :
    Calls Try.prog 54 #[.pointer (some ⟨y, 0, none⟩), .int .i64 i, .agg b.cs.toArray] w fun e w' => e = .returned (.int .i64 (rRes S p i)) ∧ RD w' y q (S.rforce p i b) R ∧ Rw w' q (rUse S p i) ∧ Stp (fun x => R x ∨ x = q) w w' := by
  have sA : Stp (fun _ => False) w (w.alloc (.cells b.cs.toArray 42)) := Stp.of_alloc _ _ _
  have hA := h.step sA (fun _ _ => id)
  have his := is_any hA i
  have hqA : Rw (w.alloc (.cells b.cs.toArray 42)) q p := hq.step (step_alloc w _ []) (by simp)
  unfold DS.rforce rUse rRes
  by_cases hi : S.inn i
  · have e2 : decide (S.inn i) = true := decide_eq_true hi
    rw [e2] at his
    simp only [if_pos hi]
    obtain ⟨s, t, v, hk⟩ := hA
    have c0 := hk.c0
    have hql := hq.lt
    by_cases he : p.useErr = 0
    · simp only [if_pos he]
      obtain ⟨m, rfl⟩ := Int.eq_ofNat_of_zero_le hi.1
      have hm : m < S.n := by have := hi.2; omega
      have i1 : (0 : Int) ≤ (m : Int) := by omega
      have i2 : (m : Int) < (S.n : Int) := by omega
      have n2 := hk.ok.n2
      have hbx : (w.alloc (.cells b.cs.toArray 42)).rangeAt w.heap.size 0 b.cs := made_range w _ _
      have s36 := size36 b
      have u36' := u36
      have one := b.cs_one
      have len := b.cs_len
      have hRl : ∀ x, R x → x < w.heap.size := h.lt
      clear h e2 hi
      go_enter Try.func54, Try.ntmps54
      go_wp2_with (first
        | (go_at_call 48; refine his.mono ?_; rintro e u ⟨rfl, rfl⟩)
        | (go_at_call 66; refine (ruse_any q p _ hqA ok).mono ?_; rintro e u1 ⟨rfl, k1, p1⟩; rw [he]))
      have k1' : Stp (fun x => x = q) (w.alloc (.cells b.cs.toArray 42)) u1 := Stp.of_step k1 (by simp)
      have h1 := hk.step k1' (fun x hx e => hqR (e ▸ hx))
      have hb1 := k1'.range hbx (fun e => by omega)
      have d1 := h1.step (Stp.refl (fun _ => False) u1).drew (fun _ _ => id)
      have t1 := d1.th m hm
      have wc := d1.wc m hm
      have wz := d1.wz m hm
      have d2 := d1.setSt hm b
      have d3 := d2.clr hm
      have wc2 := d2.wc m hm
      have wz2 := d2.wz m hm
      have c3 := d3.c3
      have z3 := d3.z3
      have hb2 := (Stp.of_setCells u1.drew s (m * 64) b.cs (F := fun x => x = s) (.inl rfl)).range ((Stp.refl (fun _ => False) u1).drew.range hb1 id) (fun e => by have := hRl s d1.rs; omega)
      have hb3 := ((Stp.refl (fun x => x = t) (u1.drew.setCells s (m * 64) b.cs)).setCell (p := ⟨t, m, none⟩) (.inl rfl) (.slice none 0 0)).range hb2 (fun e => by have := hRl t d1.rt; omega)
      go_region_held3 (fun u => u.cell? ⟨y, 1, none⟩ = some (.slice (some ⟨s, 0, none⟩) S.n S.n) ∧ u.cell? ⟨y, 2, none⟩ = some (.slice (some ⟨t, 0, none⟩) S.n S.n) ∧ u.rangeAt w.heap.size 0 b.cs)
        (first | exact ⟨d1.c1, d1.c2, (Stp.refl (fun _ => False) u1).drew.range hb1 id⟩ | exact ⟨d2.c1, d2.c2, hb2⟩ | exact ⟨d3.c1, d3.c2, hb3⟩) (fail)
      have d4 := d3.counted
      have kS : Stp (fun x => R x ∨ x = q) w (((u1.drew.setCells s (m * 64) b.cs).setCell ⟨t, m, none⟩ (.slice none 0 0)).setCell ⟨y, 3, none⟩ (.int .i64 (wrap64 (S.wr + 1)))) :=
        ((((((sA.mono (fun x hx => hx.elim)).trans (k1'.mono (fun x hx => .inl (.inr hx)))).drew.trans (Stp.of_setCells u1.drew s (m * 64) b.cs (.inl (.inl d1.rs)))).setCell (p := ⟨t, m, none⟩) (.inl (.inl d1.rt)) _).setCell (p := ⟨y, 3, none⟩) (.inl (.inl d1.ry)) _))
      have pS : Rw (((u1.drew.setCells s (m * 64) b.cs).setCell ⟨t, m, none⟩ (.slice none 0 0)).setCell ⟨y, 3, none⟩ (.int .i64 (wrap64 (S.wr + 1)))) q p.use :=
        p1.stp ((((Stp.refl R u1).drew.trans (Stp.of_setCells u1.drew s (m * 64) b.cs (.inl d1.rs))).setCell (p := ⟨t, m, none⟩) (.inl d1.rt) _).setCell (p := ⟨y, 3, none⟩) (.inl d1.ry) _) hqR
      clear hb1 hb2 hb3 wc wz wc2 wz2 t1 d1 d2 h1 k1' k1 p1 hk his sA hqA
      go_wp2_with fail
      go_returns
      exact ⟨by rw [he]; rfl, ⟨s, t, _, d4⟩, pS, kS⟩
    · simp only [if_neg he]
      go_enter Try.func54, Try.ntmps54
      go_wp2_with (first
        | (go_at_call 48; refine his.mono ?_; rintro e u ⟨rfl, rfl⟩)
        | (go_at_call 66; refine (ruse_any q p _ hqA ok).mono ?_; rintro e u1 ⟨rfl, k1, p1⟩))
      go_returns
      have k1' : Stp (fun x => x = q) (w.alloc (.cells b.cs.toArray 42)) u1 := Stp.of_step k1 (by simp)
      exact ⟨rfl, ⟨s, t, v, hk.step k1' (fun x hx e => hqR (e ▸ hx))⟩, p1, (sA.mono (fun x hx => hx.elim)).trans (k1'.mono (fun x hx => .inl (.inr hx)))⟩
  · have e2 : decide (S.inn i) = false := decide_eq_false hi
    rw [e2] at his
    simp only [if_neg hi]
    rw [if_neg (by omega)]
    go_enter Try.func54, Try.ntmps54
    go_wp2_with (first
      | (go_at_call 48; refine his.mono ?_; rintro e u ⟨rfl, rfl⟩))
    go_returns
    exact ⟨rfl, hA, hqA, sA.mono (fun x hx => hx.elim)⟩
end Go.Proofs.Ytecedklfdmbnpaa
