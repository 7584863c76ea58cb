/-
  What an act leaves that flushes, limits or restores: no statement is proved here.
-/
import Derived.Test.YtdjkdkekcjmokaaRfM
import Derived.Deep.RegionHeld3
namespace Go.Proofs.Ytdjkdkekcjmokaa
open Go.ChangeShapes Go.WideShapes Go.ChangeAt Go.RowKit
set_option linter.unusedVariables false

/-- What an act leaves: both hold the same again. -/
def Done (w w' : World) (g pg y q k : Nat) (F R : Nat → Prop) : Prop := ∃ S' p' F' R', Bth w' g pg y q S' p' F' R' (k + 1) ∧ Stp (Foot pg q F R) w w' ∧ Grew (Foot pg q F R) (Foot pg q F' R') w w'
theorem Done.before {w w0 w' : World} {g pg y q k : Nat} {F R : Nat → Prop} (h : Done w0 w' g pg y q k F R) (s : Stp (fun _ => False) w w0) : Done w w' g pg y q k F R := by
  obtain ⟨S', p', F', R', b, s', g'⟩ := h
  refine ⟨S', p', F', R', b, (s.mono (fun _ h => h.elim)).trans s', fun x hx => (g' x hx).elim .inl (fun e => .inr ⟨Nat.le_trans s.size e.1, e.2⟩)⟩
theorem oOk_of {p : PS} {k : Nat} (h : okAt p k) (hk : k ≤ 100) : oOk (some p) := fun s e => by injection e with e; subst e; exact h.ok hk

set_option maxRecDepth 100000 in
theorem do_flush {w : World} {g pg y q k : Nat} {S : DS} {p : PS} {F R : Nat → Prop} (h : Bth w g pg y q S p F R k) (hk : k ≤ 100) (x : AC) (hc : among x.d 11 = 6) :
    Calls Try.prog 8 #[.pointer (some ⟨g, 0, none⟩), .pointer (some ⟨y, 0, none⟩), .pointer (some ⟨pg, 0, none⟩), .pointer (some ⟨q, 0, none⟩), .agg x.cs.toArray] w fun e w' => e = .returned (.bool true) ∧ Done w w' g pg y q k F R := by
  have sA : Stp (fun _ => False) w (w.alloc (.cells x.cs.toArray 39)) := Stp.of_alloc _ _ _
  have hA := h.step sA (fun _ _ => id)
  have hr : (w.alloc (.cells x.cs.toArray 39)).rangeAt w.heap.size 0 x.cs := made_range w _ _
  have c1 := AC.c1 hr
  have hF := flush_any hA.d (oOk_of h.ok hk)
  rw [show oErr (some p) = p.useErr from rfl] at hF
  clear h
  go_enter Try.func8, Try.ntmps8
  go_wp2_with (first
    | (go_at_call 17; refine (among_any x.d 11 _ (by decide) (by decide)).mono ?_; rintro e u ⟨rfl, rfl⟩; rw [hc])
    | (go_at_call 20; refine hF.mono ?_; rintro e w1 ⟨rfl, d1, k1⟩)
    | (go_at_call 21; refine (rflush_any (hA.mid k1).1 (hA.mid k1).2 hA.rq (hA.ok.rok hk)).mono ?_; rintro e w2 ⟨rfl, r2, s2, k2⟩; rw [ref_err hA.ok]))
  rw [flush_same hA.ok] at r2
  rw [ref_use hA.ok] at s2
  have D : Done w w2 g pg y q k F R := Done.before ⟨_, _, _, _, hA.both d1 k1 (Grew.refl _ _ _) r2 s2 k2 (Grew.refl _ _ _) (ok_use hA.ok) (wt_flush hA.wt _)⟩ sA
  go_returns
  exact ⟨rfl, D⟩
/-- The code's supply alone has changed. -/
theorem Bth.supply {w w1 : World} {g pg y q k : Nat} {S : DS} {p p1 : PS} {F R : Nat → Prop} (h : Bth w g pg y q S p F R k) (k1 : Stp (fun x => x = pg) w w1) (hp : Pw w1 pg p1) : DD w1 g (.pointer (some ⟨pg, 0, none⟩)) S (some p1) F (fun x => x = pg) :=
  ⟨h.d.d.step k1 (fun x hx e => h.d.fg x hx e), ⟨pg, rfl, hp, rfl⟩, h.d.fg, fun x hx => Nat.lt_of_lt_of_le (h.d.gl x hx) k1.size⟩
/-- Both supplies have changed. -/
theorem Bth.supplies {w w1 w2 : World} {g pg y q k : Nat} {S : DS} {p p1 : PS} {F R : Nat → Prop} (h : Bth w g pg y q S p F R k) (k1 : Stp (fun x => x = pg) w w1) (hp : Pw w1 pg p1) (k2 : Stp (fun x => x = q) w1 w2) (s2 : Rw w2 q (ref p1)) (ok1 : okAt p1 (k + 1)) : Done w w2 g pg y q k F R := by
  have k1' : Stp (fun x => F x ∨ x = pg) w w1 := k1.mono (fun x hx => .inl (.inr hx))
  exact ⟨_, _, _, _, h.both (h.supply k1 hp) k1' (Grew.refl _ _ _) ((h.mid k1').1.step k2 (fun x hx e => h.rq (e ▸ hx))) s2 (k2.mono (fun x hx => .inl (.inr hx))) (Grew.refl _ _ _) ok1 (fun j => Nat.le_succ_of_le (h.wt j))⟩
set_option maxRecDepth 100000 in
theorem do_restore {w : World} {g pg y q k : Nat} {S : DS} {p : PS} {F R : Nat → Prop} (h : Bth w g pg y q S p F R k) (hk : k ≤ 100) (x : AC) (hc : among x.d 11 = 9) :
    Calls Try.prog 8 #[.pointer (some ⟨g, 0, none⟩), .pointer (some ⟨y, 0, none⟩), .pointer (some ⟨pg, 0, none⟩), .pointer (some ⟨q, 0, none⟩), .agg x.cs.toArray] w fun e w' => e = .returned (.bool true) ∧ Done w w' g pg y q k F R := by
  have sA : Stp (fun _ => False) w (w.alloc (.cells x.cs.toArray 39)) := Stp.of_alloc _ _ _
  have hA := h.step sA (fun _ _ => id)
  have hr : (w.alloc (.cells x.cs.toArray 39)).rangeAt w.heap.size 0 x.cs := made_range w _ _
  have c1 := AC.c1 hr
  have hpq := h.pq
  clear h
  go_enter Try.func8, Try.ntmps8
  go_wp2_with (first
    | (go_at_call 17; refine (among_any x.d 11 _ (by decide) (by decide)).mono ?_; rintro e u ⟨rfl, rfl⟩; rw [hc])
    | (go_at_call 27; refine (prestore_any pg p _ hA.pw).mono ?_; rintro e w1 ⟨rfl, k1, p1⟩)
    | (go_at_call 28; refine (rrestore_any q (ref p) _ (hA.s.step k1 (by simp; omega))).mono ?_; rintro e w2 ⟨rfl, k2, s2⟩))
  rw [ref_restore] at s2
  have D : Done w w2 g pg y q k F R := Done.before (hA.supplies (Stp.of_step k1 (by simp)) p1 (Stp.of_step k2 (by simp)) s2 (ok_restore hA.ok)) sA
  go_returns
  exact ⟨rfl, D⟩
set_option maxRecDepth 100000 in
theorem do_limit {w : World} {g pg y q k : Nat} {S : DS} {p : PS} {F R : Nat → Prop} (h : Bth w g pg y q S p F R k) (hk : k ≤ 100) (x : AC) (hx : (Lit.int .i64 x.t).wf = true) (hc : among x.d 11 = 8) :
    Calls Try.prog 8 #[.pointer (some ⟨g, 0, none⟩), .pointer (some ⟨y, 0, none⟩), .pointer (some ⟨pg, 0, none⟩), .pointer (some ⟨q, 0, none⟩), .agg x.cs.toArray] w fun e w' => e = .returned (.bool true) ∧ Done w w' g pg y q k F R := by
  have sA : Stp (fun _ => False) w (w.alloc (.cells x.cs.toArray 39)) := Stp.of_alloc _ _ _
  have hA := h.step sA (fun _ _ => id)
  have hr : (w.alloc (.cells x.cs.toArray 39)).rangeAt w.heap.size 0 x.cs := made_range w _ _
  have c1 := AC.c1 hr
  have c2 := AC.c2 hr
  have hpq := h.pq
  have hpl : pg < w.heap.size := h.lt pg (.inr (.inr (.inl rfl)))
  have hql : q < w.heap.size := h.lt q (.inr (.inr (.inr rfl)))
  have ht : x.t ≤ 9223372036854775807 := by have := hx; simp [Lit.wf, IntKind.min, IntKind.max, IntKind.bits, IntKind.signed] at this; omega
  clear h
  go_enter Try.func8, Try.ntmps8
  go_wp2_with (first
    | (go_at_call 17; refine (among_any x.d 11 _ (by decide) (by decide)).mono ?_; rintro e u ⟨rfl, rfl⟩; rw [hc]))
  generalize w.alloc (.cells x.cs.toArray 39) = wr at *
  have hS : ∀ w', Step [pg, q] wr w' → (Step [pg, q] wr w' ∧ w'.cell? ⟨w.heap.size, 0 + 1, none⟩ = some (.int .i64 x.t)) := fun w' h => ⟨h, h.cell c2 (by simp; omega)⟩
  go_region_held3 (fun w' => Step [pg, q] wr w' ∧ w'.cell? ⟨w.heap.size, 0 + 1, none⟩ = some (.int .i64 x.t))
    (first | assumption | exact hS _ (Step.refl _ _).drew | exact hS _ (Step.next (And.left (by assumption)) k1 (by simp)) | exact hS _ (Step.next (And.left (by assumption)) k2 (by simp)))
    (first
    | (go_at_call 25; refine (plimit_any pg p x.t _ hA.pw.drew).mono ?_; rintro e w1 ⟨rfl, k1, p1⟩)
    | (go_at_call 26; refine (rlimit_any q (ref p) x.t _ (hA.s.drew.step k1 (by simp; omega))).mono ?_; rintro e w2 ⟨rfl, k2, s2⟩))
  rw [ref_limit] at s2
  have D : Done w w2 g pg y q k F R := Done.before (hA.supplies ((Stp.refl _ wr).drew.trans (Stp.of_step k1 (by simp))) p1 (Stp.of_step k2 (by simp)) s2 (ok_limit hA.ok x.t ht)) sA
  go_wp2_with fail
  go_returns
  exact ⟨rfl, D⟩
end Go.Proofs.Ytdjkdkekcjmokaa
