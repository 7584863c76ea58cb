/-
  What Write of the document's disk leaves: no statement is proved here.
-/
import Derived.Test.YtecedklfdmbnpaaRfH
namespace Go.Proofs.Ytecedklfdmbnpaa
open Go.ChangeShapes Go.WideShapes Go.ChangeAt Go.RowKit
set_option linter.unusedVariables false

theorem Rk.wrote {R : Nat → Prop} {u W : World} {y q s t gg cap : Nat} {v : Nat → Value} {S : DS} (h : Rk u y q s t v S R) {i : Nat} (hi : i < S.n) (b : Blk) (bel : Below u.heap.size u W)
    (ho : W.ownsRow 0 42 64 (.slice (some ⟨gg, 0, none⟩) ((S.wt i).length + 1) cap) ((S.wt i).length + 1) (flat (S.wt i) ++ b.cs)) (hg : u.heap.size ≤ gg) (hlt : gg < W.heap.size) :
    Rk (W.setCell ⟨t, i, none⟩ (.slice (some ⟨gg, 0, none⟩) ((S.wt i).length + 1) cap)) y q s t (fun j => if j = i then .slice (some ⟨gg, 0, none⟩) ((S.wt i).length + 1) cap else v j) (S.wrote i b) (fun x => R x ∨ x = gg) := by
  have h := h.step (Stp.of_below bel (fun _ => False)) (fun _ _ => id) |> fun hW => (⟨hW, h⟩ : Rk W y q s t v S R ∧ Rk u y q s t v S R)
  obtain ⟨h, h0⟩ := h
  have ny : gg ≠ y := fun e => by have := h0.lt y h0.ry; omega
  have ns : gg ≠ s := fun e => by have := h0.lt s h0.rs; omega
  have nt : gg ≠ t := fun e => by have := h0.lt t h0.rt; omega
  have k : Stp (fun x => x = t) W (W.setCell ⟨t, i, none⟩ (.slice (some ⟨gg, 0, none⟩) ((S.wt i).length + 1) cap)) := (Stp.refl (fun x => x = t) W).setCell (p := ⟨t, i, none⟩) (.inl rfl) _
  refine ⟨k.cell h.c0 h.yt, k.cell h.c1 h.yt, k.cell h.c2 h.yt, k.cell h.c3 h.yt, by rw [k.frozen (p := ⟨y, 3, none⟩) (h.lt y h.ry) h.yt]; exact h.z3, fun j hj => k.range (h.st j hj) h.st', fun j hj => k.there (h.th j hj) h.st',
    fun j hj => ?_, fun j hj => by simpa using h.wz j hj, fun j hj => ?_, ?_, .inl h.ry, .inl h.rs, .inl h.rt, h.ys, h.yt, h.st', fun x hx => ?_, fun j hj L c e => ?_⟩
  · by_cases e : j = i
    · subst e; simp only [if_true]; exact World.cell?_setCell_same _ _ _ (h.wc j hj)
    · simp only [if_neg e]; rw [World.cell?_setCell_other _ _ _ _ (fun e' => e (by injection e' with _ e'; exact e'.symm))]; exact h.wc j hj
  · by_cases e : j = i
    · subst e
      refine ⟨some ⟨gg, 0, none⟩, cap, ?_, ?_, fun x ex => by injection ex with ex; subst ex; exact ⟨.inr rfl, ny, ns, nt⟩⟩
      · show (if j = j then Value.slice (some ⟨gg, 0, none⟩) ((S.wt j).length + 1) cap else v j) = .slice (some ⟨gg, 0, none⟩) (if (j : Int) = (j : Int) then S.wt j ++ [b] else S.wt j).length cap
        rw [if_pos rfl, if_pos rfl, List.length_append]; rfl
      · show Bls _ (some ⟨gg, 0, none⟩) (if (j : Int) = (j : Int) then S.wt j ++ [b] else S.wt j).length cap (if (j : Int) = (j : Int) then S.wt j ++ [b] else S.wt j)
        rw [if_pos rfl]
        refine Bls.own ?_ rfl
        rw [flat_snoc, List.length_append]
        exact own_step ho k (fun e => nt e)
    · obtain ⟨a, c, ev, hb, hx⟩ := h.wv j hj
      have e' : ¬ (j : Int) = (i : Int) := by omega
      refine ⟨a, c, ?_, ?_, fun x ex => ⟨.inl (hx x ex).1, (hx x ex).2⟩⟩
      · show (if j = i then Value.slice (some ⟨gg, 0, none⟩) ((S.wt i).length + 1) cap else v j) = .slice a (if (j : Int) = (i : Int) then S.wt i ++ [b] else S.wt j).length c
        rw [if_neg e, if_neg e']; exact ev
      · show Bls _ a (if (j : Int) = (i : Int) then S.wt i ++ [b] else S.wt j).length c (if (j : Int) = (i : Int) then S.wt i ++ [b] else S.wt j)
        rw [if_neg e']; exact hb.step k (fun x ex => (hx x ex).2.2.2)
  · refine ⟨h.ok.n1, h.ok.n2, h.ok.st, fun k hk => ?_⟩
    show (if k = (i : Int) then S.wt i ++ [b] else S.wt k) = []
    rw [if_neg (fun e => hk (by subst e; exact ⟨by omega, by show (i : Int) < S.n; omega⟩))]
    exact h.ok.wt k hk
  · rcases hx with hx | hx
    · exact Nat.lt_of_lt_of_le (h.lt x hx) k.size
    · subst hx; exact Nat.lt_of_lt_of_le hlt k.size
  · by_cases e' : j = i
    · simp only [if_pos e'] at e; injection e with e1; cases e1
    · simp only [if_neg e'] at e; exact h.wn j hj L c e

def DS.rwrite (S : DS) (p : RS) (i : Int) (b : Blk) : DS := if rRes S p i = 0 then (S.wrote i b).count else S
set_option maxRecDepth 100000 in
set_option maxHeartbeats 1000000 in
theorem rwrite_any {R : Nat → Prop} {w : World} {y q : Nat} {S : DS} {p : RS} (h : RD w y q S R) (hq : Rw w q p) (hqR : ¬ R q) (ok : p.ok) (i : Int) (b : Blk) (hn : (S.wt i).length < 100000) :
    Calls Try.prog 55 #[.pointer (some ⟨y, 0, none⟩), .int .i64 i, .agg b.cs.toArray] w fun e w' => e = .returned (.int .i64 (rRes S p i)) ∧ ∃ R', RD w' y q (S.rwrite p i b) R' ∧ Rw w' q (rUse S p i) ∧ Stp (fun x => R x ∨ x = q) w w' ∧ Grew R R' w w' := by
  have sA : Stp (fun _ => False) w (w.alloc (.cells b.cs.toArray 42)) := Stp.of_alloc _ _ _
  have hA := h.step sA (fun _ _ => id)
  have his := is_any hA i
  have hqA : Rw (w.alloc (.cells b.cs.toArray 42)) q p := hq.step (step_alloc w _ []) (by simp)
  unfold DS.rwrite rUse rRes
  by_cases hi : S.inn i
  · have e2 : decide (S.inn i) = true := decide_eq_true hi
    rw [e2] at his
    simp only [if_pos hi]
    obtain ⟨s, t, v, hk⟩ := hA
    have c0 := hk.c0
    have hql := hq.lt
    by_cases he : p.useErr = 0
    · simp only [if_pos he]
      obtain ⟨m, rfl⟩ := Int.eq_ofNat_of_zero_le hi.1
      have hm : m < S.n := by have := hi.2; omega
      have n2 := hk.ok.n2
      have hbx : (w.alloc (.cells b.cs.toArray 42)).rangeAt w.heap.size 0 b.cs := made_range w _ _
      have hRl : ∀ x, R x → x < w.heap.size := h.lt
      clear h e2 hi
      go_enter Try.func55, Try.ntmps55
      go_wp2_with (first
        | (go_at_call 48; refine his.mono ?_; rintro e u ⟨rfl, rfl⟩)
        | (go_at_call 66; refine (ruse_any q p _ hqA ok).mono ?_; rintro e u1 ⟨rfl, k1, p1⟩; rw [he]))
      have k1' : Stp (fun x => x = q) (w.alloc (.cells b.cs.toArray 42)) u1 := Stp.of_step k1 (by simp)
      have h1 := hk.step k1' (fun x hx e => hqR (e ▸ hx))
      have hb1 := k1'.range hbx (fun e => by omega)
      obtain ⟨a, c, ev, hB, _⟩ := h1.wv m hm
      have wc := h1.wc m hm
      rw [ev] at wc
      refine regionW (fun _ _ _ _ _ h => h) rfl rfl rfl rfl hm h1.c2 wc (h1.wz m hm) (h1.lt t h1.rt) hb1 hB (fun e => h1.wn m hm _ c (by rw [ev, e])) (by omega) ?_
      intro v25 v33 v35 gg cap W bW hoW hgW hltW
      have d3 := h1.wrote hm b bW hoW hgW hltW
      have d4 := d3.counted
      have c3 := d3.c3
      have z3 := d3.z3
      have kW : Stp R u1 (W.setCell ⟨t, m, none⟩ (.slice (some ⟨gg, 0, none⟩) ((S.wt m).length + 1) cap)) := (Stp.of_below bW R).setCell (p := ⟨t, m, none⟩) (.inl h1.rt) _
      have k4 : Stp R u1 ((W.setCell ⟨t, m, none⟩ (.slice (some ⟨gg, 0, none⟩) ((S.wt m).length + 1) cap)).setCell ⟨y, 3, none⟩ (.int .i64 (wrap64 (S.wr + 1)))) := kW.setCell (p := ⟨y, 3, none⟩) (.inl h1.ry) _
      have pS := p1.stp k4 hqR
      have kS : Stp (fun x => R x ∨ x = q) w ((W.setCell ⟨t, m, none⟩ (.slice (some ⟨gg, 0, none⟩) ((S.wt m).length + 1) cap)).setCell ⟨y, 3, none⟩ (.int .i64 (wrap64 (S.wr + 1)))) :=
        (((sA.mono (fun x hx => hx.elim)).trans (k1'.mono (fun x hx => .inl (.inr hx))))).trans (k4.mono (fun x hx => .inl (.inl hx)))
      have gG : Grew R (fun x => R x ∨ x = gg) w ((W.setCell ⟨t, m, none⟩ (.slice (some ⟨gg, 0, none⟩) ((S.wt m).length + 1) cap)).setCell ⟨y, 3, none⟩ (.int .i64 (wrap64 (S.wr + 1)))) := fun x hx => by
        rcases hx with hx | hx
        · exact .inl hx
        · subst hx
          have z1 := k1'.size
          simp at z1
          exact .inr ⟨by omega, by simpa using hltW⟩
      clear kW k4 k1' k1 p1 hk his sA hqA hb1 hB wc ev bW hoW hbx h1
      generalize (W.setCell ⟨t, m, none⟩ (.slice (some ⟨gg, 0, none⟩) ((S.wt m).length + 1) cap)) = W1 at *
      generalize Value.slice (some ⟨gg, 0, none⟩) ((S.wt m).length + 1) cap = v36
      generalize Value.slice a (S.wt m).length c = v32
      unfold rwFrame
      simp only [Act.put, List.setIfInBounds_toArray, List.set_cons_zero, List.set_cons_succ]
      go_wp2_with fail
      go_returns
      exact ⟨by rw [he]; rfl, _, ⟨s, t, _, d4⟩, pS, kS, gG⟩
    · simp only [if_neg he]
      go_enter Try.func55, Try.ntmps55
      go_wp2_with (first
        | (go_at_call 48; refine his.mono ?_; rintro e u ⟨rfl, rfl⟩)
        | (go_at_call 66; refine (ruse_any q p _ hqA ok).mono ?_; rintro e u1 ⟨rfl, k1, p1⟩))
      go_returns
      have k1' : Stp (fun x => x = q) (w.alloc (.cells b.cs.toArray 42)) u1 := Stp.of_step k1 (by simp)
      exact ⟨rfl, R, ⟨s, t, v, hk.step k1' (fun x hx e => hqR (e ▸ hx))⟩, p1, (sA.mono (fun x hx => hx.elim)).trans (k1'.mono (fun x hx => .inl (.inr hx))), Grew.refl _ _ _⟩
  · have e2 : decide (S.inn i) = false := decide_eq_false hi
    rw [e2] at his
    simp only [if_neg hi]
    rw [if_neg (by omega)]
    go_enter Try.func55, Try.ntmps55
    go_wp2_with (first
      | (go_at_call 48; refine his.mono ?_; rintro e u ⟨rfl, rfl⟩))
    go_returns
    exact ⟨rfl, R, hA, hqA, sA.mono (fun x hx => hx.elim), Grew.refl _ _ _⟩
end Go.Proofs.Ytecedklfdmbnpaa
