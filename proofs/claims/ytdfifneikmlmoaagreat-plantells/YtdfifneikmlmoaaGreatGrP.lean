/-
  What New and Add of layer 14 do: no statement is proved here.
-/
import Derived.Test.YtdfifneikmlmoaaGreatGrO
namespace Go.Proofs.YtdfifneikmlmoaaGreat
open Go.ChangeShapes Go.WideShapes Go.ChangeAt Go.RowKit
set_option linter.unusedVariables false
set_option linter.unusedSimpArgs false

/-- The next number is given. -/
theorem Gr.bump {w w' : World} {g mp mw : Nat} {f fw : Int → Option Value} {Z : GZ} {E F : Nat → Prop} (H : Gr w g mp mw f fw Z E F) (hlt : Z.last < 2000) (k : Stp (fun x => x = g) w w') (hc : Cs w' g [.int .i64 (Z.last + 1), .map (some mp), .map (some mw)]) : Gr w' g mp mw f fw ⟨Z.last + 1, Z.l⟩ E F := by
  refine ⟨hc, H.pm.step k (H.c.notMap H.pm).symm, H.wm.step k (H.c.notMap H.wm).symm, fun i p hp => ?_, H.pn, fun s hs => ?_, H.wn, H.ap, H.fg, H.fm, H.fw', H.ne, fun x hx => Nat.lt_of_lt_of_le (H.lt x hx) k.size, fun x hx => Nat.lt_of_lt_of_le (H.el x hx) k.size, H.ef, ?_⟩
  · obtain ⟨d, n, h1, h2⟩ := H.ps i p hp
    exact ⟨d, n, h1, h2.step k (fun x hx e => H.ef x hx (e ▸ H.fg))⟩
  · obtain ⟨v, h1, h2, h3⟩ := H.ws s hs
    exact ⟨v, h1, h2.step k (fun r hr => (h3 r hr).2), h3⟩
  · exact ⟨H.ok.srt, fun p hp => by have := H.ok.rng p hp; simp only; omega, H.ok.ft, H.ok.nds, H.ok.wf, by have := H.ok.l0; simp only; omega, by simp only; omega⟩
theorem GZ.ok.add {Z : GZ} {t : Int} (h : Z.ok t) {p : Pt} (h1 : ∀ q ∈ Z.l, q.id < p.id) (h2 : 1 ≤ p.id ∧ p.id ≤ Z.last) (h3 : fit p = true) (h4 : ∀ x ∈ p.needs, 1 ≤ x ∧ x < p.id) (h5 : wfi p.own ∧ wfi p.child) : (GZ.mk Z.last (Z.l ++ [p])).ok t := by
  have mem : ∀ {P : Pt → Prop}, (∀ q ∈ Z.l, P q) → P p → ∀ q ∈ Z.l ++ [p], P q := fun ha hb q hq => by
    rcases List.mem_append.1 hq with hq | hq
    · exact ha q hq
    · rw [List.mem_singleton.1 hq]; exact hb
  refine ⟨?_, mem h.rng h2, mem h.ft h3, mem h.nds h4, mem h.wf h5, h.l0, h.lt⟩
  exact List.pairwise_append.2 ⟨h.srt, List.pairwise_singleton _ _, fun a ha b hb => by rw [List.mem_singleton.1 hb]; exact h1 a ha⟩
/-- A patch more: both maps have turned. -/
theorem Gr.added {w w1 w2 w3 : World} {g mp mw : Nat} {f fw : Int → Option Value} {Z : GZ} {E F E0 : Nat → Prop} (H : Gr w g mp mw f fw Z E F) {p : Pt} {d n : Sv} {v v' : Value} (h1 : ∀ q ∈ Z.l, q.id < p.id) (h2 : 1 ≤ p.id ∧ p.id ≤ Z.last) (h3 : fit p = true) (h4 : ∀ x ∈ p.needs, 1 ≤ x ∧ x < p.id) (h5 : wfi p.own ∧ wfi p.child) (hw : p.wr = false)
    (hpm : PtM w E0 p d n) (hE0 : ∀ x, E0 x → x < w.heap.size ∧ ¬ F x) (hv : (fw p.at').getD (.slice none 0 0) = v)
    (s1 : Stp (fun x => x = mp) w w1) (m1 : MpI Tryz.prog 3 w1 mp (upd f p.id (some (.agg (p.cs d n).toArray)))) (s2 : Stp (fun x => v.ownBlock = some x) w1 w2) (o2 : OwV w2 v' (wts Z.l p.at' ++ [p.id])) (hb : ∀ r, v'.ownBlock = some r → v.ownBlock = some r ∨ (w1.heap.size ≤ r ∧ r < w2.heap.size))
    (s3 : Stp (fun x => x = mw) w2 w3) (m3 : MpI Tryz.prog 3 w3 mw (upd fw p.at' (some v'))) :
    Gr w3 g mp mw (upd f p.id (some (.agg (p.cs d n).toArray))) (upd fw p.at' (some v')) ⟨Z.last, Z.l ++ [p]⟩ (fun x => E x ∨ E0 x) (fun x => F x ∨ v'.ownBlock = some x) ∧ Stp F w w3 ∧ Grew F (fun x => F x ∨ v'.ownBlock = some x) w w3 := by
  have hvo : ∀ r, v.ownBlock = some r → F r ∧ r ≠ g ∧ ∃ u, fw p.at' = some u ∧ u.ownBlock = some r := fun r hr => by
    by_cases he : wts Z.l p.at' = []
    · rw [H.wn _ he] at hv; subst hv; cases hr
    · obtain ⟨u, e1, e2, e3⟩ := H.ws _ he
      rw [e1] at hv
      have hv' : u = v := hv
      subst hv'
      exact ⟨(e3 r hr).1, (e3 r hr).2, u, e1, hr⟩
  have hvm : v.ownBlock ≠ some mp ∧ v.ownBlock ≠ some mw := by
    by_cases he : wts Z.l p.at' = []
    · rw [H.wn _ he] at hv; subst hv; exact ⟨(fun e => by cases e), (fun e => by cases e)⟩
    · obtain ⟨u, e1, e2, e3⟩ := H.ws _ he
      rw [e1] at hv
      have hv' : u = v := hv
      subst hv'
      exact ⟨e2.map_ne H.pm, e2.map_ne H.wm⟩
  have sF : Stp F w w3 := ((s1.mono (fun x e => .inl (e ▸ H.fm))).next s2 (fun x e => .inl (hvo x e).1)).next s3 (fun x e => .inl (e ▸ H.fw'))
  have hnew : ∀ r, v'.ownBlock = some r → F r ∨ (w.heap.size ≤ r ∧ r < w3.heap.size) := fun r hr => by
    rcases hb r hr with e | e
    · exact .inl (hvo r e).1
    · exact .inr ⟨Nat.le_trans s1.size e.1, Nat.lt_of_lt_of_le e.2 s3.size⟩
  have hG : Grew F (fun x => F x ∨ v'.ownBlock = some x) w w3 := fun x hx => by
    rcases hx with hx | hx
    · exact .inl hx
    · exact hnew x hx
  have hng : v'.ownBlock ≠ some g := fun e => by
    rcases hb g e with e | e
    · exact (hvo g e).2.1 rfl
    · have := H.lt g H.fg; have := s1.size; omega
  have hid : ∀ q ∈ Z.l, q.id ≠ p.id := fun q hq => by have := h1 q hq; omega
  have eW : ∀ s, wts (Z.l ++ [p]) s = if s = p.at' then wts Z.l s ++ [p.id] else wts Z.l s := fun s => wts_snoc Z.l p s hw
  refine ⟨⟨((H.c.step s1 (H.c.notMap H.pm)).step s2 (fun e => (hvo g e).2.1 rfl)).step s3 (H.c.notMap H.wm), (m1.step s2 hvm.1).step s3 H.ne, m3, fun i q hq => ?_, fun i hi => ?_, fun s hs => ?_, fun s hs => ?_, ?_, .inl H.fg, .inl H.fm, .inl H.fw', H.ne, fun x hx => ?_, fun x hx => ?_, fun x hx hF => ?_, H.ok.add h1 h2 h3 h4 h5⟩, sF, hG⟩
  · simp only at hq
    rw [fnd_snoc rfl hid] at hq
    unfold upd
    by_cases e : i = p.id
    · rw [if_pos e] at hq ⊢
      injection hq with hq; subst hq
      exact ⟨d, n, rfl, (hpm.step sF (fun x hx => (hE0 x hx).2)).mono (fun x hx => .inr hx)⟩
    · rw [if_neg e] at hq ⊢
      obtain ⟨d', n', h1, h2⟩ := H.ps i q hq
      exact ⟨d', n', h1, (h2.step sF H.ef).mono (fun x hx => .inl hx)⟩
  · simp only at hi
    rw [fnd_snoc rfl hid] at hi
    unfold upd
    by_cases e : i = p.id
    · rw [if_pos e] at hi; cases hi
    · rw [if_neg e] at hi ⊢; exact H.pn i hi
  · simp only at hs ⊢
    rw [eW] at hs ⊢
    unfold upd
    by_cases e : s = p.at'
    · rw [if_pos e, if_pos e]
      refine ⟨v', rfl, ?_, fun r hr => ⟨.inr hr, fun e2 => hng (e2 ▸ hr)⟩⟩
      rw [e]
      exact o2.step s3 (fun r hr e2 => by
        rcases hb r hr with e3 | e3
        · exact hvm.2 (by rw [e3, e2])
        · have := H.lt mw H.fw'; have := s1.size; omega)
    · rw [if_neg e] at hs
      rw [if_neg e, if_neg e]
      obtain ⟨u, q1, q2, q3⟩ := H.ws s hs
      refine ⟨u, q1, ((q2.step s1 (fun r hr e2 => q2.map_ne H.pm (by rw [hr, e2]))).step s2 (fun r hr e2 => ?_)).step s3 (fun r hr e2 => q2.map_ne H.wm (by rw [hr, e2])), fun r hr => ⟨.inl (q3 r hr).1, (q3 r hr).2⟩⟩
      obtain ⟨_, _, u2, e3, e4⟩ := hvo r e2
      exact e (H.ap s p.at' u u2 r q1 e3 hr e4)
  · simp only at hs
    rw [eW] at hs
    unfold upd
    by_cases e : s = p.at'
    · rw [if_pos e] at hs; simp at hs
    · rw [if_neg e] at hs ⊢; exact H.wn s hs
  · intro s s' a b r ha hb' hra hrb
    unfold upd at ha hb'
    by_cases e : s = p.at'
    · by_cases e' : s' = p.at'
      · rw [e, e']
      · rw [if_pos e] at ha; rw [if_neg e'] at hb'
        injection ha with ha; subst ha
        exfalso
        rcases hb r hra with e3 | e3
        · obtain ⟨_, _, u2, e4, e5⟩ := hvo r e3
          exact e' (H.ap s' p.at' b u2 r hb' e4 hrb e5)
        · have hne : wts Z.l s' ≠ [] := fun e6 => by rw [H.wn s' e6] at hb'; cases hb'
          obtain ⟨u, q1, q2, q3⟩ := H.ws s' hne
          rw [hb'] at q1; injection q1 with q1; subst q1
          have := H.lt r (q3 r hrb).1; have := s1.size; omega
    · by_cases e' : s' = p.at'
      · rw [if_neg e] at ha; rw [if_pos e'] at hb'
        injection hb' with hb'; subst hb'
        exfalso
        rcases hb r hrb with e3 | e3
        · obtain ⟨_, _, u2, e4, e5⟩ := hvo r e3
          exact e (H.ap s p.at' a u2 r ha e4 hra e5)
        · have hne : wts Z.l s ≠ [] := fun e6 => by rw [H.wn s e6] at ha; cases ha
          obtain ⟨u, q1, q2, q3⟩ := H.ws s hne
          rw [ha] at q1; injection q1 with q1; subst q1
          have := H.lt r (q3 r hra).1; have := s1.size; omega
      · rw [if_neg e] at ha; rw [if_neg e'] at hb'
        exact H.ap s s' a b r ha hb' hra hrb
  · rcases hx with hx | hx
    · exact Nat.lt_of_lt_of_le (H.lt x hx) sF.size
    · rcases hnew x hx with e | e
      · exact Nat.lt_of_lt_of_le (H.lt x e) sF.size
      · exact e.2
  · rcases hx with hx | hx
    · exact Nat.lt_of_lt_of_le (H.el x hx) sF.size
    · exact Nat.lt_of_lt_of_le (hE0 x hx).1 sF.size
  · rcases hx with hx | hx
    · rcases hF with hF | hF
      · exact H.ef x hx hF
      · rcases hnew x hF with e | e
        · exact H.ef x hx e
        · have := H.el x hx; omega
    · rcases hF with hF | hF
      · exact (hE0 x hx).2 hF
      · rcases hnew x hF with e | e
        · exact (hE0 x hx).2 e
        · have := (hE0 x hx).1; omega
end Go.Proofs.YtdfifneikmlmoaaGreat
