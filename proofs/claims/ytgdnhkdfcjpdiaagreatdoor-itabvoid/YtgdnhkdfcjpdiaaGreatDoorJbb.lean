/-
  Texts of my own, joined: no statement is proved here.
-/
import Derived.Test.YtgdnhkdfcjpdiaaGreatDoorJap
set_option linter.unusedSimpArgs false
set_option linter.unusedVariables false
namespace Go.Proofs.YtgdnhkdfcjpdiaaGreatDoor
open Go.ChangeShapes Go.WideShapes Go.ChangeAt Go.RowKit
structure Gr (w : World) (g mp mw : Nat) (f fw : Int → Option Value) (Z : GZ) (E F : Nat → Prop) : Prop where
  c : Cs w g [.int .i64 Z.last, .map (some mp), .map (some mw)]
  pm : MpI Tryz.prog 3 w mp f
  wm : MpI Tryz.prog 3 w mw fw
  ps : ∀ i p, fnd Z.l i = some p → ∃ d n : Sv, f i = some (.agg (p.cs d n).toArray) ∧ PtM w E p d n
  pn : ∀ i, fnd Z.l i = none → f i = none
  ws : ∀ s, wts Z.l s ≠ [] → ∃ v, fw s = some v ∧ OwV w v (wts Z.l s) ∧ ∀ r, v.ownBlock = some r → F r ∧ r ≠ g
  wn : ∀ s, wts Z.l s = [] → fw s = none
  ap : ∀ s s' v v' r, fw s = some v → fw s' = some v' → v.ownBlock = some r → v'.ownBlock = some r → s = s'
  fg : F g
  fm : F mp
  fw' : F mw
  ne : mp ≠ mw
  lt : ∀ x, F x → x < w.heap.size
  el : ∀ x, E x → x < w.heap.size
  ef : ∀ x, E x → ¬ F x
  ok : Z.ok 2000
section
variable {w w' : World} {g mp mw : Nat} {f fw : Int → Option Value} {Z : GZ} {E F X : Nat → Prop}
theorem Gr.step (H : Gr w g mp mw f fw Z E F) (k : Stp X w w') (hF : ∀ x, F x → ¬ X x) (hE : ∀ x, E x → ¬ X x) : Gr w' g mp mw f fw Z E F :=
  ⟨H.c.step k (hF _ H.fg), H.pm.step k (hF _ H.fm), H.wm.step k (hF _ H.fw'), fun i p hp => by
    obtain ⟨d, n, h1, h2⟩ := H.ps i p hp
    exact ⟨d, n, h1, h2.step k hE⟩, H.pn, fun s hs => by
    obtain ⟨v, h1, h2, h3⟩ := H.ws s hs
    exact ⟨v, h1, h2.step k (fun r hr => hF r (h3 r hr).1), h3⟩, H.wn, H.ap, H.fg, H.fm, H.fw', H.ne, fun x hx => Nat.lt_of_lt_of_le (H.lt x hx) k.size, fun x hx => Nat.lt_of_lt_of_le (H.el x hx) k.size, H.ef, H.ok⟩
theorem Gr.later (H : Gr w g mp mw f fw Z E F) (k : Below w.heap.size w w') : Gr w' g mp mw f fw Z E F := H.step (Stp.of_below k (fun _ => False)) (fun _ _ => id) (fun _ _ => id)
theorem Gr.cells (H : Gr w g mp mw f fw Z E F) : w.cell? ⟨g, 0, none⟩ = some (.int .i64 Z.last) ∧ w.cell? ⟨g, 1, none⟩ = some (.map (some mp)) ∧ w.cell? ⟨g, 2, none⟩ = some (.map (some mw)) :=
  ⟨H.c.cell 0 _ rfl, H.c.cell 1 _ rfl, H.c.cell 2 _ rfl⟩
def gt (l : List Pt) (i : Int) : Pt := (fnd l i).getD Pt.zero
theorem Gr.look (H : Gr w g mp mw f fw Z E F) (i : Int) : ∃ d n : Sv, (f i).getD (.agg (Pt.zero.cs Sv.nil Sv.nil).toArray) = .agg ((gt Z.l i).cs d n).toArray ∧ PtM w E (gt Z.l i) d n ∧ (f i).isSome = has Z.l i := by
  rw [has_fnd]
  unfold gt
  cases h : fnd Z.l i with
  | none => rw [H.pn i h]; exact ⟨Sv.nil, Sv.nil, rfl, PtM.zero w E, rfl⟩
  | some p =>
    obtain ⟨d, n, h1, h2⟩ := H.ps i p h
    rw [h1]; exact ⟨d, n, rfl, h2, rfl⟩
theorem Gr.wait (H : Gr w g mp mw f fw Z E F) (s : Int) : ∃ v : Sv, (fw s).getD (.slice none 0 0) = .slice v.a v.n v.c ∧ OwV w (.slice v.a v.n v.c) (wts Z.l s) ∧ InsS w v (wts Z.l s) ∧ (∀ r, (Value.slice v.a v.n v.c).ownBlock = some r → F r ∧ r ≠ g) := by
  have hwf : ∀ x ∈ wts Z.l s, wfi x := fun x hx => by
    obtain ⟨p, h1, h2, _⟩ := wts_mem.1 hx
    have := H.ok.rng p h1
    have h3 := H.ok.lt
    exact wfi_of (by omega)
  by_cases h : wts Z.l s = []
  · rw [H.wn s h, h]; exact ⟨Sv.nil, rfl, OwV.nil w, InsS.nil w, fun r e => by cases e⟩
  · obtain ⟨v, h1, h2, h3⟩ := H.ws s h
    obtain ⟨sv, e1, e2, e3, _⟩ := h2.ins (B := 0) hwf (fun r _ => Nat.zero_le r)
    subst e1
    exact ⟨sv, by rw [h1]; rfl, h2, e3, h3⟩
theorem GZ.ok.wfp (h : Z.ok 2000) {p : Pt} (hp : p ∈ Z.l) : p.wfp := by
  obtain ⟨f1, f2, f3, f4, f5, f6, f7⟩ := fit_to (h.ft p hp)
  have := h.rng p hp
  have := h.lt
  exact ⟨wfi_of (by omega), wfi_of (by omega), wfi_of (by omega), wfi_of (by omega), (h.wf p hp).1, (h.wf p hp).2⟩
theorem uPm : Tryz.prog.underlying 175 = some (.map 3 112) := by kernel_rfl
theorem uWm : Tryz.prog.underlying 176 = some (.map 3 34) := by kernel_rfl
theorem zP (w : World) : (zeroValue 112).run Tryz.prog w = .ok (.agg (Pt.zero.cs Sv.nil Sv.nil).toArray) w := srtP.zero w
theorem zI (w : World) : (zeroValue 34).run Tryz.prog w = .ok (.slice none 0 0) w := (zero_of_info (v := .slice none 0 0) (n := 1) (by kernel_rfl)).1 w
end
section
variable {ops : Array Oper} {rest : List Oper} {o : Oper} {a : Act} {w : World} {Q : Exit → Act → World → Prop}
theorem at_look1 (T E : Nat) (hT : Tryz.prog.underlying T = some (.map 3 E)) (z : Value) (hz : ∀ w, (zeroValue E).run Tryz.prog w = .ok z w) (hw : Region.wanted o (yielded ops a.tmps) = true) (m x : Operand) (ho : o.op = .lookup T m x false) (b : Nat) (f : Int → Option Value) (hm : a.eval m = .map (some b)) (hM : MpI Tryz.prog 3 w b f) (k : Int) (hx : a.eval x = .int .i64 k) (hk : (Lit.int .i64 k).wf = true) (v : Value) (hv : (f k).getD z = v)
    (h : wpList Tryz.prog ops Q rest (a.put o.dst v) w) : wpList Tryz.prog ops Q (o :: rest) a w := by
  subst hv
  refine op_val hw _ _ ?_ h
  simp [execOp, ho, hm, hx, hM.look uIntC hT (hz w) hk]
end
section
variable {ops : Array Oper} {rest : List Oper} {o : Oper} {a : Act} {w : World} {Q : Exit → Act → World → Prop}
theorem at_updM (T E : Nat) (hT : Tryz.prog.underlying T = some (.map 3 E)) (hw : Region.wanted o (yielded ops a.tmps) = true) (m x y : Operand) (ho : o.op = .mapUpdate T m x y) (b : Nat) (f : Int → Option Value) (hm : a.eval m = .map (some b)) (k : Int) (hx : a.eval x = .int .i64 k) (v : Value) (hy : a.eval y = v)
    (hM : MpI Tryz.prog 3 w b f) (hf : ∀ k, (f k).isSome → 0 ≤ k ∧ k < 2048) (hk : (Lit.int .i64 k).wf = true)
    (h : ∀ w', MpI Tryz.prog 3 w' b (upd f k (some v)) → Stp (fun x => x = b) w w' → wpList Tryz.prog ops Q rest (a.put o.dst undef) w') : wpList Tryz.prog ops Q (o :: rest) a w := by
  obtain ⟨w', r1, r2, r3⟩ := hM.store uIntC hT hf hk v
  refine op_unit hw _ ?_ (h w' r2 (turned_stp r3))
  simp [execOp, ho, hm, hx, hy, r1]
end
section
variable {ops : Array Oper} {o : Oper} {a : Act} {S : World → Prop}
theorem yields_M' (T E : Nat) (hT : Tryz.prog.underlying T = some (.map 3 E)) (z : Value) (hz : ∀ w, (zeroValue E).run Tryz.prog w = .ok z w) (hw : Region.wanted o (yielded ops a.tmps) = true) (m x : Operand) (ho : o.op = .lookup T m x false) (b : Nat) (f : Int → Option Value) (hm : a.eval m = .map (some b)) (k : Int) (hx : a.eval x = .int .i64 k) (hk : (Lit.int .i64 k).wf = true) (hS : ∀ w, S w → MpI Tryz.prog 3 w b f) (v : Value) (hv : (f k).getD z = v) :
    YieldsIf Tryz.prog ops S o v a := by
  subst hv; exact yields_M T E hT z hz hw m x ho b f hm k hx hk hS
end
theorem wtP_mem {l : List Pt} {s : Int} {p : Pt} : p ∈ wtP l s ↔ p ∈ l ∧ p.at' = s ∧ p.wr = false := by
  unfold wtP inS; simp [List.mem_filter]
theorem wts_len (l : List Pt) (s : Int) : (wts l s).length = (wtP l s).length := by unfold wts ids; simp
theorem wts_get {l : List Pt} {s : Int} {k : Nat} (hk : k < (wtP l s).length) : (wts l s).getD k 0 = ((wtP l s)[k]).id := by
  unfold wts ids; rw [List.getD_eq_getElem?_getD, List.getElem?_map, List.getElem?_eq_getElem hk]; rfl
theorem GZ.ok.gt_of {Z : GZ} {t : Int} (h : Z.ok t) {p : Pt} (hp : p ∈ Z.l) : gt Z.l p.id = p := by unfold gt; rw [fnd_of h.srt hp]; rfl
def Gh (w : World) (g : Nat) (Z : GZ) (E F : Nat → Prop) : Prop := ∃ mp mw f fw, Gr w g mp mw f fw Z E F
theorem Gr.keysW {w : World} {g mp mw : Nat} {f fw : Int → Option Value} {Z : GZ} {E F : Nat → Prop} (H : Gr w g mp mw f fw Z E F) : ∀ k, (fw k).isSome → 0 ≤ k ∧ k < 2048 := fun k hk => by
  by_cases h : wts Z.l k = []
  · rw [H.wn k h] at hk; cases hk
  · obtain ⟨x, hx⟩ := List.exists_mem_of_ne_nil _ h
    obtain ⟨p, h1, h2, h3, _⟩ := wts_mem.1 hx
    have := fit_to (H.ok.ft p h1)
    omega
theorem Gr.keysP {w : World} {g mp mw : Nat} {f fw : Int → Option Value} {Z : GZ} {E F : Nat → Prop} (H : Gr w g mp mw f fw Z E F) : ∀ k, (f k).isSome → 0 ≤ k ∧ k < 2048 := fun k hk => by
  cases h : fnd Z.l k with
  | none => rw [H.pn k h] at hk; cases hk
  | some p =>
    have h1 := fnd_mem h
    have := H.ok.rng p h1.1
    have := H.ok.lt
    omega
theorem Gh.later {w w' : World} {g : Nat} {Z : GZ} {E F : Nat → Prop} (h : Gh w g Z E F) (k : Below w.heap.size w w') : Gh w' g Z E F := by
  obtain ⟨mp, mw, f, fw, H⟩ := h; exact ⟨mp, mw, f, fw, H.later k⟩
theorem Gr.bump {w w' : World} {g mp mw : Nat} {f fw : Int → Option Value} {Z : GZ} {E F : Nat → Prop} (H : Gr w g mp mw f fw Z E F) (hlt : Z.last < 2000) (k : Stp (fun x => x = g) w w') (hc : Cs w' g [.int .i64 (Z.last + 1), .map (some mp), .map (some mw)]) : Gr w' g mp mw f fw ⟨Z.last + 1, Z.l⟩ E F := by
  refine ⟨hc, H.pm.step k (H.c.notMap H.pm).symm, H.wm.step k (H.c.notMap H.wm).symm, fun i p hp => ?_, H.pn, fun s hs => ?_, H.wn, H.ap, H.fg, H.fm, H.fw', H.ne, fun x hx => Nat.lt_of_lt_of_le (H.lt x hx) k.size, fun x hx => Nat.lt_of_lt_of_le (H.el x hx) k.size, H.ef, ?_⟩
  · obtain ⟨d, n, h1, h2⟩ := H.ps i p hp
    exact ⟨d, n, h1, h2.step k (fun x hx e => H.ef x hx (e ▸ H.fg))⟩
  · obtain ⟨v, h1, h2, h3⟩ := H.ws s hs
    exact ⟨v, h1, h2.step k (fun r hr => (h3 r hr).2), h3⟩
  · exact ⟨H.ok.srt, fun p hp => by have := H.ok.rng p hp; simp only; omega, H.ok.ft, H.ok.nds, H.ok.wf, by have := H.ok.l0; simp only; omega, by simp only; omega⟩
theorem GZ.ok.add {Z : GZ} {t : Int} (h : Z.ok t) {p : Pt} (h1 : ∀ q ∈ Z.l, q.id < p.id) (h2 : 1 ≤ p.id ∧ p.id ≤ Z.last) (h3 : fit p = true) (h4 : ∀ x ∈ p.needs, 1 ≤ x ∧ x < p.id) (h5 : wfi p.own ∧ wfi p.child) : (GZ.mk Z.last (Z.l ++ [p])).ok t := by
  have mem : ∀ {P : Pt → Prop}, (∀ q ∈ Z.l, P q) → P p → ∀ q ∈ Z.l ++ [p], P q := fun ha hb q hq => by
    rcases List.mem_append.1 hq with hq | hq
    · exact ha q hq
    · rw [List.mem_singleton.1 hq]; exact hb
  refine ⟨?_, mem h.rng h2, mem h.ft h3, mem h.nds h4, mem h.wf h5, h.l0, h.lt⟩
  exact List.pairwise_append.2 ⟨h.srt, List.pairwise_singleton _ _, fun a ha b hb => by rw [List.mem_singleton.1 hb]; exact h1 a ha⟩
theorem Gr.added {w w1 w2 w3 : World} {g mp mw : Nat} {f fw : Int → Option Value} {Z : GZ} {E F E0 : Nat → Prop} (H : Gr w g mp mw f fw Z E F) {p : Pt} {d n : Sv} {v v' : Value} (h1 : ∀ q ∈ Z.l, q.id < p.id) (h2 : 1 ≤ p.id ∧ p.id ≤ Z.last) (h3 : fit p = true) (h4 : ∀ x ∈ p.needs, 1 ≤ x ∧ x < p.id) (h5 : wfi p.own ∧ wfi p.child) (hw : p.wr = false)
    (hpm : PtM w E0 p d n) (hE0 : ∀ x, E0 x → x < w.heap.size ∧ ¬ F x) (hv : (fw p.at').getD (.slice none 0 0) = v)
    (s1 : Stp (fun x => x = mp) w w1) (m1 : MpI Tryz.prog 3 w1 mp (upd f p.id (some (.agg (p.cs d n).toArray)))) (s2 : Stp (fun x => v.ownBlock = some x) w1 w2) (o2 : OwV w2 v' (wts Z.l p.at' ++ [p.id])) (hb : ∀ r, v'.ownBlock = some r → v.ownBlock = some r ∨ (w1.heap.size ≤ r ∧ r < w2.heap.size))
    (s3 : Stp (fun x => x = mw) w2 w3) (m3 : MpI Tryz.prog 3 w3 mw (upd fw p.at' (some v'))) :
    Gr w3 g mp mw (upd f p.id (some (.agg (p.cs d n).toArray))) (upd fw p.at' (some v')) ⟨Z.last, Z.l ++ [p]⟩ (fun x => E x ∨ E0 x) (fun x => F x ∨ v'.ownBlock = some x) ∧ Stp F w w3 ∧ Grew F (fun x => F x ∨ v'.ownBlock = some x) w w3 := by
  have hvo : ∀ r, v.ownBlock = some r → F r ∧ r ≠ g ∧ ∃ u, fw p.at' = some u ∧ u.ownBlock = some r := fun r hr => by
    by_cases he : wts Z.l p.at' = []
    · rw [H.wn _ he] at hv; subst hv; cases hr
    · obtain ⟨u, e1, e2, e3⟩ := H.ws _ he
      rw [e1] at hv
      have hv' : u = v := hv
      subst hv'
      exact ⟨(e3 r hr).1, (e3 r hr).2, u, e1, hr⟩
  have hvm : v.ownBlock ≠ some mp ∧ v.ownBlock ≠ some mw := by
    by_cases he : wts Z.l p.at' = []
    · rw [H.wn _ he] at hv; subst hv; exact ⟨(fun e => by cases e), (fun e => by cases e)⟩
    · obtain ⟨u, e1, e2, e3⟩ := H.ws _ he
      rw [e1] at hv
      have hv' : u = v := hv
      subst hv'
      exact ⟨e2.map_ne H.pm, e2.map_ne H.wm⟩
  have sF : Stp F w w3 := ((s1.mono (fun x e => .inl (e ▸ H.fm))).next s2 (fun x e => .inl (hvo x e).1)).next s3 (fun x e => .inl (e ▸ H.fw'))
  have hnew : ∀ r, v'.ownBlock = some r → F r ∨ (w.heap.size ≤ r ∧ r < w3.heap.size) := fun r hr => by
    rcases hb r hr with e | e
    · exact .inl (hvo r e).1
    · exact .inr ⟨Nat.le_trans s1.size e.1, Nat.lt_of_lt_of_le e.2 s3.size⟩
  have hG : Grew F (fun x => F x ∨ v'.ownBlock = some x) w w3 := fun x hx => by
    rcases hx with hx | hx
    · exact .inl hx
    · exact hnew x hx
  have hng : v'.ownBlock ≠ some g := fun e => by
    rcases hb g e with e | e
    · exact (hvo g e).2.1 rfl
    · have := H.lt g H.fg; have := s1.size; omega
  have hid : ∀ q ∈ Z.l, q.id ≠ p.id := fun q hq => by have := h1 q hq; omega
  have eW : ∀ s, wts (Z.l ++ [p]) s = if s = p.at' then wts Z.l s ++ [p.id] else wts Z.l s := fun s => wts_snoc Z.l p s hw
  refine ⟨⟨((H.c.step s1 (H.c.notMap H.pm)).step s2 (fun e => (hvo g e).2.1 rfl)).step s3 (H.c.notMap H.wm), (m1.step s2 hvm.1).step s3 H.ne, m3, fun i q hq => ?_, fun i hi => ?_, fun s hs => ?_, fun s hs => ?_, ?_, .inl H.fg, .inl H.fm, .inl H.fw', H.ne, fun x hx => ?_, fun x hx => ?_, fun x hx hF => ?_, H.ok.add h1 h2 h3 h4 h5⟩, sF, hG⟩
  · simp only at hq
    rw [fnd_snoc rfl hid] at hq
    unfold upd
    by_cases e : i = p.id
    · rw [if_pos e] at hq ⊢
      injection hq with hq; subst hq
      exact ⟨d, n, rfl, (hpm.step sF (fun x hx => (hE0 x hx).2)).mono (fun x hx => .inr hx)⟩
    · rw [if_neg e] at hq ⊢
      obtain ⟨d', n', h1, h2⟩ := H.ps i q hq
      exact ⟨d', n', h1, (h2.step sF H.ef).mono (fun x hx => .inl hx)⟩
  · simp only at hi
    rw [fnd_snoc rfl hid] at hi
    unfold upd
    by_cases e : i = p.id
    · rw [if_pos e] at hi; cases hi
    · rw [if_neg e] at hi ⊢; exact H.pn i hi
  · simp only at hs ⊢
    rw [eW] at hs ⊢
    unfold upd
    by_cases e : s = p.at'
    · rw [if_pos e, if_pos e]
      refine ⟨v', rfl, ?_, fun r hr => ⟨.inr hr, fun e2 => hng (e2 ▸ hr)⟩⟩
      rw [e]
      exact o2.step s3 (fun r hr e2 => by
        rcases hb r hr with e3 | e3
        · exact hvm.2 (by rw [e3, e2])
        · have := H.lt mw H.fw'; have := s1.size; omega)
    · rw [if_neg e] at hs
      rw [if_neg e, if_neg e]
      obtain ⟨u, q1, q2, q3⟩ := H.ws s hs
      refine ⟨u, q1, ((q2.step s1 (fun r hr e2 => q2.map_ne H.pm (by rw [hr, e2]))).step s2 (fun r hr e2 => ?_)).step s3 (fun r hr e2 => q2.map_ne H.wm (by rw [hr, e2])), fun r hr => ⟨.inl (q3 r hr).1, (q3 r hr).2⟩⟩
      obtain ⟨_, _, u2, e3, e4⟩ := hvo r e2
      exact e (H.ap s p.at' u u2 r q1 e3 hr e4)
  · simp only at hs
    rw [eW] at hs
    unfold upd
    by_cases e : s = p.at'
    · rw [if_pos e] at hs; simp at hs
    · rw [if_neg e] at hs ⊢; exact H.wn s hs
  · intro s s' a b r ha hb' hra hrb
    unfold upd at ha hb'
    by_cases e : s = p.at'
    · by_cases e' : s' = p.at'
      · rw [e, e']
      · rw [if_pos e] at ha; rw [if_neg e'] at hb'
        injection ha with ha; subst ha
        exfalso
        rcases hb r hra with e3 | e3
        · obtain ⟨_, _, u2, e4, e5⟩ := hvo r e3
          exact e' (H.ap s' p.at' b u2 r hb' e4 hrb e5)
        · have hne : wts Z.l s' ≠ [] := fun e6 => by rw [H.wn s' e6] at hb'; cases hb'
          obtain ⟨u, q1, q2, q3⟩ := H.ws s' hne
          rw [hb'] at q1; injection q1 with q1; subst q1
          have := H.lt r (q3 r hrb).1; have := s1.size; omega
    · by_cases e' : s' = p.at'
      · rw [if_neg e] at ha; rw [if_pos e'] at hb'
        injection hb' with hb'; subst hb'
        exfalso
        rcases hb r hrb with e3 | e3
        · obtain ⟨_, _, u2, e4, e5⟩ := hvo r e3
          exact e (H.ap s p.at' a u2 r ha e4 hra e5)
        · have hne : wts Z.l s ≠ [] := fun e6 => by rw [H.wn s e6] at ha; cases ha
          obtain ⟨u, q1, q2, q3⟩ := H.ws s hne
          rw [ha] at q1; injection q1 with q1; subst q1
          have := H.lt r (q3 r hra).1; have := s1.size; omega
      · rw [if_neg e] at ha; rw [if_neg e'] at hb'
        exact H.ap s s' a b r ha hb' hra hrb
  · rcases hx with hx | hx
    · exact Nat.lt_of_lt_of_le (H.lt x hx) sF.size
    · rcases hnew x hx with e | e
      · exact Nat.lt_of_lt_of_le (H.lt x e) sF.size
      · exact e.2
  · rcases hx with hx | hx
    · exact Nat.lt_of_lt_of_le (H.el x hx) sF.size
    · exact Nat.lt_of_lt_of_le (hE0 x hx).1 sF.size
  · rcases hx with hx | hx
    · rcases hF with hF | hF
      · exact H.ef x hx hF
      · rcases hnew x hF with e | e
        · exact H.ef x hx e
        · have := H.el x hx; omega
    · rcases hF with hF | hF
      · exact (hE0 x hx).2 hF
      · rcases hnew x hF with e | e
        · exact (hE0 x hx).2 e
        · have := (hE0 x hx).1; omega
end Go.Proofs.YtgdnhkdfcjpdiaaGreatDoor
