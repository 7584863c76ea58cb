/-
  What a graph of layer 14 is in memory: no statement is proved here.
-/
import Derived.Test.YtdfifneikmlmoaaGreatSlG
namespace Go.Proofs.YtdfifneikmlmoaaGreat
open Go.ChangeShapes Go.WideShapes Go.ChangeAt Go.RowKit
set_option linter.unusedVariables false
set_option linter.unusedSimpArgs false

/-- The graph at g: its patches in the map at mp (they lie in E), what waits in the map at mw; F: what it may write. -/
structure Gr (w : World) (g mp mw : Nat) (f fw : Int → Option Value) (Z : GZ) (E F : Nat → Prop) : Prop where
  c : Cs w g [.int .i64 Z.last, .map (some mp), .map (some mw)]
  pm : MpI Tryz.prog 3 w mp f
  wm : MpI Tryz.prog 3 w mw fw
  ps : ∀ i p, fnd Z.l i = some p → ∃ d n : Sv, f i = some (.agg (p.cs d n).toArray) ∧ PtM w E p d n
  pn : ∀ i, fnd Z.l i = none → f i = none
  ws : ∀ s, wts Z.l s ≠ [] → ∃ v, fw s = some v ∧ OwV w v (wts Z.l s) ∧ ∀ r, v.ownBlock = some r → F r ∧ r ≠ g
  wn : ∀ s, wts Z.l s = [] → fw s = none
  ap : ∀ s s' v v' r, fw s = some v → fw s' = some v' → v.ownBlock = some r → v'.ownBlock = some r → s = s'
  fg : F g
  fm : F mp
  fw' : F mw
  ne : mp ≠ mw
  lt : ∀ x, F x → x < w.heap.size
  el : ∀ x, E x → x < w.heap.size
  ef : ∀ x, E x → ¬ F x
  ok : Z.ok 2000
section
variable {w w' : World} {g mp mw : Nat} {f fw : Int → Option Value} {Z : GZ} {E F X : Nat → Prop}
theorem Gr.step (H : Gr w g mp mw f fw Z E F) (k : Stp X w w') (hF : ∀ x, F x → ¬ X x) (hE : ∀ x, E x → ¬ X x) : Gr w' g mp mw f fw Z E F :=
  ⟨H.c.step k (hF _ H.fg), H.pm.step k (hF _ H.fm), H.wm.step k (hF _ H.fw'), fun i p hp => by
    obtain ⟨d, n, h1, h2⟩ := H.ps i p hp
    exact ⟨d, n, h1, h2.step k hE⟩, H.pn, fun s hs => by
    obtain ⟨v, h1, h2, h3⟩ := H.ws s hs
    exact ⟨v, h1, h2.step k (fun r hr => hF r (h3 r hr).1), h3⟩, H.wn, H.ap, H.fg, H.fm, H.fw', H.ne, fun x hx => Nat.lt_of_lt_of_le (H.lt x hx) k.size, fun x hx => Nat.lt_of_lt_of_le (H.el x hx) k.size, H.ef, H.ok⟩
theorem Gr.later (H : Gr w g mp mw f fw Z E F) (k : Below w.heap.size w w') : Gr w' g mp mw f fw Z E F := H.step (Stp.of_below k (fun _ => False)) (fun _ _ => id) (fun _ _ => id)
theorem Gr.cells (H : Gr w g mp mw f fw Z E F) : w.cell? ⟨g, 0, none⟩ = some (.int .i64 Z.last) ∧ w.cell? ⟨g, 1, none⟩ = some (.map (some mp)) ∧ w.cell? ⟨g, 2, none⟩ = some (.map (some mw)) :=
  ⟨H.c.cell 0 _ rfl, H.c.cell 1 _ rfl, H.c.cell 2 _ rfl⟩
/-- A number that is looked up: a patch, or noughts. -/
def gt (l : List Pt) (i : Int) : Pt := (fnd l i).getD Pt.zero
theorem Gr.look (H : Gr w g mp mw f fw Z E F) (i : Int) : ∃ d n : Sv, (f i).getD (.agg (Pt.zero.cs Sv.nil Sv.nil).toArray) = .agg ((gt Z.l i).cs d n).toArray ∧ PtM w E (gt Z.l i) d n ∧ (f i).isSome = has Z.l i := by
  rw [has_fnd]
  unfold gt
  cases h : fnd Z.l i with
  | none => rw [H.pn i h]; exact ⟨Sv.nil, Sv.nil, rfl, PtM.zero w E, rfl⟩
  | some p =>
    obtain ⟨d, n, h1, h2⟩ := H.ps i p h
    rw [h1]; exact ⟨d, n, rfl, h2, rfl⟩
/-- What waits of a sector. -/
theorem Gr.wait (H : Gr w g mp mw f fw Z E F) (s : Int) : ∃ v : Sv, (fw s).getD (.slice none 0 0) = .slice v.a v.n v.c ∧ OwV w (.slice v.a v.n v.c) (wts Z.l s) ∧ InsS w v (wts Z.l s) ∧ (∀ r, (Value.slice v.a v.n v.c).ownBlock = some r → F r ∧ r ≠ g) := by
  have hwf : ∀ x ∈ wts Z.l s, wfi x := fun x hx => by
    obtain ⟨p, h1, h2, _⟩ := wts_mem.1 hx
    have := H.ok.rng p h1
    have h3 := H.ok.lt
    exact wfi_of (by omega)
  by_cases h : wts Z.l s = []
  · rw [H.wn s h, h]; exact ⟨Sv.nil, rfl, OwV.nil w, InsS.nil w, fun r e => by cases e⟩
  · obtain ⟨v, h1, h2, h3⟩ := H.ws s h
    obtain ⟨sv, e1, e2, e3, _⟩ := h2.ins (B := 0) hwf (fun r _ => Nat.zero_le r)
    subst e1
    exact ⟨sv, by rw [h1]; rfl, h2, e3, h3⟩
theorem GZ.ok.wfp (h : Z.ok 2000) {p : Pt} (hp : p ∈ Z.l) : p.wfp := by
  obtain ⟨f1, f2, f3, f4, f5, f6, f7⟩ := fit_to (h.ft p hp)
  have := h.rng p hp
  have := h.lt
  exact ⟨wfi_of (by omega), wfi_of (by omega), wfi_of (by omega), wfi_of (by omega), (h.wf p hp).1, (h.wf p hp).2⟩
theorem uPm : Tryz.prog.underlying 74 = some (.map 3 54) := by kernel_rfl
theorem uWm : Tryz.prog.underlying 75 = some (.map 3 23) := by kernel_rfl
theorem zP (w : World) : (zeroValue 54).run Tryz.prog w = .ok (.agg (Pt.zero.cs Sv.nil Sv.nil).toArray) w := srtP.zero w
theorem zI (w : World) : (zeroValue 23).run Tryz.prog w = .ok (.slice none 0 0) w := (zero_of_info (v := .slice none 0 0) (n := 1) (by kernel_rfl)).1 w
end
section
variable {ops : Array Oper} {rest : List Oper} {o : Oper} {a : Act} {w : World} {Q : Exit → Act → World → Prop}
theorem at_look1 (T E : Nat) (hT : Tryz.prog.underlying T = some (.map 3 E)) (z : Value) (hz : ∀ w, (zeroValue E).run Tryz.prog w = .ok z w) (hw : Region.wanted o (yielded ops a.tmps) = true) (m x : Operand) (ho : o.op = .lookup T m x false) (b : Nat) (f : Int → Option Value) (hm : a.eval m = .map (some b)) (hM : MpI Tryz.prog 3 w b f) (k : Int) (hx : a.eval x = .int .i64 k) (hk : (Lit.int .i64 k).wf = true) (v : Value) (hv : (f k).getD z = v)
    (h : wpList Tryz.prog ops Q rest (a.put o.dst v) w) : wpList Tryz.prog ops Q (o :: rest) a w := by
  subst hv
  refine op_val hw _ _ ?_ h
  simp [execOp, ho, hm, hx, hM.look uIntC hT (hz w) hk]
theorem at_look2' (T E : Nat) (hT : Tryz.prog.underlying T = some (.map 3 E)) (z : Value) (hz : ∀ w, (zeroValue E).run Tryz.prog w = .ok z w) (hw : Region.wanted o (yielded ops a.tmps) = true) (m x : Operand) (ho : o.op = .lookup T m x true) (b : Nat) (f : Int → Option Value) (hm : a.eval m = .map (some b)) (hM : MpI Tryz.prog 3 w b f) (k : Int) (hx : a.eval x = .int .i64 k) (hk : (Lit.int .i64 k).wf = true) (v : Value) (hv : (f k).getD z = v) (c : Bool) (hc : (f k).isSome = c)
    (h : wpList Tryz.prog ops Q rest (a.put o.dst (.tuple #[v, .bool c])) w) : wpList Tryz.prog ops Q (o :: rest) a w := by
  subst hv; subst hc
  exact at_look2 T E hT z hz hw m x ho b f hm hM k hx hk h
end
section
variable {ops : Array Oper} {rest : List Oper} {o : Oper} {a : Act} {w : World} {Q : Exit → Act → World → Prop}
/-- 'm[k] = v'. -/
theorem at_updM (T E : Nat) (hT : Tryz.prog.underlying T = some (.map 3 E)) (hw : Region.wanted o (yielded ops a.tmps) = true) (m x y : Operand) (ho : o.op = .mapUpdate T m x y) (b : Nat) (f : Int → Option Value) (hm : a.eval m = .map (some b)) (k : Int) (hx : a.eval x = .int .i64 k) (v : Value) (hy : a.eval y = v)
    (hM : MpI Tryz.prog 3 w b f) (hf : ∀ k, (f k).isSome → 0 ≤ k ∧ k < 2048) (hk : (Lit.int .i64 k).wf = true)
    (h : ∀ w', MpI Tryz.prog 3 w' b (upd f k (some v)) → Stp (fun x => x = b) w w' → wpList Tryz.prog ops Q rest (a.put o.dst undef) w') : wpList Tryz.prog ops Q (o :: rest) a w := by
  obtain ⟨w', r1, r2, r3⟩ := hM.store uIntC hT hf hk v
  refine op_unit hw _ ?_ (h w' r2 (turned_stp r3))
  simp [execOp, ho, hm, hx, hy, r1]
end
theorem held_yes {l : List Pt} {p : Pt} {k : Nat} (h : (p.needs.take k).any (has l) = true) : held l p = true := by
  unfold held
  have := List.take_append_drop k p.needs
  rw [← this, List.any_append, h]; rfl
set_option maxRecDepth 100000 in
set_option maxHeartbeats 2000000 in
theorem held_any {w : World} {g mp mw : Nat} {f fw : Int → Option Value} {Z : GZ} {E F : Nat → Prop} (H : Gr w g mp mw f fw Z E F) (p : Pt) (d n : Sv) (h : InsS w n p.needs) (hm : p.needs.length ≤ 100000) :
    Calls Tryz.prog 69 #[.pointer (some ⟨g, 0, none⟩), .agg (p.cs d n).toArray] w fun e w' => e = .returned (.bool (held Z.l p)) ∧ Below w.heap.size w w' := by
  have tok : True := trivial
  have hl := h.i.len
  have hwf := h.i.wf
  obtain ⟨na, nn, nc⟩ := n
  go_enter Tryz.func69, Tryz.ntmps69
  go_wp2_with (first
    | (clear tok; refine at_boxP (by rfl) _ (by rfl) p d ⟨na, nn, nc⟩ (by rfl) ?_; intro g1 w1 a1 a2 r1 b1; obtain ⟨c0, c1, c2, c3, c4, c5, c6, c7, c8⟩ := Pt.cells r1; clear c0 c1 c2 c3 c4 c6 c7 c8 hl))
  clear c5
  have hl := h.i.len
  go_loopw [12] (fun v wr => ∃ k : Nat, k ≤ p.needs.length ∧ v = .int .i64 (k : Int) ∧ Below w.heap.size w wr ∧ (p.needs.take k).any (has Z.l) = false) (fun v _ => p.needs.length - (intOf v).toNat)
  case atStart => exact ⟨0, Nat.zero_le _, rfl, b1, rfl⟩
  case round =>
    obtain ⟨k, hk, rfl, hb, hn⟩ := hrel
    by_cases hlt : k < p.needs.length
    · have h2 := h.later hb
      obtain ⟨b, o, e, hcs⟩ := h2.i.cell (by simp only at hl ⊢; omega)
      have ck := hcs k (by simp only at hl ⊢; omega)
      simp only at e
      subst e
      have hw0 : wfi (p.needs.getD k 0) := by
        rw [List.getD_eq_getElem?_getD, List.getElem?_eq_getElem hlt]; exact hwf _ (List.getElem_mem _)
      have H2 := H.later hb
      obtain ⟨z0, z1, z2⟩ := H2.cells
      obtain ⟨d2, n2, e2, m2, e3⟩ := H2.look (p.needs.getD k 0)
      have hT : (p.needs.take (k + 1)).any (has Z.l) = has Z.l (p.needs.getD k 0) := by
        rw [List.take_add_one, List.getElem?_eq_getElem hlt, List.any_append, hn, List.getD_eq_getElem?_getD, List.getElem?_eq_getElem hlt]; simp
      have hT' : Hid ((p.needs.take (k + 1)).any (has Z.l) = has Z.l (p.needs.getD k 0)) := hT
      have pm := H2.pm
      clear hT hcs h2 H2 m2 hn
      generalize p.needs.getD k 0 = y at *
      generalize gt Z.l y = q at *
      have a3 : (k : Int) < (nn : Int) := by simp only at hl; omega
      have tok3 : True := trivial
      have tok4 : True := trivial
      have tok5 : True := trivial
      have hY : Hid (has Z.l y = true → held Z.l p = true) := fun e => held_yes (k := k + 1) (by rw [hT'.out, e])
      cases hc : has Z.l y with
      | true =>
        rw [hc] at e3 hT' hY
        go_wp2_with (first
          | (clear tok3; refine at_look2' 74 54 uPm _ zP (by rfl) _ _ (by rfl) mp f (by rfl) pm y (by rfl) hw0 _ e2 _ e3 ?_)
          | (clear tok4; refine at_newP (by rfl) (by rfl) ?_; intro g3 w3 a5 a6 r3 b3)
          | (clear tok5; refine at_putP (by rfl) _ _ (by rfl) g3 (by rfl) q d2 n2 (by rfl) _ r3 rfl ?_; intro w4 r4 s4))
        go_returns
        exact ⟨ret_bool (hY.out trivial).symm, ((Stp.of_below (bnext hb b3 (Nat.le_refl _)) (fun _ => False)).next s4 (fun x e => .inr (by have := hb.size; omega))).below (Nat.le_refl _) (fun x e => e.elim)⟩
      | false =>
        rw [hc] at e3 hT'
        go_wp2_with (first
          | (clear tok3; refine at_look2' 74 54 uPm _ zP (by rfl) _ _ (by rfl) mp f (by rfl) pm y (by rfl) hw0 _ e2 _ e3 ?_)
          | (clear tok4; refine at_newP (by rfl) (by rfl) ?_; intro g3 w3 a5 a6 r3 b3)
          | (clear tok5; refine at_putP (by rfl) _ _ (by rfl) g3 (by rfl) q d2 n2 (by rfl) _ r3 rfl ?_; intro w4 r4 s4))
        go_roundw
        case rel => exact ⟨k + 1, by omega, by go_num, ((Stp.of_below (bnext hb b3 (Nat.le_refl _)) (fun _ => False)).next s4 (fun x e => .inr (by have := hb.size; omega))).below (Nat.le_refl _) (fun x e => e.elim), hT'.out⟩
        case measure => simp [intOf]; omega
    · have hk' : k = p.needs.length := by omega
      subst hk'
      rw [List.take_length] at hn
      have hn' : Hid (held Z.l p = false) := hn
      clear hn
      go_wp2
      go_returns
      exact ⟨ret_bool hn'.out.symm, hb⟩
end Go.Proofs.YtdfifneikmlmoaaGreat
