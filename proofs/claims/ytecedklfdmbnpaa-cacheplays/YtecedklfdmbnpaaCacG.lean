/-
  What Get, Put, Force, Pin and Unpin of layer 13 do: no statement is proved here.
-/
import Derived.Test.YtecedklfdmbnpaaCacF
namespace Go.Proofs.Ytecedklfdmbnpaa
open Go.ChangeShapes Go.WideShapes Go.ChangeAt Go.RowKit
set_option linter.unusedVariables false
set_option linter.unusedSimpArgs false

section
variable {w w' : World} {gc g mp : Nat} {sp ov : Value} {Z : CZ} {f f1 : Int → Option Value} {E F G E1 F1 : Nat → Prop}
/-- What was held last is put otherwise. -/
theorem Cx.hd {w2 : World} {ov1 : Value} {i : Int} {q : Pg} {r : Nat} {rs : El} {u : Pg → Pg} (H : Cx w gc g sp Z mp ov1 f1 E1 F1 G) (hn : (keys Z.l).Nodup) (hl : Z.l = (i, q) :: rs) (hr : f1 i = some (.pointer (some ⟨r, 0, none⟩))) (k : Stp (fun x => x = r) w w2) (hc : Cs w2 r (u q).cs) :
    Cx w2 gc g sp (Z.onHd u) mp ov1 f1 E1 F1 G := by
  have := H.put (q' := u q) (fnd_head hl) hr k hc
  have e : Z.onHd u = Z.setP i (u q) := by unfold CZ.onHd CZ.setP; rw [hd_set hl hn]
  rw [e]; exact this
end
set_option maxRecDepth 100000 in
set_option maxHeartbeats 2000000 in
theorem get_any {w : World} {gc g mp : Nat} {sp ov : Value} {Z : CZ} {f : Int → Option Value} {E F G : Nat → Prop} {t : Nat} (H : Cx w gc g sp Z mp ov f E F G) (ok : Z.ok t) (ht : t ≤ 10000) (i : Int) (hwi : (Lit.int .i64 i).wf = true) :
    Calls Try.prog 28 #[.pointer (some ⟨gc, 0, none⟩), .int .i64 i] w fun e w' => e = .returned (.tuple #[.agg (Z.got i).cs.toArray, .int .i64 (Z.holdE i)]) ∧ To gc g mp sp E F G (Z.hold i) w w' := by
  have hH := fun u (hu : Below w.heap.size w u) => hold_any (H.later hu) ok ht i hwi
  by_cases he : Z.holdE i = 0
  · obtain ⟨q, rs, hl⟩ := hold_head he
    have e1 : Z.got i = q.b := by unfold CZ.got; rw [if_pos he, fnd_head hl]
    have hHE : Hid (Z.got i = q.b ∧ Z.holdE i = 0) := ⟨e1, he⟩
    rw [he] at hH; clear e1 he
    go_enter Try.func28, Try.ntmps28
    go_wp2_with (first
      | (refine at_newB (by rfl) (by rfl) ?_; intro gb w1 a1 l1 r1 b1)
      | (go_at_call 49; refine (hH _ b1).mono ?_; rintro e w2 ⟨ov2, f2, E2, F2, rfl, H2, s2, gE, gF⟩
         obtain ⟨r, hr, hE2, hc⟩ := H2.page (fnd_head hl)
         rw [hp0, hr]
         have r2 : Cs w2 gb Blk.zero.cs := r1.step s2 (H.far gb a1)
         clear hH)
      | (refine at_getB (by rfl) _ (by rfl) r (by rfl) q.b (Pg.b_range hc) ?_)
      | (refine at_putB (by rfl) _ _ (by rfl) gb (by rfl) q.b (by rfl) _ r2 ?_; intro w3 r3 s3))
    have hgb : ¬ E2 gb ∧ ¬ F2 gb ∧ ¬ G gb := by
      refine ⟨fun e => ?_, fun e => ?_, fun e => ?_⟩
      · rcases gE gb e with e | e
        · exact H.far gb a1 (.inl e)
        · omega
      · rcases gF gb e with e | e
        · exact H.far gb a1 (.inr (.inl e))
        · omega
      · exact H.far gb a1 (.inr (.inr e))
    have H3 := H2.step s3 (fun x hx e => hgb.1 (e ▸ hx)) (fun x hx e => hgb.2.1 (e ▸ hx)) (fun x hx e => hgb.2.2 (e ▸ hx))
    have S2 : Stp (Al E F G) w w2 := (Stp.of_below b1 (Al E F G)).trans s2
    refine bodyPost_ret (retBt Try.results28 rfl rfl r3) rfl ⟨by obtain ⟨q1, q2⟩ := hHE.out; rw [q1, q2]; rfl, ov2, f2, E2, F2, H3, S2.next s3 (fun x e => .inr (by rw [e]; exact a1)), Grew.trans (b := w2) (gE.pre b1.size) (Grew.refl _ _ _) S2.size s3.size, Grew.trans (b := w2) (gF.pre b1.size) (Grew.refl _ _ _) S2.size s3.size⟩
  · have e1 : Z.got i = Blk.zero := by unfold CZ.got; rw [if_neg he]
    have hHE : Hid (Z.got i = Blk.zero) := e1
    clear e1
    go_enter Try.func28, Try.ntmps28
    go_wp2_with (first
      | (refine at_newB (by rfl) (by rfl) ?_; intro gb w1 a1 l1 r1 b1)
      | (go_at_call 49; refine (hH _ b1).mono ?_; rintro e w2 ⟨ov2, f2, E2, F2, rfl, H2, s2, gE, gF⟩
         have r2 : Cs w2 gb Blk.zero.cs := r1.step s2 (H.far gb a1)
         clear hH)
      | (refine at_build (by rfl) (by rfl) ?_)
      | (refine at_putB (by rfl) _ _ (by rfl) gb (by rfl) Blk.zero (by rfl) _ r2 ?_; intro w3 r3 s3))
    have hgb : ¬ E2 gb ∧ ¬ F2 gb ∧ ¬ G gb := by
      refine ⟨fun e => ?_, fun e => ?_, fun e => ?_⟩
      · rcases gE gb e with e | e
        · exact H.far gb a1 (.inl e)
        · omega
      · rcases gF gb e with e | e
        · exact H.far gb a1 (.inr (.inl e))
        · omega
      · exact H.far gb a1 (.inr (.inr e))
    have H3 := H2.step s3 (fun x hx e => hgb.1 (e ▸ hx)) (fun x hx e => hgb.2.1 (e ▸ hx)) (fun x hx e => hgb.2.2 (e ▸ hx))
    have S2 : Stp (Al E F G) w w2 := (Stp.of_below b1 (Al E F G)).trans s2
    refine bodyPost_ret (retBt Try.results28 rfl rfl r3) rfl ⟨by rw [hHE.out]; rfl, ov2, f2, E2, F2, H3, S2.next s3 (fun x e => .inr (by rw [e]; exact a1)), Grew.trans (b := w2) (gE.pre b1.size) (Grew.refl _ _ _) S2.size s3.size, Grew.trans (b := w2) (gF.pre b1.size) (Grew.refl _ _ _) S2.size s3.size⟩
set_option maxRecDepth 100000 in
set_option maxHeartbeats 2000000 in
theorem put_any {w : World} {gc g mp : Nat} {sp ov : Value} {Z : CZ} {f : Int → Option Value} {E F G : Nat → Prop} {t : Nat} (H : Cx w gc g sp Z mp ov f E F G) (ok : Z.ok t) (ht : t ≤ 10000) (i : Int) (hwi : (Lit.int .i64 i).wf = true) (b : Blk) :
    Calls Try.prog 24 #[.pointer (some ⟨gc, 0, none⟩), .int .i64 i, .agg b.cs.toArray] w fun e w' => e = .returned (.int .i64 (Z.holdE i)) ∧ To gc g mp sp E F G (Z.put i b) w w' := by
  have hH := fun u (hu : Below w.heap.size w u) => hold_any (H.later hu) ok ht i hwi
  by_cases he : Z.holdE i = 0
  · obtain ⟨q, rs, hl⟩ := hold_head he
    have e1 : Z.put i b = (Z.hold i).onHd (fun q => ⟨b, true, q.pn⟩) := by unfold CZ.put; rw [if_pos he]
    have hHE : Hid (Z.put i b = (Z.hold i).onHd (fun q => ⟨b, true, q.pn⟩) ∧ Z.holdE i = 0) := ⟨e1, he⟩
    rw [he] at hH; clear e1 he
    have okh := ok.hold i
    go_enter Try.func24, Try.ntmps24
    go_wp2_with (first
      | (refine at_boxB (by rfl) _ (by rfl) b (by rfl) ?_; intro gb w1 a1 l1 r1 b1)
      | (go_at_call 49; refine (hH _ b1).mono ?_; rintro e w2 ⟨ov2, f2, E2, F2, rfl, H2, s2, gE, gF⟩
         obtain ⟨r, hr, hE2, hc⟩ := H2.page (fnd_head hl)
         rw [hp0, hr]
         have r2 : Cs w2 gb b.cs := r1.step s2 (H.far gb a1)
         clear hH)
      | (refine at_getB (by rfl) _ (by rfl) gb (by rfl) b r2.range ?_)
      | (refine at_putP (by rfl) _ _ (by rfl) r (by rfl) b (by rfl) q hc ?_; intro w3 r3 s3
         have x3 := Pg.ch_cell r3
         have v3 := r3.frozen 64))
    go_returns
    have s4 : Stp (fun x => x = r) w3 (w3.setCell ⟨r, 64, none⟩ (.bool true)) := (Stp.refl (fun x => x = r) w3).setCell (p := ⟨r, 64, none⟩) (.inl rfl) _
    have s5 := s3.trans s4
    have H3 := H2.hd (u := fun q => ⟨b, true, q.pn⟩) okh.nd hl hr s5 (Pg.set_ch r3 true)
    have S2 : Stp (Al E F G) w w2 := (Stp.of_below b1 (Al E F G)).trans s2
    refine ⟨by obtain ⟨q1, q2⟩ := hHE.out; rw [q2]; rfl, ov2, f2, E2, F2, by rw [hHE.out.1]; exact H3, S2.next s5 (fun x e => ?_), Grew.trans (b := w2) (gE.pre b1.size) (Grew.refl _ _ _) S2.size s5.size, Grew.trans (b := w2) (gF.pre b1.size) (Grew.refl _ _ _) S2.size s5.size⟩
    subst e
    rcases gE _ hE2 with e | e
    · exact .inl (.inl e)
    · exact .inr (Nat.le_trans b1.size e.1)
  · have e1 : Z.put i b = Z.hold i := by unfold CZ.put; rw [if_neg he]
    have hHE : Hid (Z.put i b = Z.hold i) := e1
    clear e1
    go_enter Try.func24, Try.ntmps24
    go_wp2_with (first
      | (refine at_boxB (by rfl) _ (by rfl) b (by rfl) ?_; intro gb w1 a1 l1 r1 b1)
      | (go_at_call 49; refine (hH _ b1).mono ?_; rintro e w2 ⟨ov2, f2, E2, F2, rfl, H2, s2, gE, gF⟩))
    go_returns
    exact ⟨rfl, ov2, f2, E2, F2, by rw [hHE.out]; exact H2, (Stp.of_below b1 (Al E F G)).trans s2, gE.pre b1.size, gF.pre b1.size⟩
theorem pin_any {w : World} {gc g mp : Nat} {sp ov : Value} {Z : CZ} {f : Int → Option Value} {E F G : Nat → Prop} (H : Cx w gc g sp Z mp ov f E F G) (i : Int) (hwi : (Lit.int .i64 i).wf = true) :
    Calls Try.prog 30 #[.pointer (some ⟨gc, 0, none⟩), .int .i64 i] w fun e w' => e = .returned (.int .i64 (Z.pinE i)) ∧ To gc g mp sp E F G (Z.pin i) w w' := by
  have hfi := find_any H.cm i hwi
  cases hq : fnd Z.l i with
  | none =>
    have e3 : pgE (fnd Z.l) i = 5 := by unfold pgE; rw [hq]
    have e1 : Z.pinE i = 5 := by unfold CZ.pinE; rw [hq]
    have e2 : Z.pin i = Z := by unfold CZ.pin; rw [hq]
    rw [e3, H.cm.no i hq] at hfi; rw [e1, e2]; clear e1 e2 e3
    go_enter Try.func30, Try.ntmps30
    go_wp2_with (go_at_call 51; refine hfi.mono ?_; rintro e w1 ⟨rfl, rfl⟩)
    go_returns
    exact ⟨rfl, H.here (Stp.refl _ _)⟩
  | some q =>
    obtain ⟨r, hf, hE, hc⟩ := H.page hq
    have e3 : pgE (fnd Z.l) i = 0 := by unfold pgE; rw [hq]
    have e1 : Z.pinE i = 0 := by unfold CZ.pinE; rw [hq]
    have e2 : Z.pin i = Z.setP i ⟨q.b, q.ch, wrap64 (q.pn + 1)⟩ := by unfold CZ.pin; rw [hq]
    rw [e3, hf] at hfi; rw [e1, e2]; clear e1 e2 e3
    have x1 := Pg.pn_cell hc
    have x2 := hc.frozen 65
    go_enter Try.func30, Try.ntmps30
    go_wp2_with (go_at_call 51; refine hfi.mono ?_; rintro e w1 ⟨rfl, rfl⟩)
    go_returns
    have s4 : Stp (fun x => x = r) w (w.setCell ⟨r, 65, none⟩ (.int .i64 (wrap64 (q.pn + 1)))) := (Stp.refl (fun x => x = r) w).setCell (p := ⟨r, 65, none⟩) (.inl rfl) _
    exact ⟨rfl, (H.put hq hf s4 (Pg.set_pn hc _)).here (s4.mono (fun x e => .inl (.inl (e ▸ hE))))⟩
theorem unpin_any {w : World} {gc g mp : Nat} {sp ov : Value} {Z : CZ} {f : Int → Option Value} {E F G : Nat → Prop} (H : Cx w gc g sp Z mp ov f E F G) (i : Int) (hwi : (Lit.int .i64 i).wf = true) :
    Calls Try.prog 31 #[.pointer (some ⟨gc, 0, none⟩), .int .i64 i] w fun e w' => e = .returned (.int .i64 (Z.unpinE i)) ∧ To gc g mp sp E F G (Z.unpin i) w w' := by
  have hfi := find_any H.cm i hwi
  cases hq : fnd Z.l i with
  | none =>
    have e3 : pgE (fnd Z.l) i = 5 := by unfold pgE; rw [hq]
    have e1 : Z.unpinE i = 5 := by unfold CZ.unpinE; rw [hq]
    have e2 : Z.unpin i = Z := by unfold CZ.unpin; rw [hq]
    rw [e3, H.cm.no i hq] at hfi; rw [e1, e2]; clear e1 e2 e3
    go_enter Try.func31, Try.ntmps31
    go_wp2_with (go_at_call 51; refine hfi.mono ?_; rintro e w1 ⟨rfl, rfl⟩)
    go_returns
    exact ⟨rfl, H.here (Stp.refl _ _)⟩
  | some q =>
    obtain ⟨r, hf, hE, hc⟩ := H.page hq
    have e3 : pgE (fnd Z.l) i = 0 := by unfold pgE; rw [hq]
    rw [e3, hf] at hfi; clear e3
    have x1 := Pg.pn_cell hc
    have x2 := hc.frozen 65
    by_cases h0 : q.pn = 0
    · have e1 : Z.unpinE i = 5 := by unfold CZ.unpinE; rw [hq]; simp [h0]
      have e2 : Z.unpin i = Z := by unfold CZ.unpin; rw [hq]; simp [h0]
      rw [e1, e2]; rw [h0] at x1; clear e1 e2
      go_enter Try.func31, Try.ntmps31
      go_wp2_with (go_at_call 51; refine hfi.mono ?_; rintro e w1 ⟨rfl, rfl⟩)
      go_returns
      exact ⟨rfl, H.here (Stp.refl _ _)⟩
    · have e1 : Z.unpinE i = 0 := by unfold CZ.unpinE; rw [hq]; simp [h0]
      have e2 : Z.unpin i = Z.setP i ⟨q.b, q.ch, wrap64 (q.pn - 1)⟩ := by unfold CZ.unpin; rw [hq]; simp [h0]
      rw [e1, e2]; clear e1 e2
      go_enter Try.func31, Try.ntmps31
      go_wp2_with (go_at_call 51; refine hfi.mono ?_; rintro e w1 ⟨rfl, rfl⟩)
      go_returns
      have s4 : Stp (fun x => x = r) w (w.setCell ⟨r, 65, none⟩ (.int .i64 (wrap64 (q.pn - 1)))) := (Stp.refl (fun x => x = r) w).setCell (p := ⟨r, 65, none⟩) (.inl rfl) _
      exact ⟨rfl, (H.put hq hf s4 (Pg.set_pn hc _)).here (s4.mono (fun x e => .inl (.inl (e ▸ hE))))⟩
end Go.Proofs.Ytecedklfdmbnpaa
