/-
  What Get and Of of layer 14 return: no statement is proved here.
-/
import Derived.Test.YtigchhogclofiaaGreatRgD
namespace Go.Proofs.YtigchhogclofiaaGreat
open Go.ChangeShapes Go.WideShapes Go.ChangeAt Go.RowKit
set_option linter.unusedVariables false
set_option linter.unusedSimpArgs false

set_option maxRecDepth 100000 in
set_option maxHeartbeats 2000000 in
theorem get_any {w : World} {g mp mw : Nat} {f fw : Int → Option Value} {Z : GZ} {E F : Nat → Prop} (H : Gr w g mp mw f fw Z E F) (i : Int) (hi : wfi i) (hnl : ∀ p ∈ Z.l, p.needs.length ≤ 100000) :
    Calls Tryz.prog 45 #[.pointer (some ⟨g, 0, none⟩), .int .i64 i] w fun e w' => ∃ d n : Sv, e = .returned (.tuple #[.agg ((gt Z.l i).cs d n).toArray, .int .i64 (gE Z.l i)]) ∧ PtM w' (Made w w') (gt Z.l i) d n ∧ Below w.heap.size w w' := by
  have t1 : True := trivial
  have t2 : True := trivial
  have t3 : True := trivial
  have t4 : True := trivial
  have t5 : True := trivial
  have t6 : True := trivial
  obtain ⟨d4, n4, e4, m4, e5⟩ := H.look i
  have hdl : (gt Z.l i).data.length ≤ 100000 ∧ (gt Z.l i).needs.length ≤ 100000 := by
    unfold gt
    cases hf : fnd Z.l i with
    | none => exact ⟨Nat.zero_le _, Nat.zero_le _⟩
    | some p =>
      have := fit_to (H.ok.ft p (fnd_mem hf).1)
      exact ⟨by simp only [Option.getD_some]; omega, hnl p (fnd_mem hf).1⟩
  cases hh : has Z.l i with
  | false =>
    have eg : Hid (gt Z.l i = Pt.zero) := by
      show _ = _
      unfold gt
      rw [has_fnd] at hh
      cases hf : fnd Z.l i with
      | none => rfl
      | some p => rw [hf] at hh; cases hh
    have ee : Hid (gE Z.l i = 5) := (by unfold gE; rw [hh]; rfl : gE Z.l i = 5)
    rw [hh] at e5
    go_enter Tryz.func45, Tryz.ntmps45
    go_wp2_with (first
      | (clear t1; refine at_newP (by rfl) (by rfl) ?_; intro g1 w1 a1 a2 r1 b1; have H1 := H.later b1; obtain ⟨z0, z1, z2⟩ := H1.cells; have pm := H1.pm)
      | (clear t2; refine at_look2' 42 30 uPm _ zP (by rfl) _ _ (by rfl) mp f (by rfl) pm i (by rfl) hi _ e4 _ e5 ?_)
      | (clear t3; refine at_newP (by rfl) (by rfl) ?_; intro g2 w2 a3 a4 r2 b2)
      | (clear t4; refine at_putP (by rfl) _ _ (by rfl) g2 (by rfl) (gt Z.l i) d4 n4 (by rfl) _ r2 rfl ?_; intro w3 r3 s3; have r13 := (r1.later b2).step s3 (by omega))
      | (clear t5; refine at_putP (by rfl) _ _ (by rfl) g1 (by rfl) Pt.zero Sv.nil Sv.nil (by rfl) _ r13 rfl ?_; intro w4 r4 s4))
    refine bodyPost_ret (retCt srtP rfl rfl rfl r4 rfl) rfl ?_
    rw [eg.out, ee.out]
    exact ⟨Sv.nil, Sv.nil, rfl, PtM.zero _ _, (((Stp.of_below (bnext b1 b2 (Nat.le_refl _)) (fun _ => False)).next s3 (fun x e => .inr (by have := b1.size; omega))).next s4 (fun x e => .inr (by omega))).below (Nat.le_refl _) (fun x e => e.elim)⟩
  | true =>
    have ee : Hid (gE Z.l i = 0) := (by unfold gE; rw [hh]; rfl : gE Z.l i = 0)
    rw [hh] at e5
    generalize gt Z.l i = p at *
    go_enter Tryz.func45, Tryz.ntmps45
    go_wp2_with (first
      | (clear t1; refine at_newP (by rfl) (by rfl) ?_; intro g1 w1 a1 a2 r1 b1; have H1 := H.later b1; obtain ⟨z0, z1, z2⟩ := H1.cells; have pm := H1.pm)
      | (clear t2; refine at_look2' 42 30 uPm _ zP (by rfl) _ _ (by rfl) mp f (by rfl) pm i (by rfl) hi _ e4 _ e5 ?_)
      | (clear t3; refine at_newP (by rfl) (by rfl) ?_; intro g2 w2 a3 a4 r2 b2)
      | (clear t4; refine at_putP (by rfl) _ _ (by rfl) g2 (by rfl) p d4 n4 (by rfl) _ r2 rfl ?_; intro w3 r3 s3; have r13 := (r1.later b2).step s3 (by omega)
         have B3 : Below w.heap.size w w3 := ((Stp.of_below (bnext b1 b2 (Nat.le_refl _)) (fun _ => False)).next s3 (fun x e => .inr (by have := b1.size; omega))).below (Nat.le_refl _) (fun x e => e.elim)
         have m3 := m4.later B3)
      | (clear t5; refine at_getP0 (by rfl) _ (by rfl) g2 (by rfl) p d4 n4 r3 ?_)
      | (go_at_call 19; refine (own_any m3 hdl.1 hdl.2).mono ?_; rintro e w5 ⟨d', n', rfl, m5, b5⟩; have r5 := r13.later b5)
      | (clear t6; refine at_putP (by rfl) _ _ (by rfl) g1 (by rfl) p d' n' (by rfl) _ r5 rfl ?_; intro w6 r6 s6))
    have z1 := s6.size
    have z2 := B3.size
    have z3 := b5.size
    have z4 := r13.lt
    refine bodyPost_ret (retCt srtP rfl rfl rfl r6 rfl) rfl ?_
    rw [ee.out]
    exact ⟨d', n', rfl, (m5.step s6 (fun x hx e => by have := hx.1; omega)).mono (fun x hx => ⟨by have := hx.1; omega, by have := hx.2; omega⟩), ((Stp.of_below (bnext B3 b5 (Nat.le_refl _)) (fun _ => False)).next s6 (fun x e => .inr (by omega))).below (Nat.le_refl _) (fun x e => e.elim)⟩
set_option maxRecDepth 100000 in
set_option maxHeartbeats 2000000 in
theorem of_any {w : World} {g mp mw : Nat} {f fw : Int → Option Value} {Z : GZ} {E F : Nat → Prop} (H : Gr w g mp mw f fw Z E F) (s : Int) (hs : wfi s) (hnl : ∀ p ∈ Z.l, p.needs.length ≤ 100000) :
    Calls Tryz.prog 43 #[.pointer (some ⟨g, 0, none⟩), .int .i64 s] w fun e w' => ∃ v L', e = .returned v ∧ PoI w w' v L' (wtP Z.l s) := by
  have tok2 : True := trivial
  obtain ⟨z0, z1, z2⟩ := H.cells
  obtain ⟨⟨va, vn, vc⟩, e1, ov, iv, hob⟩ := H.wait s
  simp only at e1
  have hwm := H.wm
  go_enter Tryz.func43, Tryz.ntmps43
  go_wp2_with (first
    | (clear tok2; refine at_look1 43 28 uWm _ zI (by rfl) _ _ (by rfl) mw fw (by rfl) hwm s (by rfl) hs _ e1 ?_))
  have hvn : (wtP Z.l s).length = vn := by rw [← wts_len]; exact iv.i.len
  subst hvn
  have hfew := H.ok.fewW s
  have i0 : PoI w w (.slice none 0 0) [] ((wtP Z.l s).take 0) := ⟨⟨OwP.nil w, (fun r e => by cases e), Below.refl _ _⟩, rfl, fun t ht => by cases ht⟩
  clear hwm z0 z1 z2 e1 ov
  go_loopw [5, 17] (fun u x wr => ∃ (k : Nat) (sv : Sv) (L' : List Pe), k ≤ (wtP Z.l s).length ∧ x = .int .i64 (k : Int) ∧ u = .slice sv.a sv.n sv.c ∧ PoI w wr (.slice sv.a sv.n sv.c) L' ((wtP Z.l s).take k)) (fun _ x _ => (wtP Z.l s).length - (intOf x).toNat)
  case atStart => exact ⟨0, Sv.nil, [], Nat.zero_le _, rfl, rfl, i0⟩
  case round =>
    clear i0
    obtain ⟨k, sv, L', hk, rfl, rfl, I⟩ := hrel
    by_cases hkl : k < (wtP Z.l s).length
    · have iv4 := iv.later I.u.b
      have H4 := H.later I.u.b
      obtain ⟨b, o, e, hcs⟩ := iv4.i.cell (by simp only; omega)
      have ck := hcs k (by simp only; omega)
      rw [wts_get hkl] at ck
      simp only at e
      have hq := wtP_mem.1 (List.getElem_mem hkl)
      obtain ⟨d4, n4, e4, m4, _⟩ := H4.look ((wtP Z.l s)[k]).id
      rw [H.ok.gt_of hq.1] at e4 m4
      have hfq := fit_to (H.ok.ft _ hq.1)
      have hwq := (H.ok.wfp hq.1).i
      have hnq := hnl _ hq.1
      have hst : (wtP Z.l s).take (k + 1) = (wtP Z.l s).take k ++ [(wtP Z.l s)[k]] := by rw [List.take_add_one, List.getElem?_eq_getElem hkl]; rfl
      have hst' : Hid ((wtP Z.l s).take (k + 1) = (wtP Z.l s).take k ++ [(wtP Z.l s)[k]]) := hst
      have hLl : L'.length = k := by have := congrArg List.length I.eq; simp at this; omega
      have hbig : L'.length + 1 ≤ 1000000 := by omega
      have hdl : ((wtP Z.l s)[k]).data.length ≤ 100000 := by omega
      clear hst hLl hfq
      generalize (wtP Z.l s)[k] = q at *
      subst e
      have a9 : (k : Int) < ((wtP Z.l s).length : Int) := by omega
      have pm4 := H4.pm
      obtain ⟨z0, z1, z2⟩ := H4.cells
      have t1 : True := trivial
      have t2 : True := trivial
      have hO := own_any m4 hdl hnq
      clear hcs iv4 z0 z2
      go_wp2_with (first
        | (clear t1; refine at_look1 42 30 uPm _ zP (by rfl) _ _ (by rfl) mp f (by rfl) pm4 q.id (by rfl) hwq _ e4 ?_)
        | (go_at_call 19; refine hO.mono ?_; rintro e w5 ⟨d', n', rfl, m5, b5⟩
           have I5 := I.later b5
           have hnew := cell_new9 w5 ⟨q, d', n'⟩ 30)
        | (clear t2; refine at_bsP _ (by rfl) (by rfl) ⟨q, d', n'⟩ (by rfl) ?_)
        | (at_builtin; refine at_appR elP w.heap.size rfl _ _ (by rfl) (by rfl) (ro_later I5.u.ow ((Below.refl _ w5).alloc (Nat.le_refl _) _)) I5.u.nw (some ⟨w5.heap.size, 0, none⟩) 1 (Pe.cs ⟨q, d', n'⟩) (by rfl) (by rfl) (fun e => by cases e) (fun ad e => by injection e with e; subst e; exact hnew) (Pe.cs_one _) hbig (Nat.le_trans I5.u.b.size (by simp)) ?_; intro v' w9 hA
           have P9 := I5.app m5 I.u.b.size (fun r hr => I.u.ow.lt hr) hA
           obtain ⟨xa, xn, xc, rfl⟩ := P9.u.ow.shape'
           clear hA))
      go_roundw
      case rel => exact ⟨k + 1, ⟨xa, xn, xc⟩, L' ++ [⟨q, d', n'⟩], by omega, by go_num, rfl, by rw [hst'.out]; exact P9⟩
      case measure => simp [intOf]; omega
    · have a9 : ¬ (k : Int) < ((wtP Z.l s).length : Int) := by omega
      rw [List.take_of_length_le (by omega)] at I
      go_wp2_with fail
      go_returns
      exact ⟨_, rfl, L', I⟩
end Go.Proofs.YtigchhogclofiaaGreat
