/-
  What Ready of layer 14 does: no statement is proved here.
-/
import Derived.Test.YtdfifneikmlmoaaGreatGrH
namespace Go.Proofs.YtdfifneikmlmoaaGreat
open Go.ChangeShapes Go.WideShapes Go.ChangeAt Go.RowKit
set_option linter.unusedVariables false
set_option linter.unusedSimpArgs false

/-- Part way: 'out' are ready, 'late' are not, of the first k. -/
structure RdI (w : World) (B g2 : Nat) (l : List Pt) (s : Int) (wr : World) (v : Value) (k : Nat) (late out : List Pt) : Prop where
  le : k ≤ (wtP l s).length
  run : rdS l [] (wtP l s) = out ++ rdS l late ((wtP l s).drop k)
  lt : ∀ q ∈ late, q ∈ wtP l s
  fl : out.length ≤ k
  ow : OwV wr v (ids out)
  nw : New B v
  bs : B ≤ wr.heap.size
  cs : Cs wr g2 (shC (shB late) (shK late))
  b : Below w.heap.size w wr
section
variable {w wr w' : World} {B g2 : Nat} {l : List Pt} {s : Int} {v : Value} {k : Nat} {late out : List Pt}
theorem RdI.later (h : RdI w B g2 l s wr v k late out) (b : Below wr.heap.size wr w') : RdI w B g2 l s w' v k late out :=
  ⟨h.le, h.run, h.lt, h.fl, h.ow.later b, h.nw, Nat.le_trans h.bs b.size, h.cs.later b, bnext h.b b (Nat.le_refl _)⟩
theorem RdI.less (h : RdI w B g2 l s wr v k late out) (hk : k < (wtP l s).length) (hc : (held l (wtP l s)[k] || late.any (fun q => meet q (wtP l s)[k])) = true) (hg : g2 < B) (hw : w.heap.size ≤ g2)
    (st : Stp (fun x => x = g2) wr w') (hC : Cs w' g2 (shC (shB (late ++ [(wtP l s)[k]])) (shK (late ++ [(wtP l s)[k]])))) : RdI w B g2 l s w' v (k + 1) (late ++ [(wtP l s)[k]]) out := by
  refine ⟨hk, ?_, ?_, by have := h.fl; omega, h.ow.step st (fun r hr e => by have := h.nw r hr; omega), h.nw, Nat.le_trans h.bs st.size, hC, ?_⟩
  · rw [h.run, List.drop_eq_getElem_cons hk, rdS, if_pos hc]
  · intro q hq
    rcases List.mem_append.1 hq with h1 | h1
    · exact h.lt q h1
    · rw [List.mem_singleton.1 h1]; exact List.getElem_mem hk
  · exact ((Stp.of_below h.b (fun _ => False)).next st (fun x e => .inr (by omega))).below (Nat.le_refl _) (fun x e => e.elim)
theorem RdI.more {v' : Value} {w1 : World} (h : RdI w B g2 l s wr v k late out) (hk : k < (wtP l s).length) (hc : (held l (wtP l s)[k] || late.any (fun q => meet q (wtP l s)[k])) = false) (hg : g2 < B) (hw : w.heap.size ≤ g2) (b1 : Below wr.heap.size wr w1)
    (hA : Apd w1 B 3 1 v (ids out).length 1 ((ids out).map (Value.int .i64) ++ [.int .i64 ((wtP l s)[k]).id]) v' w') : RdI w B g2 l s w' v' (k + 1) late (out ++ [(wtP l s)[k]]) := by
  obtain ⟨h1, h2, h3, h4, _⟩ := hA
  have h' := h.later b1
  refine ⟨hk, ?_, h.lt, by have := h.fl; simp; omega, ?_, h2, Nat.le_trans h'.bs h4.size, h'.cs.step h4 (fun e => by have := h.nw g2 e; omega), ?_⟩
  · rw [h.run, List.drop_eq_getElem_cons hk, rdS, if_neg (by rw [hc]; simp)]; simp
  · have e : ids (out ++ [(wtP l s)[k]]) = ids out ++ [((wtP l s)[k]).id] := by unfold ids; simp
    unfold OwV
    rw [e]; simpa using h1
  · exact ((Stp.of_below h'.b (fun _ => False)).next h4 (fun x e => .inr (by have := h.nw x e; omega))).below (Nat.le_refl _) (fun x e => e.elim)
end
set_option maxRecDepth 100000 in
set_option maxHeartbeats 4000000 in
theorem ready_any {w : World} {g mp mw : Nat} {f fw : Int → Option Value} {Z : GZ} {E F : Nat → Prop} (H : Gr w g mp mw f fw Z E F) (s : Int) (hs : wfi s) (hnl : ∀ p ∈ Z.l, p.needs.length ≤ 100000) :
    Calls Tryz.prog 41 #[.pointer (some ⟨g, 0, none⟩), .int .i64 s] w fun e w' => ∃ v, e = .returned v ∧ OwV w' v (rdy Z.l s) ∧ New w.heap.size v ∧ Below w.heap.size w w' := by
  have tok : True := trivial
  have tok2 : True := trivial
  obtain ⟨z0, z1, z2⟩ := H.cells
  obtain ⟨⟨va, vn, vc⟩, e1, ov, iv, hob⟩ := H.wait s
  simp only at e1
  go_enter Tryz.func41, Tryz.ntmps41
  go_wp2_with (first
    | (clear tok; refine at_newC 96 2 _ srtS (by rfl) (by rfl) ?_; intro g2 w2 a3 a4 r2 b2; have H2 := H.later b2; have hwm := H2.wm; clear z0 z1 z2; obtain ⟨z0, z1, z2⟩ := H2.cells)
    | (clear tok2; refine at_look1 75 23 uWm _ zI (by rfl) _ _ (by rfl) mw fw (by rfl) hwm s (by rfl) hs _ e1 ?_))
  have hvn : (wtP Z.l s).length = vn := by rw [← wts_len]; exact iv.i.len
  subst hvn
  have hfew := H.ok.fewW s
  have i0 : RdI w w2.heap.size g2 Z.l s w2 (.slice none 0 0) 0 [] [] := ⟨Nat.zero_le _, rfl, (fun q hq => by cases hq), Nat.le_refl _, OwV.nil w2, (fun r e => by cases e), Nat.le_refl _, r2, b2⟩
  clear hwm z0 z1 z2 e1 ov
  go_loopw [5, 19] (fun v x wr => ∃ (k : Nat) (late out : List Pt) (sv : Sv), x = .int .i64 (k : Int) ∧ v = .slice sv.a sv.n sv.c ∧ RdI w w2.heap.size g2 Z.l s wr (.slice sv.a sv.n sv.c) k late out) (fun _ x _ => (wtP Z.l s).length - (intOf x).toNat)
  case atStart => exact ⟨0, [], [], Sv.nil, rfl, rfl, i0⟩
  case round =>
    obtain ⟨k, late, out, sv, rfl, rfl, I⟩ := hrel
    by_cases hkl : k < (wtP Z.l s).length
    · have iv4 := iv.later I.b
      have H4 := H.later I.b
      obtain ⟨b, o, e, hcs⟩ := iv4.i.cell (by simp only; omega)
      have ck := hcs k (by simp only; omega)
      rw [wts_get hkl] at ck
      simp only at e
      have hq := wtP_mem.1 (List.getElem_mem hkl)
      obtain ⟨d4, n4, e4, m4, _⟩ := H4.look ((wtP Z.l s)[k]).id
      rw [H.ok.gt_of hq.1] at e4 m4
      have hfq := H.ok.ft _ hq.1
      have hwq := (H.ok.wfp hq.1).i
      have hnq := hnl _ hq.1
      have hsh := sh_lt late (fun q hq => H.ok.ft q (wtP_mem.1 (I.lt q hq)).1)
      have hmt := mtS_is (wtP Z.l s)[k] hfq late (fun r hr => ⟨H.ok.ft r (wtP_mem.1 (I.lt r hr)).1, by rw [(wtP_mem.1 (I.lt r hr)).2.1, hq.2.1]⟩)
      have hx1 : oB (shB late) (wtP Z.l s)[k] = shB (late ++ [(wtP Z.l s)[k]]) := by rw [shB_snoc]; rfl
      have hx2 : oK (shK late) (wtP Z.l s)[k] = shK (late ++ [(wtP Z.l s)[k]]) := by rw [shK_snoc]; rfl
      have nxL := fun w6 (I6 : RdI w w2.heap.size g2 Z.l s w6 (.slice sv.a sv.n sv.c) k late out) hc w7 => I6.less (w' := w7) hkl hc a4 a3
      have nxM := fun w6 (I6 : RdI w w2.heap.size g2 Z.l s w6 (.slice sv.a sv.n sv.c) k late out) hc v' w1 w7 => I6.more (v' := v') (w1 := w1) (w' := w7) hkl hc a4 a3
      have hW := with_any (shB late) (shK late) (wtP Z.l s)[k] d4 n4
      have hM := meets_any (shB late) (shK late) (wtP Z.l s)[k] d4 n4
      generalize (wtP Z.l s)[k] = q at *
      subst e
      have a9 : (k : Int) < ((wtP Z.l s).length : Int) := by omega
      have pm4 := H4.pm
      obtain ⟨z0, z1, z2⟩ := H4.cells
      have t1 : True := trivial
      have t2 : True := trivial
      have t3 : True := trivial
      have t4 : True := trivial
      have t5 : True := trivial
      have t6 : True := trivial
      have t7 : True := trivial
      have t8 : True := trivial
      have t9 : True := trivial
      clear hcs iv4 z0 z2
      have hbig : (ids out).length + 1 ≤ 1000000 := by have := I.fl; unfold ids; simp; omega
      have key : ∀ w5 w6 g5, wr.heap.size ≤ g5 → Below wr.heap.size wr w5 → Stp (fun x => x = g5) w5 w6 → Below wr.heap.size wr w6 := fun w5 w6 g5 h1 h2 h3 =>
        ((Stp.of_below h2 (fun _ => False)).next h3 (fun x e => .inr (by omega))).below (Nat.le_refl _) (fun x e => e.elim)
      cases hh : held Z.l q with
      | true =>
        have hcc : (held Z.l q || late.any fun r => meet r q) = true := by rw [hh]; rfl
        clear t5 t6
        go_wp2_with (first
          | (clear t1; refine at_look1 74 54 uPm _ zP (by rfl) _ _ (by rfl) mp f (by rfl) pm4 q.id (by rfl) hwq _ e4 ?_)
          | (clear t2; refine at_newP (by rfl) (by rfl) ?_; intro g5 w5 a5 a6 r5 b5)
          | (clear t3; refine at_putP (by rfl) _ _ (by rfl) g5 (by rfl) q d4 n4 (by rfl) _ r5 rfl ?_; intro w6 r6 s6; have b6 := key w5 w6 g5 a5 b5 s6; replace m4 := m4.later b6; replace H4 := H4.later b6; replace I := I.later b6; clear r5 s6 b5 pm4 z1 ck)
          | (clear t4; refine at_getP0 (by rfl) _ (by rfl) g5 (by rfl) q d4 n4 r6 ?_)
          | (go_at_call 69; refine (held_any H4 q d4 n4 m4.is hnq).mono ?_; rw [hh]; rintro e w7 ⟨rfl, b7⟩; replace r6 := r6.later b7; replace I := I.later b7; have cl := I.cs)
          | (clear t7; refine at_getC 96 2 _ srtS (by rfl) _ (by rfl) g2 (by rfl) _ cl rfl ?_)
          | (clear t8; refine at_getP0 (by rfl) _ (by rfl) g5 (by rfl) q d4 n4 r6 ?_)
          | (go_at_call 58; refine (hW _ hsh.1 hsh.2 hfq m4.bs.len.symm).mono ?_; rw [hx1, hx2]; rintro e w8 ⟨rfl, b8⟩; replace I := I.later b8; have cl2 := I.cs)
          | (clear t9; refine at_putC 96 2 _ srtS (by rfl) _ _ (by rfl) g2 (by rfl) _ (by rfl) rfl (shC_one _ _) _ cl2 rfl ?_; intro w9 r9 s9; have I9 := nxL _ I hcc _ s9 r9; clear nxL nxM))
        go_roundw
        case rel => exact ⟨k + 1, _, _, sv, by go_num, rfl, I9⟩
        case measure => simp [intOf]; omega
      | false =>
        cases hmm : mtS (shB late) (shK late) q with
        | true =>
          have hcc : (held Z.l q || late.any fun r => meet r q) = true := by rw [hh, ← hmt, hmm]; rfl
          go_wp2_with (first
            | (clear t1; refine at_look1 74 54 uPm _ zP (by rfl) _ _ (by rfl) mp f (by rfl) pm4 q.id (by rfl) hwq _ e4 ?_)
            | (clear t2; refine at_newP (by rfl) (by rfl) ?_; intro g5 w5 a5 a6 r5 b5)
            | (clear t3; refine at_putP (by rfl) _ _ (by rfl) g5 (by rfl) q d4 n4 (by rfl) _ r5 rfl ?_; intro w6 r6 s6; have b6 := key w5 w6 g5 a5 b5 s6; replace m4 := m4.later b6; replace H4 := H4.later b6; replace I := I.later b6; clear r5 s6 b5 pm4 z1 ck)
            | (clear t4; refine at_getP0 (by rfl) _ (by rfl) g5 (by rfl) q d4 n4 r6 ?_)
            | (go_at_call 69; refine (held_any H4 q d4 n4 m4.is hnq).mono ?_; rw [hh]; rintro e w7 ⟨rfl, b7⟩; replace r6 := r6.later b7; replace I := I.later b7; have cl := I.cs)
            | (clear t5; refine at_getC 96 2 _ srtS (by rfl) _ (by rfl) g2 (by rfl) _ cl rfl ?_)
            | (clear t6; refine at_getP0 (by rfl) _ (by rfl) g5 (by rfl) q d4 n4 r6 ?_)
            | (go_at_call 57; refine (hM _ hsh.1 hsh.2 hfq m4.bs.len.symm).mono ?_; rw [hmm]; rintro e wb ⟨rfl, bb⟩; clear cl; replace r6 := r6.later bb; replace I := I.later bb; have cl := I.cs)
            | (clear t7; refine at_getC 96 2 _ srtS (by rfl) _ (by rfl) g2 (by rfl) _ cl rfl ?_)
            | (clear t8; refine at_getP0 (by rfl) _ (by rfl) g5 (by rfl) q d4 n4 r6 ?_)
            | (go_at_call 58; refine (hW _ hsh.1 hsh.2 hfq m4.bs.len.symm).mono ?_; rw [hx1, hx2]; rintro e w8 ⟨rfl, b8⟩; replace I := I.later b8; have cl2 := I.cs)
            | (clear t9; refine at_putC 96 2 _ srtS (by rfl) _ _ (by rfl) g2 (by rfl) _ (by rfl) rfl (shC_one _ _) _ cl2 rfl ?_; intro w9 r9 s9; have I9 := nxL _ I hcc _ s9 r9; clear nxL nxM))
          go_roundw
          case rel => exact ⟨k + 1, _, _, sv, by go_num, rfl, I9⟩
          case measure => simp [intOf]; omega
        | false =>
          have hcc : (held Z.l q || late.any fun r => meet r q) = false := by rw [hh, ← hmt, hmm]; rfl
          go_wp2_with (first
            | (clear t1; refine at_look1 74 54 uPm _ zP (by rfl) _ _ (by rfl) mp f (by rfl) pm4 q.id (by rfl) hwq _ e4 ?_)
            | (clear t2; refine at_newP (by rfl) (by rfl) ?_; intro g5 w5 a5 a6 r5 b5)
            | (clear t3; refine at_putP (by rfl) _ _ (by rfl) g5 (by rfl) q d4 n4 (by rfl) _ r5 rfl ?_; intro w6 r6 s6; have b6 := key w5 w6 g5 a5 b5 s6; replace m4 := m4.later b6; replace H4 := H4.later b6; replace I := I.later b6; clear r5 s6 b5 pm4 z1 ck)
            | (clear t4; refine at_getP0 (by rfl) _ (by rfl) g5 (by rfl) q d4 n4 r6 ?_)
            | (go_at_call 69; refine (held_any H4 q d4 n4 m4.is hnq).mono ?_; rw [hh]; rintro e w7 ⟨rfl, b7⟩; replace r6 := r6.later b7; replace I := I.later b7; have cl := I.cs)
            | (clear t5; refine at_getC 96 2 _ srtS (by rfl) _ (by rfl) g2 (by rfl) _ cl rfl ?_)
            | (clear t6; refine at_getP0 (by rfl) _ (by rfl) g5 (by rfl) q d4 n4 r6 ?_)
            | (go_at_call 57; refine (hM _ hsh.1 hsh.2 hfq m4.bs.len.symm).mono ?_; rw [hmm]; rintro e wb ⟨rfl, bb⟩; clear cl; replace r6 := r6.later bb; replace I := I.later bb; have cl := I.cs)
            | (at_builtin; refine at_appR elI w2.heap.size rfl _ _ (by rfl) (by rfl) (ro_later I.ow ((Below.refl _ wb).alloc (Nat.le_refl _) _)) I.nw (some ⟨wb.heap.size, 0, none⟩) 1 [.int .i64 q.id] (by rfl) (by simp) (fun e => by cases e) (fun ad e => by injection e with e; subst e; exact cell_one_new _ _ _) (by simp [Value.oneCell']) hbig (Nat.le_trans I.bs (by simp)) ?_; intro v' w9 hA; have I9 := nxM _ I hcc v' _ w9 ((Below.refl _ wb).alloc (Nat.le_refl _) _) hA; obtain ⟨xa, xn, xc, rfl⟩ := I9.ow.shape; clear nxL nxM hA))
          go_roundw
          case rel => exact ⟨k + 1, _, _, ⟨xa, xn, xc⟩, by go_num, rfl, I9⟩
          case measure => simp [intOf]; omega
    · have hk' : k = (wtP Z.l s).length := by have := I.le; omega
      have e5 : rdy Z.l s = ids out := by unfold rdy; rw [I.run, List.drop_eq_nil_of_le (by omega), rdS, List.append_nil]
      have e5' : Hid (rdy Z.l s = ids out) := e5
      clear e5
      subst hk'
      go_wp2
      go_returns
      refine ⟨_, rfl, by rw [e5'.out]; exact I.ow, fun r hr => ?_, I.b⟩
      have := I.nw r hr; have := b2.size; omega
end Go.Proofs.YtdfifneikmlmoaaGreat
