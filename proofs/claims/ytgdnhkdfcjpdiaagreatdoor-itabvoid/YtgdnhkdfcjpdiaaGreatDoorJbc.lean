/-
  Texts of my own, joined: no statement is proved here.
-/
import Derived.RangeFuncNested
import Derived.RangeFuncBound
import Derived.RangeFuncCalls
import Derived.RangeFuncLeaves
import Derived.RangeFuncWrites
import Derived.Shelf.Abstract
import Derived.Shelf.RegionOpen
import Derived.OwnWalkIn
import Derived.TacticsInMore
import Derived.LoopNIn
import Derived.LoopIn
import Derived.Test.YtgdnhkdfcjpdiaaGreatDoorJbb
set_option linter.unusedSimpArgs false
set_option linter.unusedVariables false
namespace Go.Proofs.YtgdnhkdfcjpdiaaGreatDoor
open Go.ChangeShapes Go.WideShapes Go.ChangeAt Go.RowKit
theorem buildG (a b : Nat) (w : World) : (Instr.build 178 #[(1, .map (some a)), (2, .map (some b))]).run Tryz.prog w = .ok (.agg [Value.int .i64 0, .map (some a), .map (some b)].toArray) w := by kernel_rfl
section
variable {ops : Array Oper} {rest : List Oper} {o : Oper} {a : Act} {w : World} {Q : Exit → Act → World → Prop}
theorem at_bldG (hw : Region.wanted o (yielded ops a.tmps) = true) (x y : Operand) (ho : o.op = .build 178 #[(1, x), (2, y)]) (c d : Nat) (hx : a.eval x = .map (some c)) (hy : a.eval y = .map (some d))
    (h : wpList Tryz.prog ops Q rest (a.put o.dst (.agg [Value.int .i64 0, .map (some c), .map (some d)].toArray)) w) : wpList Tryz.prog ops Q (o :: rest) a w := by
  refine op_val hw _ _ ?_ h
  simp [execOp, ho, hx, hy, buildG]
end
set_option maxRecDepth 100000 in
set_option maxHeartbeats 1000000 in
theorem new_any (w : World) : Calls Tryz.prog 51 #[] w fun e w' => ∃ g, e = .returned (.pointer (some ⟨g, 0, none⟩)) ∧ ∃ E F, Gh w' g GZ.new E F ∧ (∀ x, F x → w.heap.size ≤ x) ∧ (∀ x, E x → w.heap.size ≤ x) ∧ Below w.heap.size w w' := by
  have t1 : True := trivial
  have t2 : True := trivial
  have t3 : True := trivial
  have t4 : True := trivial
  go_enter Tryz.func51, Tryz.ntmps51
  go_wp2_with (first
    | (clear t1; refine at_makeM 175 (by rfl) (by rfl) ?_; intro mp w1 a1 m1 b1)
    | (clear t2; refine at_makeM 176 (by rfl) (by rfl) ?_; intro mw w2 a2 m2 b2)
    | (clear t3; refine at_bldG (by rfl) _ _ (by rfl) mp mw (by rfl) (by rfl) ?_)
    | (clear t4; refine at_boxC 178 (by rfl) _ (by rfl) [Value.int .i64 0, .map (some mp), .map (some mw)] (by rfl) (by simp [Value.oneCell']) ?_; intro g w3 a3 a4 r3 b3))
  go_returns
  have l1 := m1.lt
  have l2 := m2.lt
  have b9 := bnext (bnext b1 b2 (Nat.le_refl _)) b3 (Nat.le_refl _)
  have z1 := b1.size
  have z2 := b2.size
  refine ⟨g, rfl, (fun _ => False), (fun x => x = g ∨ x = mp ∨ x = mw), ⟨mp, mw, _, _, ⟨r3, (m1.later b2).later b3, m2.later b3, (fun i p hp => by cases hp), fun _ _ => rfl, (fun s hs => absurd rfl hs), fun _ _ => rfl, (fun s s' v v' r h => by cases h), .inl rfl, .inr (.inl rfl), .inr (.inr rfl), by omega, fun x hx => ?_, (fun x hx => hx.elim), (fun x hx => hx.elim), ?_⟩⟩, fun x hx => ?_, (fun x hx => hx.elim), b9⟩
  · have := b3.size; rcases hx with rfl | rfl | rfl <;> omega
  · exact ⟨List.Pairwise.nil, (fun p hp => by cases hp), (fun p hp => by cases hp), (fun p hp => by cases hp), (fun p hp => by cases hp), Int.le_refl _, by show (0 : Int) ≤ 2000; omega⟩
  · rcases hx with rfl | rfl | rfl <;> omega
theorem build_one (y : Int) (w : World) : (Instr.buildSlice 34 1 #[(0, .int .i64 y)]).run Tryz.prog w = .ok (.slice (some ⟨w.heap.size, 0, none⟩) 1 1) (w.alloc (.cells #[.int .i64 y] 3)) := by kernel_rfl
theorem step_bsI {ops : Array Oper} {o : Oper} {a : Act} {w : World} {K : Act → World → Prop} {Q : Exit → Act → World → Prop} {R : Prop} (hgd : o.guard = none) (x : Operand) (ho : o.op = .buildSlice 34 1 #[(0, x)]) (y : Int) (hx : a.eval x = .int .i64 y)
    (h : K (a.put o.dst (.slice (some ⟨w.heap.size, 0, none⟩) 1 1)) (w.alloc (.cells #[.int .i64 y] 3))) : if Region.wanted o (yielded ops a.tmps) = true then Oper.wp Tryz.prog o a w K Q else R := by
  have hw : Region.wanted o (yielded ops a.tmps) = true := by simp [Region.wanted, hgd]
  rw [if_pos hw]
  have hr : (execOp a.eval o).run Tryz.prog w = .ok (.value (.slice (some ⟨w.heap.size, 0, none⟩) 1 1)) (w.alloc (.cells #[.int .i64 y] 3)) := by simp [execOp, ho, hx, build_one]
  unfold Oper.wp
  rw [hr]; exact h
set_option maxRecDepth 100000 in
set_option maxHeartbeats 4000000 in
theorem add_any {w : World} {g mp mw : Nat} {f fw : Int → Option Value} {Z : GZ} {E F X : Nat → Prop} (H : Gr w g mp mw f fw Z E F) (p : Pt) (d n : Sv) (hp : p.wfp) (hpm : PtM w X p d n) (hX : ∀ x, X x → ¬ F x) (hlt : Z.last < 2000) (hd : p.data.length ≤ 100000) (hn : p.needs.length ≤ 100000) :
    Calls Tryz.prog 71 #[.pointer (some ⟨g, 0, none⟩), .agg (p.cs d n).toArray] w fun e w' => e = .returned (.tuple #[.int .i64 (Z.addN p), .int .i64 (Z.addE p)]) ∧ ∃ E' F', Gh w' g (Z.add p) E' F' ∧ Stp F w w' ∧ Grew F F' w w' ∧ Grew E E' w w' := by
  have t1 : True := trivial
  have t2 : True := trivial
  have t3 : True := trivial
  have t4 : True := trivial
  have hF := fun w => fits_any p d n w hp hpm.bs.len.symm (by omega)
  obtain ⟨z0, z1, z2⟩ := H.cells
  have hGv := fun u (hu : Below w.heap.size w u) => given_any (hpm.is.later hu) (H.later hu).cells.1 hn
  have hl0 := H.ok.l0
  by_cases hc : Z.addOk p = true
  · have hc2 : fit p = true ∧ givn Z.last p.needs = true := by unfold GZ.addOk at hc; simpa using hc
    rw [hc2.1] at hF
    rw [hc2.2] at hGv
    have eN : Hid (Z.addN p = Z.last + 1) := by show _ = _; unfold GZ.addN; rw [if_pos hc]
    have eE : Hid (Z.addE p = 0) := by show _ = _; unfold GZ.addE; rw [if_pos hc]
    have eZ : Hid (Z.add p = ⟨Z.last + 1, Z.l ++ [{ p with id := Z.last + 1, wr := false }]⟩) := by show _ = _; unfold GZ.add; rw [if_pos hc]
    have hwl : IntKind.i64.wrap (Z.last + 1) = Z.last + 1 := by rw [IntKind.wrap_i64]; omega
    go_enter Tryz.func71, Tryz.ntmps71
    go_wp2_with (first
      | (clear t1; refine at_boxP (by rfl) _ (by rfl) p d n (by rfl) ?_; intro g1 w1 a1 a2 r1 b1; clear z0 z1 z2; have q5 := (Pt.cells r1).2.2.2.2.2.1)
      | (clear t2; refine at_getP0 (by rfl) _ (by rfl) g1 (by rfl) p d n r1 ?_)
      | (go_at_call 94; refine (hF _).mono ?_; rintro e w2 ⟨rfl, b2⟩; replace r1 := r1.later b2; clear q5; have q5 := (Pt.cells r1).2.2.2.2.2.1; have B2 := bnext b1 b2 (Nat.le_refl _); have H2 := H.later B2; obtain ⟨z0, z1, z2⟩ := H2.cells; have fz := H2.c.frozen 0)
      | (go_at_call 95; refine (hGv _ B2).mono ?_; rintro e w3 ⟨rfl, rfl⟩
         have c3 : Cs (w2.setCell ⟨g, 0, none⟩ (.int .i64 (Z.last + 1))) g [.int .i64 (Z.last + 1), .map (some mp), .map (some mw)] := H2.c.set 0 (.int .i64 (Z.last + 1)) rfl
         have s3 : Stp (fun x => x = g) w2 (w2.setCell ⟨g, 0, none⟩ (.int .i64 (Z.last + 1))) := (Stp.refl (fun x => x = g) w2).setCell (p := ⟨g, 0, none⟩) (.inl rfl) _
         have H3 := H2.bump hlt s3 c3
         have r3 := r1.step s3 (by have := H.lt g H.fg; omega)
         have m3 := (hpm.later B2).step s3 (fun x hx e => hX x hx (e ▸ H.fg)))
      | (clear t3; refine at_getP0 (by rfl) _ (by rfl) g1 (by rfl) p d n r3 ?_)
      | (go_at_call 89; refine (own_any m3 hd hn).mono ?_; rintro e w4 ⟨d', n', rfl, m4, b4⟩; have r4 := r3.later b4; have H4 := H3.later b4)
      | (clear t4; refine at_putP (by rfl) _ _ (by rfl) g1 (by rfl) p d' n' (by rfl) _ r4 rfl ?_; intro w5 r5 s5; have H5 := H4.step s5 (fun x hx e => by have := H.lt x hx; omega) (fun x hx e => by have := H.el x hx; omega); obtain ⟨y0, y1, y2⟩ := H5.cells; simp only at y0; have y3 := (Pt.cells r5).1; have y4 := (Pt.cells r5).2.2.2.2.2.2.2.2; have y5 := r5.frozen 0; have y6 := r5.frozen 8; have hgg : g1 ≠ g := (by have := H.lt g H.fg; omega)))
    have r6 : Cs ((w5.setCell ⟨g1, 0, none⟩ (.int .i64 (Z.last + 1))).setCell ⟨g1, 8, none⟩ (.bool false)) g1 (({ p with id := Z.last + 1, wr := false } : Pt).cs d' n') := (r5.set 0 (.int .i64 (Z.last + 1)) rfl).set 8 (.bool false) rfl
    have s6 : Stp (fun x => x = g1) w5 ((w5.setCell ⟨g1, 0, none⟩ (.int .i64 (Z.last + 1))).setCell ⟨g1, 8, none⟩ (.bool false)) := ((Stp.refl (fun x => x = g1) w5).setCell (p := ⟨g1, 0, none⟩) (.inl rfl) _).setCell (p := ⟨g1, 8, none⟩) (.inl rfl) _
    clear y0 y1 y2 y3 y4 y5 y6 z0 z1 z2 fz q5
    generalize (w5.setCell ⟨g1, 0, none⟩ (.int .i64 (Z.last + 1))).setCell ⟨g1, 8, none⟩ (.bool false) = w6 at *
    have hg1F : ∀ x, F x → x ≠ g1 := fun x hx e => by have := H.lt x hx; omega
    have hg1E : ∀ x, E x → x ≠ g1 := fun x hx e => by have := H.el x hx; omega
    have H6 := H5.step s6 hg1F hg1E
    have e3 : (w2.setCell ⟨g, 0, none⟩ (.int .i64 (Z.last + 1))).heap.size = w2.heap.size := by simp
    have hM1 : ∀ x, Made (w2.setCell ⟨g, 0, none⟩ (.int .i64 (Z.last + 1))) w4 x → x ≠ g1 := fun x hx e => by have h1 := hx.1; have := r1.lt; omega
    have hM2 : ∀ x, Made (w2.setCell ⟨g, 0, none⟩ (.int .i64 (Z.last + 1))) w4 x → x < w6.heap.size ∧ ¬ F x := fun x hx => by
      have h1 := hx.1; have h2 := hx.2; have := s5.size; have := s6.size; have := B2.size
      exact ⟨by omega, fun e => by have := H.lt x e; omega⟩
    have m6 : PtM w6 (Made (w2.setCell ⟨g, 0, none⟩ (.int .i64 (Z.last + 1))) w4) ({ p with id := Z.last + 1, wr := false } : Pt) d' n' := ((m4.step s5 hM1).step s6 hM1).other rfl rfl
    have SF6 : Stp F w w6 := ((((Stp.of_below B2 F).next s3 (fun x e => .inl (e ▸ H.fg))).next (Stp.of_below b4 (fun _ => False)) (fun x e => e.elim)).next s5 (fun x e => .inr (by omega))).next s6 (fun x e => .inr (by omega))
    have hgr : ∀ q ∈ Z.l, q.id < Z.last + 1 := fun q hq => by have := H.ok.rng q hq; omega
    have hnd : ∀ x ∈ p.needs, 1 ≤ x ∧ x < Z.last + 1 := fun x hx => by
      have h7 := hc2.2
      unfold givn at h7
      have := List.all_eq_true.1 h7 x hx
      simp at this; omega
    have hwl2 : wfi (Z.last + 1) := wfi_of (by omega)
    have fin := fun (w7 w8 w9 w10 : World) (u v' : Value) (h7 : Below w6.heap.size w6 w7) a1 a2 a3 a4 a5 a6 a7 a8 => (H6.later h7).added (p := { p with id := Z.last + 1, wr := false }) (w1 := w8) (w2 := w9) (w3 := w10) (v := u) (v' := v') hgr ⟨by simp only; omega, by simp only; omega⟩ hc2.1 hnd ⟨hp.w, hp.c⟩ rfl (m6.later h7) (fun x hx => ⟨Nat.lt_of_lt_of_le (hM2 x hx).1 h7.size, (hM2 x hx).2⟩) a1 a2 a3 a4 a5 a6 a7 a8
    have hps : wfi p.at' := hp.s
    simp only at fin
    generalize hpp : ({ p with id := Z.last + 1, wr := false } : Pt) = p' at *
    have ei : p'.id = Z.last + 1 := by rw [← hpp]
    have es : p'.at' = p.at' := by rw [← hpp]
    clear H5 H4 H3 r5 r4 r3 m4 m3 s5 s6 c3 hGv hF r1 H2
    refine wp_region_last (S := fun u => Below w6.heap.size w6 u) _ _ (by simp only [List.pop_toArray, List.dropLast_cons_cons, List.dropLast_singleton]; rfl) (by simp only [List.back?_toArray, List.getLast?_cons_cons, List.getLast?_singleton]; rfl) (by kernel_rfl) (by kernel_rfl) (Below.refl _ _).drew (fun hHeld => ?_)
    refine tl 0 (.pointer (some ⟨g, 0, none⟩)) rfl ?_
    try simp only [z]
    refine tl 1 (.pointer (some ⟨g, 0, none⟩)) rfl ?_
    try simp only [z]
    refine tl 2 (.pointer (some ⟨g, 1, none⟩)) rfl ?_
    try simp only [z]
    refine tl 3 (.map (some mp)) rfl ?_ (fun u hu => by have x1 := (H6.later hu).cells.2.1; go_simp)
    try simp only [z]
    refine tl 4 (.pointer (some ⟨g1, 0, none⟩)) rfl ?_
    try simp only [z]
    refine tl 5 (.int .i64 (Z.last + 1)) rfl ?_ (fun u hu => by have x1 := (Pt.cells (r6.later hu)).1; rw [ei] at x1; go_simp)
    try simp only [z]
    refine tm 6 (.agg (p'.cs d' n').toArray) rfl
      (yields_P (by rfl) _ (by rfl) g1 (by rfl) p' d' n' (fun u hu => r6.later hu)) ?_
    try simp only [z]
    refine wpAnyH_done (by kernel_rfl) ?_ _
    have H7 := H6.later hHeld
    have r7 := r6.later hHeld
    have B7 : Below w6.heap.size w6 w6.drew := hHeld
    generalize w6.drew = w7 at *
    show wpList _ _ _ [_] _ _
    refine at_updM 175 112 uPm (by rfl) _ _ _ (by rfl) mp f (by rfl) (Z.last + 1) (by rfl) _ (by rfl) H7.pm H7.keysP hwl2 ?_
    intro w8 m8 s8
    obtain ⟨⟨va, vn, vc⟩, e1, ov, iv, hob⟩ := H7.wait p.at'
    simp only at e1 ov hob
    have r8 := r7.step s8 (r7.notMap H7.pm)
    have c8 := H7.c.step s8 (H7.c.notMap H7.pm)
    have wm8 := H7.wm.step s8 (fun e => H7.ne e.symm)
    have ov8 := ov.step s8 (fun r hr e => ov.map_ne H7.pm (by rw [hr, e]))
    have hog1 : (Value.slice va vn vc).ownBlock ≠ some g1 := fun e => hg1F g1 (hob g1 e).1 rfl
    have hog : (Value.slice va vn vc).ownBlock ≠ some g := fun e => (hob g e).2 rfl
    have homw := ov8.map_ne wm8
    have hlen : (wts Z.l p.at').length + 1 ≤ 1000000 := by have := H.ok.fewW p.at'; rw [wts_len]; omega
    have hvn : vn = (wts Z.l p.at').length := iv.i.len.symm
    subst hvn
    have hlen' : Hid ((wts Z.l p.at').length + 1 ≤ 1000000) := hlen
    have ekW : Hid (∀ k, (fw k).isSome → 0 ≤ k ∧ k < 2048) := H7.keysW
    have hE0 : Hid (∀ x, Made (w2.setCell ⟨g, 0, none⟩ (.int .i64 (Z.last + 1))) w4 x → w.heap.size ≤ x ∧ x < w6.heap.size) := fun x hx => ⟨by have h1 := hx.1; have := B2.size; omega, (hM2 x hx).1⟩
    clear hlen iv H7 hM1 hM2 m6 hHeld
    go_wp2_with fail
    refine wp_region_last (S := fun u => Stp (fun x => (Value.slice va (wts Z.l p.at').length vc).ownBlock = some x) w8 u) _ _ (by simp only [List.pop_toArray, List.dropLast_cons_cons, List.dropLast_singleton]; rfl) (by simp only [List.back?_toArray, List.getLast?_cons_cons, List.getLast?_singleton]; rfl) (by kernel_rfl) (by kernel_rfl) (Stp.refl _ _).drew (fun hHeld => ?_)
    refine tl 0 (.pointer (some ⟨g, 0, none⟩)) rfl ?_
    try simp only [z]
    refine tl 1 (.pointer (some ⟨g, 0, none⟩)) rfl ?_
    try simp only [z]
    refine tl 2 (.pointer (some ⟨g, 2, none⟩)) rfl ?_
    try simp only [z]
    refine tl 3 (.map (some mw)) rfl ?_ (fun u hu => by have x1 := (c8.step hu hog).cell 2 _ rfl; go_simp)
    try simp only [z]
    refine tl 4 (.pointer (some ⟨g1, 1, none⟩)) rfl ?_
    try simp only [z]
    refine tl 5 (.int .i64 p.at') rfl ?_ (fun u hu => by have x1 := (Pt.cells (r8.step hu hog1)).2.1; rw [es] at x1; go_simp)
    try simp only [z]
    refine tl 6 (.pointer (some ⟨g, 0, none⟩)) rfl ?_
    try simp only [z]
    refine tl 7 (.pointer (some ⟨g, 0, none⟩)) rfl ?_
    try simp only [z]
    refine tl 8 (.pointer (some ⟨g, 2, none⟩)) rfl ?_
    try simp only [z]
    refine tl 9 (.map (some mw)) rfl ?_ (fun u hu => by have x1 := (c8.step hu hog).cell 2 _ rfl; go_simp)
    try simp only [z]
    refine tl 10 (.pointer (some ⟨g1, 1, none⟩)) rfl ?_
    try simp only [z]
    refine tl 11 (.int .i64 p.at') rfl ?_ (fun u hu => by have x1 := (Pt.cells (r8.step hu hog1)).2.1; rw [es] at x1; go_simp)
    try simp only [z]
    refine tm 12 (.slice va (wts Z.l p.at').length vc) rfl
      (yields_M' 176 34 uWm _ zI (by rfl) _ _ (by rfl) mw fw (by rfl) p.at' (by rfl) hps (fun u hu => wm8.step hu homw) _ e1) ?_
    try simp only [z]
    refine tl 13 (.pointer (some ⟨g1, 0, none⟩)) rfl ?_
    try simp only [z]
    refine tl 14 (.int .i64 (Z.last + 1)) rfl ?_ (fun u hu => by have x1 := (Pt.cells (r8.step hu hog1)).1; rw [ei] at x1; go_simp)
    try simp only [z]
    refine rd 15 rfl (fun K hK => ?_)
    refine step_bsI rfl _ (by rfl) (Z.last + 1) (by rfl) ?_
    have ba : Below w8.heap.size w8 (w8.drew.alloc (.cells #[.int .i64 (Z.last + 1)] 3)) := ((Below.refl _ w8).drew).alloc (Nat.le_refl _) _
    refine hK.out _ _ (Stp.of_below ba _) (fun hHeld => ?_)
    clear hK K
    try simp only [z]
    refine rd 16 rfl (fun K hK => ?_)
    refine step_appR elI 0 rfl _ _ (by rfl) (by rfl) (ro_later ov8 ba) (fun r _ => Nat.zero_le r) (some ⟨w8.drew.heap.size, 0, none⟩) 1 [.int .i64 (Z.last + 1)] (by rfl) (by simp) (fun e => by cases e) (fun ad e => by injection e with e; subst e; exact cell_one_new _ _ _) (by simp [Value.oneCell']) hlen'.out (Nat.zero_le _) ?_
    intro v' w9 hA
    obtain ⟨A1, A2, A3, A4, _⟩ := hA
    have s9 : Stp (fun x => (Value.slice va (wts Z.l p.at').length vc).ownBlock = some x) w8 w9 := (Stp.of_below ba _).trans A4
    refine hK.out _ _ (s9) (fun hHeld => ?_)
    clear hK K
    try simp only [z]
    refine wpAnyH_done (by kernel_rfl) ?_ _
    have o9 : OwV w9 v' (wts Z.l p.at' ++ [Z.last + 1]) := by unfold OwV; simpa using A1
    show wpList _ _ _ [_] _ _
    refine at_updM 176 34 uWm (by rfl) _ _ _ (by rfl) mw fw (by rfl) p.at' (by rfl) v' (by rfl) (wm8.step s9 homw) ekW.out hps ?_
    intro w10 m10 s10
    have hnb : ∀ r, v'.ownBlock = some r → (Value.slice va (wts Z.l p.at').length vc).ownBlock = some r ∨ (w8.heap.size ≤ r ∧ r < w9.heap.size) := fun r hr => by
      rcases A3 with e | ⟨e, e2⟩
      · exact .inl (by rw [← e]; exact hr)
      · rw [hr] at e; injection e with e
        exact .inr ⟨by rw [e]; simp, by rw [e]; exact e2⟩
    obtain ⟨HG, SG, GG⟩ := fin w7 w8 w9 w10 (.slice va (wts Z.l p.at').length vc) v' B7 e1 s8 m8 s9 o9 hnb s10 m10
    have r10 := (r8.step s9 hog1).step s10 (r8.notMap wm8)
    have x0 := (Pt.cells r10).1
    rw [ei] at x0
    clear fin
    go_wp2_with fail
    go_returns
    have SF10 : Stp F w w10 := (SF6.trans (Stp.of_below B7 F)).trans SG
    refine ⟨by rw [eN.out, eE.out]; rfl, _, _, ⟨mp, mw, _, _, by rw [eZ.out]; exact HG⟩, SF10, fun x hx => ?_, fun x hx => ?_⟩
    · rcases GG x hx with e | e
      · exact .inl e
      · exact .inr ⟨by have := SF6.size; have := B7.size; omega, e.2⟩
    · rcases hx with hx | hx
      · exact .inl hx
      · have h1 := hE0.out x hx
        exact .inr ⟨h1.1, by have := SG.size; have := B7.size; omega⟩
  · have hc' : Z.addOk p = false := by simpa using hc
    have eN : Hid (Z.addN p = 0) := by show _ = _; unfold GZ.addN; rw [if_neg hc]
    have eE : Hid (Z.addE p = 2) := by show _ = _; unfold GZ.addE; rw [if_neg hc]
    have eZ : Hid (Z.add p = Z) := by show _ = _; unfold GZ.add; rw [if_neg hc]
    cases hfp : fit p with
    | false =>
      rw [hfp] at hF
      clear hGv t3 t4
      go_enter Tryz.func71, Tryz.ntmps71
      go_wp2_with (first
        | (clear t1; refine at_boxP (by rfl) _ (by rfl) p d n (by rfl) ?_; intro g1 w1 a1 a2 r1 b1)
        | (clear t2; refine at_getP0 (by rfl) _ (by rfl) g1 (by rfl) p d n r1 ?_)
        | (go_at_call 94; refine (hF _).mono ?_; rintro e w2 ⟨rfl, b2⟩; have B2 := bnext b1 b2 (Nat.le_refl _)))
      go_returns
      exact ⟨by rw [eN.out, eE.out]; rfl, E, F, ⟨mp, mw, f, fw, by rw [eZ.out]; exact H.later B2⟩, Stp.of_below B2 F, Grew.refl _ _ _, Grew.refl _ _ _⟩
    | true =>
      have hgv : givn Z.last p.needs = false := by unfold GZ.addOk at hc'; rw [hfp] at hc'; simpa using hc'
      rw [hfp] at hF
      rw [hgv] at hGv
      clear t3 t4
      go_enter Tryz.func71, Tryz.ntmps71
      go_wp2_with (first
        | (clear t1; refine at_boxP (by rfl) _ (by rfl) p d n (by rfl) ?_; intro g1 w1 a1 a2 r1 b1; clear z0 z1 z2; have q5 := (Pt.cells r1).2.2.2.2.2.1)
        | (clear t2; refine at_getP0 (by rfl) _ (by rfl) g1 (by rfl) p d n r1 ?_)
        | (go_at_call 94; refine (hF _).mono ?_; rintro e w2 ⟨rfl, b2⟩; replace r1 := r1.later b2; clear q5; have q5 := (Pt.cells r1).2.2.2.2.2.1; have B2 := bnext b1 b2 (Nat.le_refl _))
        | (go_at_call 95; refine (hGv _ B2).mono ?_; rintro e w3 ⟨rfl, rfl⟩))
      go_returns
      exact ⟨by rw [eN.out, eE.out]; rfl, E, F, ⟨mp, mw, f, fw, by rw [eZ.out]; exact H.later B2⟩, Stp.of_below B2 F, Grew.refl _ _ _, Grew.refl _ _ _⟩
end Go.Proofs.YtgdnhkdfcjpdiaaGreatDoor
namespace Go.Proofs.YtgdnhkdfcjpdiaaGreatDoor
open Go.ChangeShapes Go.WideShapes Go.ChangeAt Go.RowKit Go.Shelf
attribute [local go_sem] Oper.semAt_some
def bk {α : Type} (el : Nat → α) (len j : Nat) : List α := (((List.range len).drop j).reverse).map el
end Go.Proofs.YtgdnhkdfcjpdiaaGreatDoor
