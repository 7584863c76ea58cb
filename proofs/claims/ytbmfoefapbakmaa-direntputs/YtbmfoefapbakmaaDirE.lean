/-
  What read, tell, bytesOf and lay of layer 12 return, for every input: no statement is proved here.
-/
import Derived.Test.YtbmfoefapbakmaaDirC
namespace Go.Proofs.Ytbmfoefapbakmaa
open Go.ChangeShapes Go.WideShapes Go.ChangeAt Go.RowKit
set_option linter.unusedVariables false

theorem rd_min (l : List UInt8) : (if 10 < ((l.getD 2 0).toNat : Int) then 10 else ((l.getD 2 0).toNat : Int)) = (rdN l : Int) := by
  unfold rdN; split <;> omega
set_option maxRecDepth 100000 in
theorem read_any (l : List UInt8) (w : World) (hl : l.length = 13) : Calls Try.prog 38 #[.agg (cells l).toArray] w fun e w' => e = .returned (.agg (rdE l).cs.toArray) ∧ Below w.heap.size w w' := by
  have hmin := rd_min l
  have hm := rdN_le l
  have hw : IntKind.i64.wrap (3 + (rdN l : Int)) = 3 + (rdN l : Int) := by rw [IntKind.wrap_i64]; omega
  have hE : Hid (rdE l = ⟨((pt l 0).toNat : Int), (l.drop 3).take (rdN l)⟩) := rfl
  rw [hE.out]
  clear hE
  generalize rdN l = m at *
  have hG := fun a n c w hb h => get16_w a n c l 0 w hb h
  generalize hc : l.getD 2 0 = c at *
  have hC : Hid (l.getD 2 0 = c) := hc
  clear hc
  generalize pt l 0 = y at *
  have hw8 : wrap64 (c.toNat : Int) = (c.toNat : Int) := by have := c.toNat_lt; simp only [wrap64]; omega
  have hw16 : wrap64 (y.toNat : Int) = (y.toNat : Int) := by have := y.toNat_lt; simp only [wrap64]; omega
  go_enter Try.func38, Try.ntmps38
  go_wp2_with (first
    | (refine at_box 24 13 ar13 (by rfl) _ (by rfl) l (by rfl) hl ?_; intro g1 w1 a1 z1 r1 b1)
    | (refine at_newE (by rfl) (by rfl) ?_; intro gr w2 a2 z2 r2 b2
       have y1 := (r1.later b2).bs0 13 13 (by omega) (Nat.le_refl _) (by decide)
       rw [List.take_of_length_le (by omega)] at y1
       have q2 := (r1.later b2).cell 2 (by omega)
       rw [hC.out] at q2
       have hsub : ∀ w, (Instr.sliceAt 24 (.pointer (some ⟨g1, 0, none⟩)) (some (.int .i64 3)) (some (.int .i64 (3 + (m : Int)))) none).run Try.prog w = .ok (.slice (some ⟨g1, 3, none⟩) m 10) w := fun w => run_subA ar13 w g1 3 m (by omega) (by omega) _ rfl
       have hcv := bs_text ((r1.later b2).bs 3 m 10 (by omega) (by omega) (by decide)))
    | (go_at_call 40; refine (hG _ 13 13 _ y1 (by omega)).mono ?_; rintro e u ⟨rfl, rfl⟩)
    | (refine at_bldE2 (by rfl) _ _ (by rfl) _ _ (by rfl) (by rfl) ?_)
    | (refine at_putE (by rfl) _ _ (by rfl) gr (by rfl) _ (by rfl) Ent.zero r2 ?_; intro w3 r3 s3))
  have S3 : Stp (fun y => w.heap.size ≤ y) w w3 := (Stp.of_below (bnext b1 b2 (Nat.le_refl _)) _).next s3 (fun y hy => .inl (by subst hy; have := b1.size; omega))
  exact bodyPost_ret (retCd srtE Try.results38 rfl r3 rfl) rfl ⟨by rw [hw16], S3.below (Nat.le_refl _) (fun _ h => h)⟩
theorem beq13 (a : List UInt8) : (a == a) = true := by simp
set_option maxRecDepth 100000 in
set_option maxHeartbeats 1000000 in
theorem tell_any (l : List UInt8) (w : World) (hl : l.length = 13) : Calls Try.prog 33 #[.agg (cells l).toArray] w fun e w' => e = .returned (.tuple #[.agg (tE l).cs.toArray, .int .i64 (tI l)]) ∧ Below w.heap.size w w' := by
  have hzz : z13.length = 13 := rfl
  have he := eq13 l z13 hl hzz
  have hg := guard13
  have hR := fun w => read_any l w hl
  have hP := dput_any (rdE l)
  have hb := dB_len (rdE l)
  have he2 := eq13 (dB (rdE l)) l hb hl
  by_cases h0 : l = z13
  · have e1 : tI l = 0 := by rw [h0]; exact tI_zero
    have e2 : tE l = Ent.zero := by unfold tE; rw [e1, if_neg (by decide)]
    rw [e1, e2]
    have e3 : (l == z13) = true := by rw [h0]; exact beq13 _
    rw [e3] at he
    clear e1 e2 e3 h0 hR hP he2
    go_enter Try.func33, Try.ntmps33
    go_wp2_with (first
      | (refine at_box 24 13 ar13 (by rfl) _ (by rfl) l (by rfl) hl ?_; intro g1 w1 a1 z1 r1 b1)
      | (refine at_newE (by rfl) (by rfl) ?_; intro gr w2 a2 z2 r2 b2; have y2 := r1.later b2)
      | (refine at_get 24 13 ar13 (by rfl) _ (by rfl) g1 (by rfl) l y2 hl ?_)
      | (refine at_bld13 (by rfl) (by rfl) ?_)
      | (refine at_bldE0 (by rfl) (by rfl) ?_)
      | (refine at_putE (by rfl) _ _ (by rfl) gr (by rfl) Ent.zero (by rfl) Ent.zero r2 ?_; intro w3 r3 s3))
    have S3 : Stp (fun y => w.heap.size ≤ y) w w3 := (Stp.of_below (bnext b1 b2 (Nat.le_refl _)) _).next s3 (fun y hy => .inl (by subst hy; have := b1.size; omega))
    exact bodyPost_ret (retCt srtE Try.results33 rfl rfl r3 rfl) rfl ⟨rfl, S3.below (Nat.le_refl _) (fun _ h => h)⟩
  have e0 : (l == z13) = false := beq_no h0
  rw [e0] at he
  clear e0
  by_cases h1 : dE (rdE l) = 0
  · rw [h1] at hP
    by_cases h2 : dB (rdE l) = l
    · have e1 : tI l = 1 := by unfold tI; rw [if_neg h0, if_pos ⟨h1, h2⟩]
      have e2 : tE l = rdE l := by unfold tE; rw [if_pos e1]
      have e3 : (dB (rdE l) == l) = true := by rw [h2]; exact beq13 _
      rw [e1, e2]
      rw [e3] at he2
      clear e1 e2 e3 h0 h1 h2
      generalize dB (rdE l) = D at *
      generalize rdE l = X at *
      have t1 : True := trivial
      go_enter Try.func33, Try.ntmps33
      go_wp2_with (first
        | (refine at_box 24 13 ar13 (by rfl) _ (by rfl) l (by rfl) hl ?_; intro g1 w1 a1 z1 r1 b1)
        | (have _t := t1; refine at_newE (by rfl) (by rfl) ?_; intro gr w2 a2 z2 r2 b2; have y2 := r1.later b2; have B2 := bnext b1 b2 (Nat.le_refl _); clear _t t1)
        | (refine at_get 24 13 ar13 (by rfl) _ (by rfl) g1 (by rfl) l y2 hl ?_)
        | (refine at_bld13 (by rfl) (by rfl) ?_)
        | (go_at_call 38; refine (hR _).mono ?_; rintro e w3 ⟨rfl, b3⟩)
        | (refine at_newE (by rfl) (by rfl) ?_; intro gx w4 a4 z4 r4 b4)
        | (refine at_putE (by rfl) _ _ (by rfl) gx (by rfl) X (by rfl) Ent.zero r4 ?_; intro w5 x5 s5
           have y5 : Row w5 g1 l := ((y2.later b3).later b4).step s5 (by have := (y2.later b3).lt; omega)
           have r5 : Cs w5 gr Ent.zero.cs := ((r2.later b3).later b4).step s5 (by have := (r2.later b3).lt; omega)
           have hgx : w.heap.size ≤ gx := (by have := B2.size; have := b3.size; omega)
           have hgr : w.heap.size ≤ gr := (by have := b1.size; omega)
           have S5 : Stp (fun y => w.heap.size ≤ y) w w5 := (Stp.of_below (bnext (bnext B2 b3 (Nat.le_refl _)) b4 (Nat.le_refl _)) _).next s5 (fun y hy => .inl (by subst hy; exact hgx))
           clear y2 r2 r4 s5 b3 b4 B2 b1 b2 r1 a1 z1 a2 z2 a4 z4)
        | (refine at_getE (by rfl) _ (by rfl) gx (by rfl) X x5 ?_)
        | (go_at_call 8; refine (hP _).mono ?_; rintro e w6 ⟨rfl, b6⟩)
        | (refine at_new 24 13 ar13 (by rfl) (by rfl) ?_; intro ga w7 a7 z7 r7 b7)
        | (refine at_put 24 13 ar13 (by rfl) _ _ (by rfl) ga (by rfl) D (by rfl) hb _ r7 (by simp) ?_; intro w8 d8 s8
           have y8 : Row w8 g1 l := ((y5.later b6).later b7).step s8 (by have := (y5.later b6).lt; omega)
           have r8 : Cs w8 gr Ent.zero.cs := ((r5.later b6).later b7).step s8 (by have := (r5.later b6).lt; omega)
           have x8 : Cs w8 gx X.cs := ((x5.later b6).later b7).step s8 (by have := (x5.later b6).lt; omega)
           have S8 : Stp (fun y => w.heap.size ≤ y) w w8 := (S5.next (Stp.of_below (bnext b6 b7 (Nat.le_refl _)) (fun _ => False)) (fun _ h => h.elim)).next s8 (fun y hy => .inl (by subst hy; have := S5.size; have := b6.size; omega))
           clear x5 y5 r5 S5 s8 b6 b7 r7 a7 z7)
        | (refine at_get 24 13 ar13 (by rfl) _ (by rfl) ga (by rfl) D d8 hb ?_)
        | (refine at_get 24 13 ar13 (by rfl) _ (by rfl) g1 (by rfl) l y8 hl ?_)
        | (refine at_getE (by rfl) _ (by rfl) gx (by rfl) X x8 ?_)
        | (refine at_putE (by rfl) _ _ (by rfl) gr (by rfl) X (by rfl) Ent.zero r8 ?_; intro w9 r9 s9))
      have S9 := S8.next s9 (fun y hy => .inl (by subst hy; exact hgr))
      exact bodyPost_ret (retCt srtE Try.results33 rfl rfl r9 rfl) rfl ⟨rfl, S9.below (Nat.le_refl _) (fun _ h => h)⟩
    · have e1 : tI l = 2 := by unfold tI; rw [if_neg h0, if_neg (fun h => h2 h.2)]
      have e2 : tE l = Ent.zero := by unfold tE; rw [e1, if_neg (by decide)]
      have e3 : (dB (rdE l) == l) = false := beq_no h2
      rw [e1, e2]
      rw [e3] at he2
      clear e1 e2 e3 h0 h1 h2
      generalize dB (rdE l) = D at *
      generalize rdE l = X at *
      have t1 : True := trivial
      go_enter Try.func33, Try.ntmps33
      go_wp2_with (first
        | (refine at_box 24 13 ar13 (by rfl) _ (by rfl) l (by rfl) hl ?_; intro g1 w1 a1 z1 r1 b1)
        | (have _t := t1; refine at_newE (by rfl) (by rfl) ?_; intro gr w2 a2 z2 r2 b2; have y2 := r1.later b2; have B2 := bnext b1 b2 (Nat.le_refl _); clear _t t1)
        | (refine at_get 24 13 ar13 (by rfl) _ (by rfl) g1 (by rfl) l y2 hl ?_)
        | (refine at_bld13 (by rfl) (by rfl) ?_)
        | (go_at_call 38; refine (hR _).mono ?_; rintro e w3 ⟨rfl, b3⟩)
        | (refine at_newE (by rfl) (by rfl) ?_; intro gx w4 a4 z4 r4 b4)
        | (refine at_putE (by rfl) _ _ (by rfl) gx (by rfl) X (by rfl) Ent.zero r4 ?_; intro w5 x5 s5
           have y5 : Row w5 g1 l := ((y2.later b3).later b4).step s5 (by have := (y2.later b3).lt; omega)
           have r5 : Cs w5 gr Ent.zero.cs := ((r2.later b3).later b4).step s5 (by have := (r2.later b3).lt; omega)
           have hgx : w.heap.size ≤ gx := (by have := B2.size; have := b3.size; omega)
           have hgr : w.heap.size ≤ gr := (by have := b1.size; omega)
           have S5 : Stp (fun y => w.heap.size ≤ y) w w5 := (Stp.of_below (bnext (bnext B2 b3 (Nat.le_refl _)) b4 (Nat.le_refl _)) _).next s5 (fun y hy => .inl (by subst hy; exact hgx))
           clear y2 r2 r4 s5 b3 b4 B2 b1 b2 r1 a1 z1 a2 z2 a4 z4)
        | (refine at_getE (by rfl) _ (by rfl) gx (by rfl) X x5 ?_)
        | (go_at_call 8; refine (hP _).mono ?_; rintro e w6 ⟨rfl, b6⟩)
        | (refine at_new 24 13 ar13 (by rfl) (by rfl) ?_; intro ga w7 a7 z7 r7 b7)
        | (refine at_put 24 13 ar13 (by rfl) _ _ (by rfl) ga (by rfl) D (by rfl) hb _ r7 (by simp) ?_; intro w8 d8 s8
           have y8 : Row w8 g1 l := ((y5.later b6).later b7).step s8 (by have := (y5.later b6).lt; omega)
           have r8 : Cs w8 gr Ent.zero.cs := ((r5.later b6).later b7).step s8 (by have := (r5.later b6).lt; omega)
           have x8 : Cs w8 gx X.cs := ((x5.later b6).later b7).step s8 (by have := (x5.later b6).lt; omega)
           have S8 : Stp (fun y => w.heap.size ≤ y) w w8 := (S5.next (Stp.of_below (bnext b6 b7 (Nat.le_refl _)) (fun _ => False)) (fun _ h => h.elim)).next s8 (fun y hy => .inl (by subst hy; have := S5.size; have := b6.size; omega))
           clear x5 y5 r5 S5 s8 b6 b7 r7 a7 z7)
        | (refine at_get 24 13 ar13 (by rfl) _ (by rfl) ga (by rfl) D d8 hb ?_)
        | (refine at_get 24 13 ar13 (by rfl) _ (by rfl) g1 (by rfl) l y8 hl ?_)
        | (refine at_bldE0 (by rfl) (by rfl) ?_)
        | (refine at_putE (by rfl) _ _ (by rfl) gr (by rfl) Ent.zero (by rfl) Ent.zero r8 ?_; intro w9 r9 s9))
      have S9 := S8.next s9 (fun y hy => .inl (by subst hy; exact hgr))
      exact bodyPost_ret (retCt srtE Try.results33 rfl rfl r9 rfl) rfl ⟨rfl, S9.below (Nat.le_refl _) (fun _ h => h)⟩
  · have e1 : tI l = 2 := by unfold tI; rw [if_neg h0, if_neg (fun h => h1 h.1)]
    have e2 : tE l = Ent.zero := by unfold tE; rw [e1, if_neg (by decide)]
    rw [e1, e2]
    clear e1 e2 h0 he2
    generalize dE (rdE l) = EE at *
    generalize dB (rdE l) = D at *
    generalize rdE l = X at *
    have t1 : True := trivial
    go_enter Try.func33, Try.ntmps33
    go_wp2_with (first
      | (refine at_box 24 13 ar13 (by rfl) _ (by rfl) l (by rfl) hl ?_; intro g1 w1 a1 z1 r1 b1)
      | (have _t := t1; refine at_newE (by rfl) (by rfl) ?_; intro gr w2 a2 z2 r2 b2; have y2 := r1.later b2; have B2 := bnext b1 b2 (Nat.le_refl _); clear _t t1)
      | (refine at_get 24 13 ar13 (by rfl) _ (by rfl) g1 (by rfl) l y2 hl ?_)
      | (refine at_bld13 (by rfl) (by rfl) ?_)
      | (go_at_call 38; refine (hR _).mono ?_; rintro e w3 ⟨rfl, b3⟩)
      | (refine at_newE (by rfl) (by rfl) ?_; intro gx w4 a4 z4 r4 b4)
      | (refine at_putE (by rfl) _ _ (by rfl) gx (by rfl) X (by rfl) Ent.zero r4 ?_; intro w5 x5 s5
         have y5 : Row w5 g1 l := ((y2.later b3).later b4).step s5 (by have := (y2.later b3).lt; omega)
         have r5 : Cs w5 gr Ent.zero.cs := ((r2.later b3).later b4).step s5 (by have := (r2.later b3).lt; omega)
         have hgx : w.heap.size ≤ gx := (by have := B2.size; have := b3.size; omega)
         have hgr : w.heap.size ≤ gr := (by have := b1.size; omega)
         have S5 : Stp (fun y => w.heap.size ≤ y) w w5 := (Stp.of_below (bnext (bnext B2 b3 (Nat.le_refl _)) b4 (Nat.le_refl _)) _).next s5 (fun y hy => .inl (by subst hy; exact hgx))
         clear y2 r2 r4 s5 b3 b4 B2 b1 b2 r1 a1 z1 a2 z2 a4 z4)
      | (refine at_getE (by rfl) _ (by rfl) gx (by rfl) X x5 ?_)
      | (go_at_call 8; refine (hP _).mono ?_; rintro e w6 ⟨rfl, b6⟩)
      | (refine at_new 24 13 ar13 (by rfl) (by rfl) ?_; intro ga w7 a7 z7 r7 b7)
      | (refine at_put 24 13 ar13 (by rfl) _ _ (by rfl) ga (by rfl) D (by rfl) hb _ r7 (by simp) ?_; intro w8 d8 s8
         have y8 : Row w8 g1 l := ((y5.later b6).later b7).step s8 (by have := (y5.later b6).lt; omega)
         have r8 : Cs w8 gr Ent.zero.cs := ((r5.later b6).later b7).step s8 (by have := (r5.later b6).lt; omega)
         have x8 : Cs w8 gx X.cs := ((x5.later b6).later b7).step s8 (by have := (x5.later b6).lt; omega)
         have S8 : Stp (fun y => w.heap.size ≤ y) w w8 := (S5.next (Stp.of_below (bnext b6 b7 (Nat.le_refl _)) (fun _ => False)) (fun _ h => h.elim)).next s8 (fun y hy => .inl (by subst hy; have := S5.size; have := b6.size; omega))
         clear x5 y5 r5 S5 s8 b6 b7 r7 a7 z7)
      | (refine at_bldE0 (by rfl) (by rfl) ?_)
      | (refine at_putE (by rfl) _ _ (by rfl) gr (by rfl) Ent.zero (by rfl) Ent.zero r8 ?_; intro w9 r9 s9))
    have S9 := S8.next s9 (fun y hy => .inl (by subst hy; exact hgr))
    exact bodyPost_ret (retCt srtE Try.results33 rfl rfl r9 rfl) rfl ⟨rfl, S9.below (Nat.le_refl _) (fun _ h => h)⟩
set_option maxRecDepth 100000 in
theorem bytesOf_at (p : Ld) (j : Nat) (w : World) (hj : j ≤ 3) : Calls Try.prog 34 #[.agg p.cs.toArray, .int .i64 (j : Int)] w fun e w' => e = .returned (.agg (cells (dslot p j)).toArray) ∧ Below w.heap.size w w' := by
  have hp := p.len
  have hq := dslot_len p j hj
  obtain ⟨o, ho⟩ : ∃ o, Hid (13 * j = o) := ⟨_, rfl⟩
  have ho2 : o ≤ 39 := by have := ho.out; omega
  have hd : Hid (dslot p j = (p.l.drop o).take 13) := by show _ = _; unfold dslot; rw [ho.out]
  have hw : IntKind.i64.wrap ((j : Int) * 13) = (o : Int) := by have := ho.out; rw [IntKind.wrap_i64]; omega
  generalize dslot p j = D at *
  have t1 : True := trivial
  go_enter Try.func34, Try.ntmps34
  go_wp2_with (first
    | (refine at_box 36 54 arrL (by rfl) _ (by rfl) p.l (by rfl) hp ?_; intro g1 w1 a1 z1 r1 b1)
    | (have _t := t1; refine at_new 24 13 ar13 (by rfl) (by rfl) ?_; intro gr w2 a2 z2 r2 b2; clear _t t1)
    | (refine at_new 24 13 ar13 (by rfl) (by rfl) ?_; intro gb w3 a3 z3 r3 b3))
  have rp := (r1.later b2).later b3
  have rr := r2.later b3
  have B3 := bnext (bnext b1 b2 (Nat.le_refl _)) b3 (Nat.le_refl _)
  have hgr : w.heap.size ≤ gr := by have := b1.size; omega
  have hgb : w.heap.size ≤ gb := by have := b1.size; have := b2.size; omega
  have hrb : ¬ gr = gb := by have := r2.lt; omega
  have hsub := fun w => run_subL arrL w g1 o (by omega)
  clear r1 r2 b1 b2 b3 a1 z1 a2 z2 a3 z3
  simp only [Act.put, List.setIfInBounds_toArray, List.set_cons_zero, List.set_cons_succ]
  go_region_law (refine step_copyP rfl (.tmp 6) (.tmp 9) rfl gb 0 13 13 g1 o (54 - o) (54 - o) 13 (by simp [Act.eval, Act.put]) (by simp [Act.eval, Act.put]) (List.replicate 13 0) p.l (r3.later (by go_grown)) (rp.later (by go_grown)) (Nat.min_eq_right (by omega)).symm (by simp) (by omega) ?_; intro w4 r4 s4)
  rw [splice_all _ _ (by simp; omega), ← hd.out] at r4
  have rr4 : Row w4 gr (List.replicate 13 0) := (rr.later (w' := w3.drew) (by go_grown)).step s4 hrb
  have S4 : Stp (fun y => w.heap.size ≤ y) w w4 := (Stp.of_below B3 _).drew.next s4 (fun y hy => .inl (by subst hy; exact hgb))
  clear rp rr r3 s4 hd hsub
  go_wp2_with (first
    | (refine at_get 24 13 ar13 (by rfl) _ (by rfl) gb (by rfl) D r4 hq ?_)
    | (refine at_put 24 13 ar13 (by rfl) _ _ (by rfl) gr (by rfl) D (by rfl) hq _ rr4 (by simp) ?_; intro w5 r5 s5))
  have S5 := S4.next s5 (fun y hy => .inl (by subst hy; exact hgr))
  exact bodyPost_ret (retA ar13 Try.results34 rfl r5 hq) rfl ⟨rfl, S5.below (Nat.le_refl _) (fun _ h => h)⟩
set_option maxRecDepth 100000 in
theorem lay_at (p : Ld) (j : Nat) (l : List UInt8) (w : World) (hj : j ≤ 3) (hl : l.length = 13) : Calls Try.prog 36 #[.agg p.cs.toArray, .int .i64 (j : Int), .agg (cells l).toArray] w fun e w' => e = .returned (.agg (dputs p j l).cs.toArray) ∧ Below w.heap.size w w' := by
  have hp := p.len
  have hq := (dputs p j l).len
  obtain ⟨o, ho⟩ : ∃ o, Hid (13 * j = o) := ⟨_, rfl⟩
  have ho2 : o ≤ 39 := by have := ho.out; omega
  have hd : Hid ((dputs p j l).l = splice p.l o (l.take 13)) := by show _ = _; rw [dputs_l p j l hj hl, ho.out, List.take_of_length_le (by omega)]
  have hw : IntKind.i64.wrap ((j : Int) * 13) = (o : Int) := by have := ho.out; rw [IntKind.wrap_i64]; omega
  generalize dputs p j l = q at *
  go_enter Try.func36, Try.ntmps36
  go_wp2_with (first
    | (refine at_box 36 54 arrL (by rfl) _ (by rfl) p.l (by rfl) hp ?_; intro g1 w1 a1 z1 r1 b1)
    | (refine at_box 24 13 ar13 (by rfl) _ (by rfl) l (by rfl) hl ?_; intro gb w2 a2 z2 r2 b2)
    | (refine at_new 36 54 arrL (by rfl) (by rfl) ?_; intro gr w3 a3 z3 r3 b3))
  have rp := (r1.later b2).later b3
  have rb := r2.later b3
  have B3 := bnext (bnext b1 b2 (Nat.le_refl _)) b3 (Nat.le_refl _)
  have hgr : w.heap.size ≤ gr := by have := b1.size; have := b2.size; omega
  have hrb : ¬ gr = g1 := by have := (r1.later b2).lt; omega
  have hg1 : w.heap.size ≤ g1 := a1
  have hsub := fun w => run_subL arrL w g1 o (by omega)
  clear r1 r2 b1 b2 b3 a1 z1 a2 z2 a3 z3
  simp only [Act.put, List.setIfInBounds_toArray, List.set_cons_zero, List.set_cons_succ]
  go_region_law (refine step_copyR rfl (.tmp 9) (.tmp 10) rfl g1 o (54 - o) (54 - o) gb 13 13 (by simp [Act.eval, Act.put]) (by simp [Act.eval, Act.put]) p.l l (rp.later (by go_grown)) (rb.later (by go_grown)) (by omega) (by omega) (by omega) ?_; intro w4 r4 s4)
  rw [← hd.out] at r4
  have rr4 : Row w4 gr (List.replicate 54 0) := (r3.later (w' := w3.drew) (by go_grown)).step s4 hrb
  have S4 : Stp (fun y => w.heap.size ≤ y) w w4 := (Stp.of_below B3 _).drew.next s4 (fun y hy => .inl (by subst hy; exact hg1))
  clear rp rb r3 s4 hd hsub
  go_wp2_with (first
    | (refine at_getL (by rfl) _ (by rfl) g1 (by rfl) q r4 ?_)
    | (refine at_put 36 54 arrL (by rfl) _ _ (by rfl) gr (by rfl) q.l (by rfl) hq _ rr4 (by simp) ?_; intro w5 r5 s5))
  have S5 := S4.next s5 (fun y hy => .inl (by subst hy; exact hgr))
  exact bodyPost_ret (retA arrL Try.results36 rfl r5 hq) rfl ⟨rfl, S5.below (Nat.le_refl _) (fun _ h => h)⟩
end Go.Proofs.Ytbmfoefapbakmaa
