/-
  What the document's At of layer 12 returns, for every input: no statement is proved here.
-/
import Derived.Test.YtbmfoefapbakmaaDirD
import Derived.Test.YtbmfoefapbakmaaDirF
namespace Go.Proofs.Ytbmfoefapbakmaa
open Go.ChangeShapes Go.WideShapes Go.ChangeAt Go.RowKit
set_option linter.unusedVariables false

/-- Whether the first i bytes are noughts. -/
def ez (D : List UInt8) (i : Nat) : Bool := (D.take i).all (· == 0)
theorem ez_zero (D : List UInt8) : ez D 0 = true := rfl
theorem ez_succ (D : List UInt8) (i : Nat) (h : i < D.length) : ez D (i + 1) = (ez D i && ((((D.getD i 0).toNat : Nat) : Int) == 0)) := by
  unfold ez
  have e : D.take (i + 1) = D.take i ++ [D.getD i 0] := by rw [List.take_add_one, List.getD_eq_getElem?_getD, List.getElem?_eq_getElem h]; rfl
  rw [e, List.all_append]
  congr 1
  simp only [List.all_cons, List.all_nil, Bool.and_true]
  rw [Bool.eq_iff_iff, beq_iff_eq, beq_iff_eq]
  constructor
  · intro h; rw [h]; rfl
  · intro h; exact UInt8.toNat_inj.1 (by have : (D.getD i 0).toNat = 0 := by omega
                                         rw [this]; rfl)
theorem ez_all (D : List UInt8) (h : D.length = 13) : ez D 13 = decide (D = z13) := by
  unfold ez
  rw [List.take_of_length_le (by omega), Bool.eq_iff_iff, decide_eq_true_eq, List.all_eq_true]
  constructor
  · intro hh
    have := List.eq_replicate_of_mem (a := (0 : UInt8)) (l := D) fun b hb => by simpa using hh b hb
    rw [h] at this; exact this
  · rintro rfl x hx
    have := List.eq_of_mem_replicate hx
    simp [this]
set_option maxRecDepth 100000 in
theorem rdat_no (p : Ld) (k : Int) (w : World) (h : ¬ isD k) : Calls Try.prog 15 #[.agg p.cs.toArray, .int .i64 k] w fun e w' => e = .returned (.tuple #[.agg Ent.zero.cs.toArray, .int .i64 0, .int .i64 2]) ∧ Below w.heap.size w w' := by
  have hp := p.len
  by_cases h0 : k < 0
  · go_enter Try.func15, Try.ntmps15
    go_wp2_with (first
      | (refine at_box 36 54 arrL (by rfl) _ (by rfl) p.l (by rfl) hp ?_; intro g1 w1 a1 z1 r1 b1)
      | (refine at_newE (by rfl) (by rfl) ?_; intro gr w2 a2 z2 r2 b2)
      | (refine at_bldE0 (by rfl) (by rfl) ?_)
      | (refine at_putE (by rfl) _ _ (by rfl) gr (by rfl) Ent.zero (by rfl) Ent.zero r2 ?_; intro w6 r6 s6))
    have S6 : Stp (fun y => w.heap.size ≤ y) w w6 := (Stp.of_below (bnext b1 b2 (Nat.le_refl _)) _).next s6 (fun y hy => .inl (by subst hy; have := b1.size; omega))
    exact bodyPost_ret (retCtt srtE Try.results15 rfl rfl rfl r6 rfl) rfl ⟨rfl, S6.below (Nat.le_refl _) (fun _ h => h)⟩
  · have h3 : 3 < k := by
      by_cases h3 : 3 < k
      · exact h3
      · exact absurd ⟨by omega, by omega⟩ h
    clear h
    go_enter Try.func15, Try.ntmps15
    go_wp2_with (first
      | (refine at_box 36 54 arrL (by rfl) _ (by rfl) p.l (by rfl) hp ?_; intro g1 w1 a1 z1 r1 b1)
      | (refine at_newE (by rfl) (by rfl) ?_; intro gr w2 a2 z2 r2 b2)
      | (refine at_bldE0 (by rfl) (by rfl) ?_)
      | (refine at_putE (by rfl) _ _ (by rfl) gr (by rfl) Ent.zero (by rfl) Ent.zero r2 ?_; intro w6 r6 s6))
    have S6 : Stp (fun y => w.heap.size ≤ y) w w6 := (Stp.of_below (bnext b1 b2 (Nat.le_refl _)) _).next s6 (fun y hy => .inl (by subst hy; have := b1.size; omega))
    exact bodyPost_ret (retCtt srtE Try.results15 rfl rfl rfl r6 rfl) rfl ⟨rfl, S6.below (Nat.le_refl _) (fun _ h => h)⟩
theorem row_part {w : World} {g o n c : Nat} {l D : List UInt8} (h : Row w g l) (hd : (l.drop o).take n = D) (hn : o + n ≤ l.length) (hc : n ≤ c) (hm : c ≤ maxLen) : Bs w (some ⟨g, o, none⟩) n c (ints D) := by
  have := h.bs o n c hn hc hm; rwa [hd] at this
theorem part_part (l D : List UInt8) (o m : Nat) (hd : (l.drop o).take 13 = D) (hm : m ≤ 10) : (l.drop (o + 3)).take m = (D.drop 3).take m := by
  subst hd
  rw [List.drop_take, List.take_take, List.drop_drop, Nat.min_eq_left (by omega)]
set_option maxRecDepth 100000 in
set_option maxHeartbeats 8000000 in
theorem rdat_at (p : Ld) (j : Nat) (w : World) (hj : j ≤ 3) : Calls Try.prog 15 #[.agg p.cs.toArray, .int .i64 (j : Int)] w fun e w' => e = .returned (.tuple #[.agg (tE (dslot p j)).cs.toArray, .int .i64 (tI (dslot p j)), .int .i64 0]) ∧ Below w.heap.size w w' := by
  have hp := p.len
  have hD := dslot_len p j hj
  have hj1 : ¬ (j : Int) < 0 := by omega
  have hj2 : ¬ 3 < (j : Int) := by omega
  obtain ⟨o, ho⟩ : ∃ o, Hid (13 * j = o) := ⟨_, rfl⟩
  have ho2 : o ≤ 39 := by have := ho.out; omega
  have hd : Hid ((p.l.drop o).take 13 = dslot p j) := by show _ = _; unfold dslot; rw [ho.out]
  have hw : IntKind.i64.wrap (13 * (j : Int)) = (o : Int) := by have := ho.out; rw [IntKind.wrap_i64]; omega
  have hw2 : IntKind.i64.wrap ((o : Int) + 13) = (o : Int) + 13 := by rw [IntKind.wrap_i64]; omega
  generalize dslot p j = D at *
  clear ho
  go_enter Try.func15, Try.ntmps15
  go_wp2_with (first
    | (refine at_box 36 54 arrL (by rfl) _ (by rfl) p.l (by rfl) hp ?_; intro g1 w1 a1 z1 r1 b1
       have hsub := fun w => run_subA arrL w g1 o 13 (by omega) (by omega) ((o : Int) + 13) (by omega))
    | (refine at_newE (by rfl) (by rfl) ?_; intro gr W a2 z2 r2 b2))
  have y2 := r1.later b2
  have B2 := bnext b1 b2 (Nat.le_refl _)
  have hgr : w.heap.size ≤ gr := by have := b1.size; omega
  have hb := row_part (c := 54 - o) y2 hd.out (by omega) (by omega) (by unfold maxLen; omega)
  have hcell : ∀ i, i < 13 → W.cell? ⟨g1, o + i, none⟩ = some (.int .u8 ((D.getD i 0).toNat : Int)) := fun i hi => by
    have := y2.cell (o + i) (by omega)
    rw [this, ← hd.out, List.getD_eq_getElem?_getD, List.getD_eq_getElem?_getD, List.getElem?_take, if_pos hi, List.getElem?_drop]
  have hC : Hid (∀ i, i < 13 → W.cell? ⟨g1, o + i, none⟩ = some (.int .u8 ((D.getD i 0).toNat : Int))) := hcell
  clear hcell r1 b1 b2 a1 z1 a2 z2
  go_loopw [8, 9] (fun ev iv wr => ∃ i : Nat, i ≤ 13 ∧ iv = .int .i64 i ∧ ev = .bool (ez D i) ∧ wr = W) (fun _ iv _ => 13 - (intOf iv).toNat)
  case atStart => exact ⟨0, by omega, rfl, rfl, rfl⟩
  case round =>
    obtain ⟨i, hi, rfl, rfl, rfl⟩ := hrel
    by_cases hlt : i < 13
    · have hlt' : (i : Int) < 13 := by omega
      have hS := ez_succ D i (by omega)
      have hc := hC.out i hlt
      generalize ez D i = E0 at *
      generalize ((D.getD i 0).toNat : Int) = v at *
      have hS' : Hid (ez D (i + 1) = (E0 && (v == 0))) := hS
      clear hS
      cases E0 with
      | true =>
        go_wp2
        refine ⟨⟨i + 1, by omega, by go_num, ?_, trivial⟩, by simp [intOf]; omega⟩
        rw [hS'.out]; rfl
      | false =>
        go_wp2
        refine ⟨⟨i + 1, by omega, by go_num, ?_, trivial⟩, by simp [intOf]; omega⟩
        rw [hS'.out]; rfl
    · obtain rfl : i = 13 := by omega
      have hz := ez_all D hD
      by_cases h0 : D = z13
      · have e1 : tI D = 0 := by rw [h0]; exact tI_zero
        have e2 : tE D = Ent.zero := by unfold tE; rw [e1, if_neg (by decide)]
        have hz2 : ez D 13 = true := by rw [hz]; exact decide_eq_true h0
        have E1 : Hid (tI D = 0) := e1
        have E2 : Hid (tE D = Ent.zero) := e2
        rw [hz2]
        clear hz hz2 e1 e2 h0 hb hd hC
        go_wp2_with (first
          | (refine at_bldE0 (by rfl) (by rfl) ?_)
          | (refine at_putE (by rfl) _ _ (by rfl) gr (by rfl) Ent.zero (by rfl) Ent.zero r2 ?_; intro w3 r3 s3))
        have S3 : Stp (fun y => w.heap.size ≤ y) w w3 := (Stp.of_below B2 _).next s3 (fun y hy => .inl (by subst hy; exact hgr))
        exact bodyPost_ret (retCtt srtE Try.results15 rfl rfl rfl r3 rfl) rfl ⟨by rw [E1.out, E2.out]; rfl, S3.below (Nat.le_refl _) (fun _ h => h)⟩
      · have hz2 : ez D 13 = false := by rw [hz]; exact decide_eq_false h0
        rw [hz2]
        clear hz hz2
        have q2 := hC.out 2 (by omega)
        have hmin := rd_min D
        have hm := rdN_le D
        have hw3 : IntKind.i64.wrap (3 + (rdN D : Int)) = 3 + (rdN D : Int) := by rw [IntKind.wrap_i64]; omega
        have hG := fun a n c w hb h => rget16_w a n c D 0 w hb h
        have hX : Hid (rdE D = ⟨((pt D 0).toNat : Int), (D.drop 3).take (rdN D)⟩) := rfl
        have hbs := row_part (c := 54 - o - 3) y2 (part_part p.l D o (rdN D) hd.out hm) (by omega) (by omega) (by unfold maxLen; omega)
        have hcv := bs_text hbs
        have hP := rdput_any (rdE D)
        have hBl := dB_len (rdE D)
        have hcc : 15 ≤ 54 - o ∧ 54 - o ≤ 54 := by omega
        have hl1 := str_list (dB (rdE D))
        have hl2 := str_list D
        have hno : ∀ {I : Int}, I ≠ 1 → tI D = I → tE D = Ent.zero := fun h1 h2 => by unfold tE; rw [h2, if_neg h1]
        clear hbs
        generalize 54 - o = cc at *
        generalize rdN D = m at *
        generalize D.getD 2 0 = c at *
        generalize pt D 0 = y at *
        have hw8 : wrap64 (c.toNat : Int) = (c.toNat : Int) := by have := c.toNat_lt; simp only [wrap64]; omega
        have hw16 : wrap64 (y.toNat : Int) = (y.toNat : Int) := by have := y.toNat_lt; simp only [wrap64]; omega
        have hp1 : (3 : Int) + m ≤ cc := by omega
        by_cases h1 : dE (rdE D) = 0
        · rw [h1] at hP
          by_cases h2 : dB (rdE D) = D
          · have e1 : tI D = 1 := by unfold tI; rw [if_neg h0, if_pos ⟨h1, h2⟩]
            have e2 : tE D = rdE D := by unfold tE; rw [if_pos e1]
            have e3 : (dB (rdE D) == D) = true := by rw [h2]; exact beq13 _
            have E1 : Hid (tI D = _) := e1
            have E2 : Hid (tE D = _) := e2
            have hdd : Hid ((p.l.drop o).take 13 = D) := hd
            clear e1 e2 h0 h1 h2 hno hC hd
            generalize dB (rdE D) = V at *
            generalize rdE D = X at *
            have tok : True := trivial
            go_wp2_with (first
              | (go_at_call 35; refine (hG _ 13 cc _ hb (by omega)).mono ?_; rintro e u ⟨rfl, rfl⟩)
              | (refine at_bldE2 (by rfl) _ _ (by rfl) (y.toNat : Int) ((D.drop 3).take m) (by first | rfl | (show Value.int .i64 (wrap64 (y.toNat : Int)) = _; rw [hw16])) (by rfl) ?_; rw [← hX.out])
              | (refine at_newE (by rfl) (by rfl) ?_; intro gx w4 a4 z4 r4 b4)
              | (have _t := tok; refine at_putE (by rfl) _ _ (by rfl) gx (by rfl) X (by rfl) Ent.zero r4 ?_; intro w5 x5 s5; clear _t tok
                 have hb5 := row_part (c := cc) ((y2.later b4).step s5 (by have := y2.lt; omega)) hdd.out (by omega) (by omega) (by unfold maxLen; omega)
                 have r5 : Cs w5 gr Ent.zero.cs := (r2.later b4).step s5 (by have := r2.lt; omega)
                 have S5 : Stp (fun y => w.heap.size ≤ y) w w5 := (Stp.of_below (bnext B2 b4 (Nat.le_refl _)) _).next s5 (fun y hy => .inl (by subst hy; have := B2.size; omega))
                 clear y2 r2 hb hcv q2 r4 s5 b4 a4 z4)
              | (refine at_getE (by rfl) _ (by rfl) gx (by rfl) X x5 ?_)
              | (go_at_call 9; refine (hP _).mono ?_; rintro e w6 ⟨gd, cd, rfl, o6, b6⟩
                 have hcb := bs_text (hb5.later b6)
                 have hcd := bs_text o6.bs
                 rw [hBl] at hcd
                 have x6 := x5.later b6
                 have r6 := r5.later b6
                 have S6 := S5.next (Stp.of_below b6 (fun _ => False)) (fun _ h => h.elim)
                 clear x5 r5 S5 b6 hb5 o6)
              | (refine at_getE (by rfl) _ (by rfl) gx (by rfl) X x6 ?_)
              | (refine at_putE (by rfl) _ _ (by rfl) gr (by rfl) X (by rfl) Ent.zero r6 ?_; intro w7 r7 s7))
            have S7 := S6.next s7 (fun y hy => .inl (by subst hy; exact hgr))
            exact bodyPost_ret (retCtt srtE Try.results15 rfl rfl rfl r7 rfl) rfl ⟨by rw [E1.out, E2.out]; rfl, S7.below (Nat.le_refl _) (fun _ h => h)⟩
          · have e1 : tI D = 2 := by unfold tI; rw [if_neg h0, if_neg (fun h => h2 h.2)]
            have e2 := hno (by decide) e1
            have e3 : (dB (rdE D) == D) = false := beq_no h2
            have E1 : Hid (tI D = _) := e1
            have E2 : Hid (tE D = _) := e2
            have hdd : Hid ((p.l.drop o).take 13 = D) := hd
            clear e1 e2 h0 h1 h2 hno hC hd
            generalize dB (rdE D) = V at *
            generalize rdE D = X at *
            have tok : True := trivial
            go_wp2_with (first
              | (go_at_call 35; refine (hG _ 13 cc _ hb (by omega)).mono ?_; rintro e u ⟨rfl, rfl⟩)
              | (refine at_bldE2 (by rfl) _ _ (by rfl) (y.toNat : Int) ((D.drop 3).take m) (by first | rfl | (show Value.int .i64 (wrap64 (y.toNat : Int)) = _; rw [hw16])) (by rfl) ?_; rw [← hX.out])
              | (refine at_newE (by rfl) (by rfl) ?_; intro gx w4 a4 z4 r4 b4)
              | (have _t := tok; refine at_putE (by rfl) _ _ (by rfl) gx (by rfl) X (by rfl) Ent.zero r4 ?_; intro w5 x5 s5; clear _t tok
                 have hb5 := row_part (c := cc) ((y2.later b4).step s5 (by have := y2.lt; omega)) hdd.out (by omega) (by omega) (by unfold maxLen; omega)
                 have r5 : Cs w5 gr Ent.zero.cs := (r2.later b4).step s5 (by have := r2.lt; omega)
                 have S5 : Stp (fun y => w.heap.size ≤ y) w w5 := (Stp.of_below (bnext B2 b4 (Nat.le_refl _)) _).next s5 (fun y hy => .inl (by subst hy; have := B2.size; omega))
                 clear y2 r2 hb hcv q2 r4 s5 b4 a4 z4)
              | (refine at_getE (by rfl) _ (by rfl) gx (by rfl) X x5 ?_)
              | (go_at_call 9; refine (hP _).mono ?_; rintro e w6 ⟨gd, cd, rfl, o6, b6⟩
                 have hcb := bs_text (hb5.later b6)
                 have hcd := bs_text o6.bs
                 rw [hBl] at hcd
                 have x6 := x5.later b6
                 have r6 := r5.later b6
                 have S6 := S5.next (Stp.of_below b6 (fun _ => False)) (fun _ h => h.elim)
                 clear x5 r5 S5 b6 hb5 o6)
              | (refine at_bldE0 (by rfl) (by rfl) ?_)
              | (refine at_putE (by rfl) _ _ (by rfl) gr (by rfl) Ent.zero (by rfl) Ent.zero r6 ?_; intro w7 r7 s7))
            have S7 := S6.next s7 (fun y hy => .inl (by subst hy; exact hgr))
            exact bodyPost_ret (retCtt srtE Try.results15 rfl rfl rfl r7 rfl) rfl ⟨by rw [E1.out, E2.out]; rfl, S7.below (Nat.le_refl _) (fun _ h => h)⟩
        · have e1 : tI D = 2 := by unfold tI; rw [if_neg h0, if_neg (fun h => h1 h.1)]
          have e2 := hno (by decide) e1
          have E1 : Hid (tI D = _) := e1
          have E2 : Hid (tE D = _) := e2
          have hdd : Hid ((p.l.drop o).take 13 = D) := hd
          clear e1 e2 h0 hno hC hd
          generalize dE (rdE D) = EE at *
          generalize dB (rdE D) = V at *
          generalize rdE D = X at *
          have tok : True := trivial
          go_wp2_with (first
            | (go_at_call 35; refine (hG _ 13 cc _ hb (by omega)).mono ?_; rintro e u ⟨rfl, rfl⟩)
            | (refine at_bldE2 (by rfl) _ _ (by rfl) (y.toNat : Int) ((D.drop 3).take m) (by first | rfl | (show Value.int .i64 (wrap64 (y.toNat : Int)) = _; rw [hw16])) (by rfl) ?_; rw [← hX.out])
            | (refine at_newE (by rfl) (by rfl) ?_; intro gx w4 a4 z4 r4 b4)
            | (have _t := tok; refine at_putE (by rfl) _ _ (by rfl) gx (by rfl) X (by rfl) Ent.zero r4 ?_; intro w5 x5 s5; clear _t tok
               have hb5 := row_part (c := cc) ((y2.later b4).step s5 (by have := y2.lt; omega)) hdd.out (by omega) (by omega) (by unfold maxLen; omega)
               have r5 : Cs w5 gr Ent.zero.cs := (r2.later b4).step s5 (by have := r2.lt; omega)
               have S5 : Stp (fun y => w.heap.size ≤ y) w w5 := (Stp.of_below (bnext B2 b4 (Nat.le_refl _)) _).next s5 (fun y hy => .inl (by subst hy; have := B2.size; omega))
               clear y2 r2 hb hcv q2 r4 s5 b4 a4 z4)
            | (refine at_getE (by rfl) _ (by rfl) gx (by rfl) X x5 ?_)
            | (go_at_call 9; refine (hP _).mono ?_; rintro e w6 ⟨gd, cd, rfl, o6, b6⟩
               have hcb := bs_text (hb5.later b6)
               have hcd := bs_text o6.bs
               rw [hBl] at hcd
               have x6 := x5.later b6
               have r6 := r5.later b6
               have S6 := S5.next (Stp.of_below b6 (fun _ => False)) (fun _ h => h.elim)
               clear x5 r5 S5 b6 hb5 o6)
            | (refine at_bldE0 (by rfl) (by rfl) ?_)
            | (refine at_putE (by rfl) _ _ (by rfl) gr (by rfl) Ent.zero (by rfl) Ent.zero r6 ?_; intro w7 r7 s7))
          have S7 := S6.next s7 (fun y hy => .inl (by subst hy; exact hgr))
          exact bodyPost_ret (retCtt srtE Try.results15 rfl rfl rfl r7 rfl) rfl ⟨by rw [E1.out, E2.out]; rfl, S7.below (Nat.le_refl _) (fun _ h => h)⟩
theorem rdat_any (p : Ld) (k : Int) (w : World) : Calls Try.prog 15 #[.agg p.cs.toArray, .int .i64 k] w fun e w' => e = .returned (.tuple #[.agg (atE p k).cs.toArray, .int .i64 (atI p k), .int .i64 (skE k)]) ∧ Below w.heap.size w w' := by
  by_cases h : isD k
  · have e3 : skE k = 0 := by unfold skE; rw [if_pos h]
    obtain ⟨j, rfl, hj⟩ := nat_of_isD h
    rw [atE_at p j hj, atI_at p j hj, e3]
    exact rdat_at p j w hj
  · have e1 : atE p k = Ent.zero := by unfold atE; rw [if_neg h]
    have e2 : atI p k = 0 := by unfold atI; rw [if_neg h]
    have e3 : skE k = 2 := by unfold skE; rw [if_neg h]
    rw [e1, e2, e3]
    exact rdat_no p k w h
end Go.Proofs.Ytbmfoefapbakmaa
