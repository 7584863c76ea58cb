/-
  What the document's With and Without of layer 12 return, for every input: no statement is proved here.
-/
import Derived.Test.YtbmfoefapbakmaaDirG
namespace Go.Proofs.Ytbmfoefapbakmaa
open Go.ChangeShapes Go.WideShapes Go.ChangeAt Go.RowKit
set_option linter.unusedVariables false

set_option maxRecDepth 100000 in
set_option maxHeartbeats 1000000 in
theorem rwith_no (p : Ld) (k : Int) (x : Ent) (w : World) (h : ¬ isD k) : Calls Try.prog 17 #[.agg p.cs.toArray, .int .i64 k, .agg x.cs.toArray] w fun e w' => e = .returned (.tuple #[.agg Ld.zero.cs.toArray, .int .i64 2]) ∧ Below w.heap.size w w' := by
  have hp := p.len
  by_cases h0 : k < 0
  · go_enter Try.func17, Try.ntmps17
    go_wp2_with (first
      | (refine at_box 36 54 arrL (by rfl) _ (by rfl) p.l (by rfl) hp ?_; intro g1 w1 a1 z1 r1 b1)
      | (refine at_boxE (by rfl) _ (by rfl) x (by rfl) ?_; intro gx w2 a2 z2 r2 b2)
      | (refine at_new 36 54 arrL (by rfl) (by rfl) ?_; intro gr w3 a3 z3 r3 b3)
      | (refine at_bldL (by rfl) (by rfl) ?_)
      | (refine at_put 36 54 arrL (by rfl) _ _ (by rfl) gr (by rfl) Ld.zero.l (by rfl) Ld.zero.len _ r3 (by simp) ?_; intro w6 r6 s6))
    have S6 : Stp (fun y => w.heap.size ≤ y) w w6 := (Stp.of_below (bnext (bnext b1 b2 (Nat.le_refl _)) b3 (Nat.le_refl _)) _).next s6 (fun y hy => .inl (by subst hy; have := b1.size; have := b2.size; omega))
    exact bodyPost_ret (retAt arrL Try.results17 rfl rfl r6 Ld.zero.len) rfl ⟨rfl, S6.below (Nat.le_refl _) (fun _ h => h)⟩
  · have h3 : 3 < k := by
      by_cases h3 : 3 < k
      · exact h3
      · exact absurd ⟨by omega, by omega⟩ h
    clear h
    go_enter Try.func17, Try.ntmps17
    go_wp2_with (first
      | (refine at_box 36 54 arrL (by rfl) _ (by rfl) p.l (by rfl) hp ?_; intro g1 w1 a1 z1 r1 b1)
      | (refine at_boxE (by rfl) _ (by rfl) x (by rfl) ?_; intro gx w2 a2 z2 r2 b2)
      | (refine at_new 36 54 arrL (by rfl) (by rfl) ?_; intro gr w3 a3 z3 r3 b3)
      | (refine at_bldL (by rfl) (by rfl) ?_)
      | (refine at_put 36 54 arrL (by rfl) _ _ (by rfl) gr (by rfl) Ld.zero.l (by rfl) Ld.zero.len _ r3 (by simp) ?_; intro w6 r6 s6))
    have S6 : Stp (fun y => w.heap.size ≤ y) w w6 := (Stp.of_below (bnext (bnext b1 b2 (Nat.le_refl _)) b3 (Nat.le_refl _)) _).next s6 (fun y hy => .inl (by subst hy; have := b1.size; have := b2.size; omega))
    exact bodyPost_ret (retAt arrL Try.results17 rfl rfl r6 Ld.zero.len) rfl ⟨rfl, S6.below (Nat.le_refl _) (fun _ h => h)⟩
set_option maxRecDepth 100000 in
set_option maxHeartbeats 1000000 in
theorem rwith_any (p : Ld) (k : Int) (x : Ent) (w : World) : Calls Try.prog 17 #[.agg p.cs.toArray, .int .i64 k, .agg x.cs.toArray] w fun e w' => e = .returned (.tuple #[.agg (wiL p k x).cs.toArray, .int .i64 (wiE k x)]) ∧ Below w.heap.size w w' := by
  have hp := p.len
  have H2 := rdput_any x
  have hb := dB_len x
  by_cases h : isD k
  · have e3 : wiE k x = dE x := by unfold wiE; rw [if_pos h]
    rw [e3]
    by_cases h2 : dE x = 0
    · have e1 : wiL p k x = dputs p k.toNat (dB x) := by unfold wiL dB; rw [if_pos ⟨h, h2⟩, if_pos h2]
      rw [e1]
      obtain ⟨j, rfl, hj⟩ := nat_of_isD h
      rw [Int.toNat_natCast]
      have hj1 : ¬ (j : Int) < 0 := by omega
      have hj2 : ¬ 3 < (j : Int) := by omega
      have H3 := fun B g c w hO => rlay_at p j (dB x) B g c w hj hb hO
      have hq := (dputs p j (dB x)).len
      rw [h2]
      rw [h2] at H2
      generalize dputs p j (dB x) = q at *
      generalize dB x = D at *
      clear h h2 e1 e3
      go_enter Try.func17, Try.ntmps17
      go_wp2_with (first
        | (refine at_box 36 54 arrL (by rfl) _ (by rfl) p.l (by rfl) hp ?_; intro g1 w1 a1 z1 r1 b1)
        | (refine at_boxE (by rfl) _ (by rfl) x (by rfl) ?_; intro gx w2 a2 z2 r2 b2)
        | (refine at_new 36 54 arrL (by rfl) (by rfl) ?_; intro gr w3 a3 z3 r3 b3; have y3 := (r1.later b2).later b3; have x3 := r2.later b3; have B3 := bnext (bnext b1 b2 (Nat.le_refl _)) b3 (Nat.le_refl _))
        | (refine at_getE (by rfl) _ (by rfl) gx (by rfl) x x3 ?_)
        | (go_at_call 9; refine (H2 _).mono ?_; rintro e w4 ⟨gd, cd, rfl, o4, b4⟩; have y4 := y3.later b4; have r4 := r3.later b4)
        | (refine at_getL (by rfl) _ (by rfl) g1 (by rfl) p y4 ?_)
        | (go_at_call 37; refine (H3 _ _ _ _ o4).mono ?_; rintro e w7 ⟨rfl, b7⟩; have r7 := r4.later b7)
        | (refine at_put 36 54 arrL (by rfl) _ _ (by rfl) gr (by rfl) q.l (by rfl) hq _ r7 (by simp) ?_; intro w8 r8 s8))
      have S8 : Stp (fun y => w.heap.size ≤ y) w w8 := (Stp.of_below (bnext (bnext B3 b4 (Nat.le_refl _)) b7 (Nat.le_refl _)) _).next s8 (fun y hy => .inl (by subst hy; have := b1.size; have := b2.size; omega))
      exact bodyPost_ret (retAt arrL Try.results17 rfl rfl r8 hq) rfl ⟨rfl, S8.below (Nat.le_refl _) (fun _ h => h)⟩
    · have e1 : wiL p k x = Ld.zero := by unfold wiL; rw [if_neg (fun hh => h2 hh.2)]
      rw [e1]
      have hj1 : ¬ k < 0 := by have := h.1; omega
      have hj2 : ¬ 3 < k := by have := h.2; omega
      generalize dE x = EE at *
      generalize dB x = D at *
      clear h e1 e3
      go_enter Try.func17, Try.ntmps17
      go_wp2_with (first
        | (refine at_box 36 54 arrL (by rfl) _ (by rfl) p.l (by rfl) hp ?_; intro g1 w1 a1 z1 r1 b1)
        | (refine at_boxE (by rfl) _ (by rfl) x (by rfl) ?_; intro gx w2 a2 z2 r2 b2)
        | (refine at_new 36 54 arrL (by rfl) (by rfl) ?_; intro gr w3 a3 z3 r3 b3; have x3 := r2.later b3; have B3 := bnext (bnext b1 b2 (Nat.le_refl _)) b3 (Nat.le_refl _))
        | (refine at_getE (by rfl) _ (by rfl) gx (by rfl) x x3 ?_)
        | (go_at_call 9; refine (H2 _).mono ?_; rintro e w4 ⟨gd, cd, rfl, o4, b4⟩; have r4 := r3.later b4)
        | (refine at_bldL (by rfl) (by rfl) ?_)
        | (refine at_put 36 54 arrL (by rfl) _ _ (by rfl) gr (by rfl) Ld.zero.l (by rfl) Ld.zero.len _ r4 (by simp) ?_; intro w8 r8 s8))
      have S8 : Stp (fun y => w.heap.size ≤ y) w w8 := (Stp.of_below (bnext B3 b4 (Nat.le_refl _)) _).next s8 (fun y hy => .inl (by subst hy; have := b1.size; have := b2.size; omega))
      exact bodyPost_ret (retAt arrL Try.results17 rfl rfl r8 Ld.zero.len) rfl ⟨rfl, S8.below (Nat.le_refl _) (fun _ h => h)⟩
  · have e1 : wiL p k x = Ld.zero := by unfold wiL; rw [if_neg (fun hh => h hh.1)]
    have e3 : wiE k x = 2 := by unfold wiE; rw [if_neg h]
    rw [e1, e3]
    exact rwith_no p k x w h
theorem rwithout_no (p : Ld) (k : Int) (w : World) (h : ¬ isD k) : Calls Try.prog 19 #[.agg p.cs.toArray, .int .i64 k] w fun e w' => e = .returned (.tuple #[.agg Ld.zero.cs.toArray, .int .i64 2]) ∧ Below w.heap.size w w' := by
  have hp := p.len
  by_cases h0 : k < 0
  · go_enter Try.func19, Try.ntmps19
    go_wp2_with (first
      | (refine at_box 36 54 arrL (by rfl) _ (by rfl) p.l (by rfl) hp ?_; intro g1 w1 a1 z1 r1 b1)
      | (refine at_new 36 54 arrL (by rfl) (by rfl) ?_; intro gr w3 a3 z3 r3 b3)
      | (refine at_bldL (by rfl) (by rfl) ?_)
      | (refine at_put 36 54 arrL (by rfl) _ _ (by rfl) gr (by rfl) Ld.zero.l (by rfl) Ld.zero.len _ r3 (by simp) ?_; intro w6 r6 s6))
    have S6 : Stp (fun y => w.heap.size ≤ y) w w6 := (Stp.of_below (bnext b1 b3 (Nat.le_refl _)) _).next s6 (fun y hy => .inl (by subst hy; have := b1.size; omega))
    exact bodyPost_ret (retAt arrL Try.results19 rfl rfl r6 Ld.zero.len) rfl ⟨rfl, S6.below (Nat.le_refl _) (fun _ h => h)⟩
  · have h3 : 3 < k := by
      by_cases h3 : 3 < k
      · exact h3
      · exact absurd ⟨by omega, by omega⟩ h
    clear h
    go_enter Try.func19, Try.ntmps19
    go_wp2_with (first
      | (refine at_box 36 54 arrL (by rfl) _ (by rfl) p.l (by rfl) hp ?_; intro g1 w1 a1 z1 r1 b1)
      | (refine at_new 36 54 arrL (by rfl) (by rfl) ?_; intro gr w3 a3 z3 r3 b3)
      | (refine at_bldL (by rfl) (by rfl) ?_)
      | (refine at_put 36 54 arrL (by rfl) _ _ (by rfl) gr (by rfl) Ld.zero.l (by rfl) Ld.zero.len _ r3 (by simp) ?_; intro w6 r6 s6))
    have S6 : Stp (fun y => w.heap.size ≤ y) w w6 := (Stp.of_below (bnext b1 b3 (Nat.le_refl _)) _).next s6 (fun y hy => .inl (by subst hy; have := b1.size; omega))
    exact bodyPost_ret (retAt arrL Try.results19 rfl rfl r6 Ld.zero.len) rfl ⟨rfl, S6.below (Nat.le_refl _) (fun _ h => h)⟩
set_option maxRecDepth 100000 in
set_option maxHeartbeats 1000000 in
theorem rwithout_any (p : Ld) (k : Int) (w : World) : Calls Try.prog 19 #[.agg p.cs.toArray, .int .i64 k] w fun e w' => e = .returned (.tuple #[.agg (woL p k).cs.toArray, .int .i64 (skE k)]) ∧ Below w.heap.size w w' := by
  have hp := p.len
  have hzz : z13.length = 13 := rfl
  by_cases h : isD k
  · have e3 : skE k = 0 := by unfold skE; rw [if_pos h]
    have e1 : woL p k = dputs p k.toNat z13 := by unfold woL; rw [if_pos h]
    rw [e3, e1]
    obtain ⟨j, rfl, hj⟩ := nat_of_isD h
    rw [Int.toNat_natCast]
    have hj1 : ¬ (j : Int) < 0 := by omega
    have hj2 : ¬ 3 < (j : Int) := by omega
    have H3 := fun B g c w hO => rlay_at p j z13 B g c w hj hzz hO
    have hq := (dputs p j z13).len
    generalize dputs p j z13 = q at *
    clear h e1 e3
    go_enter Try.func19, Try.ntmps19
    go_wp2_with (first
      | (refine at_box 36 54 arrL (by rfl) _ (by rfl) p.l (by rfl) hp ?_; intro g1 w1 a1 z1 r1 b1)
      | (refine at_new 36 54 arrL (by rfl) (by rfl) ?_; intro gr W a3 z3 r3 b3; have y3 := r1.later b3))
    have B3 := bnext b1 b3 (Nat.le_refl _)
    have hgr : w.heap.size ≤ gr := by have := b1.size; omega
    have hxr : ¬ g1 = gr := by have := r1.lt; omega
    have kp : ∀ u, Stp (fun y => y = gr) W u → Row u g1 p.l := fun u hu => y3.step hu hxr
    clear r1 b1 b3 a1 z1 a3 z3
    refine wp_region_held_drew (S := fun u => Stp (fun y => y = gr) W u) (by kernel_rfl) (Stp.refl _ _).drew (fun hHeld => ?_)
    have rz := r3.later (Below.refl W.heap.size W).drew
    refine wpAnyH_take (i := 0) (oi := { dst := some 13, op := Op.load 36 (Operand.tmp 2), type := 36, pos := _, after := #[], guard := none }) (v := .agg p.cs.toArray) rfl (by kernel_rfl) (by kernel_rfl) (by kernel_rfl) (fun _ _ _ h => h)
      (yields_row 36 54 arrL (by rfl) (.tmp 2) rfl g1 (by rfl) p.l hp (fun u hu => kp u hu)) hHeld ?_
    try simp only [Act.put, List.setIfInBounds_toArray, List.set_cons_zero, List.set_cons_succ]
    refine wpAnyH_take (i := 1) (oi := { dst := some 14, op := Op.move (Operand.tmp 1), type := 3, pos := _, after := #[], guard := none }) (v := .int .i64 (j : Int)) rfl (by kernel_rfl) (by kernel_rfl) (by kernel_rfl) (fun _ _ _ h => h) (Or.inl ⟨by rfl, ?_⟩) hHeld ?_
    · intro u hu
      go_simp
    try simp only [Act.put, List.setIfInBounds_toArray, List.set_cons_zero, List.set_cons_succ]
    refine wpAnyH_ready (rs := [2]) (by kernel_rfl) (by simp) ?_
    refine (AllReadyH.cons (o := { dst := some 15, op := Op.makeSlice 28 (Operand.const (Value.int IntKind.i64 13)) (Operand.const (Value.int IntKind.i64 13)), type := 28, pos := _, after := #[], guard := none }) rfl (fun K hK => ?_) AllReadyH.nil)
    refine step_mk13 (B := W.heap.size) rfl rfl hHeld.size ?_
    intro g2 v2 a2 o2 b2
    try (have rz := rz.later b2)
    refine hK.out _ _ (hHeld.next (Stp.of_below b2 (fun _ => False)) (fun _ h => h.elim)) (fun hHeld => ?_)
    clear hK K
    try simp only [Act.put, List.setIfInBounds_toArray, List.set_cons_zero, List.set_cons_succ]
    refine wpAnyH_ready (rs := [3]) (by kernel_rfl) (by simp) ?_
    refine (AllReadyH.cons (o := { dst := some 16, op := Op.call { callee := Callee.value (Operand.func 37), args := #[Operand.tmp 13, Operand.tmp 14, Operand.tmp 15], argTypes := #[36, 3, 28] }, type := 36, pos := _, after := #[{ on := 0, ground := Ground.data }, { on := 1, ground := Ground.data }, { on := 2, ground := Ground.data }], guard := none }) rfl (fun K hK => ?_) AllReadyH.nil)
    go_simp
    refine (H3 _ _ _ _ o2).mono ?_
    rintro e v3 ⟨rfl, b3⟩
    try go_wp2_with fail
    have rz := rz.later b3
    refine hK.out _ _ (hHeld.next (Stp.of_below b3 (fun _ => False)) (fun _ h => h.elim)) (fun hHeld => ?_)
    clear hK K
    try simp only [Act.put, List.setIfInBounds_toArray, List.set_cons_zero, List.set_cons_succ]
    refine wpAnyH_ready (rs := [4]) (by kernel_rfl) (by simp) ?_
    refine (AllReadyH.cons (o := { dst := none, op := Op.store 36 (Operand.tmp 4) (Operand.tmp 16), type := 0, pos := _, after := #[{ on := 3, ground := Ground.data }, { on := 3, ground := Ground.chain }, { on := 0, ground := Ground.phase }, { on := 1, ground := Ground.phase }, { on := 2, ground := Ground.phase }, { on := 3, ground := Ground.phase }], guard := none }) rfl (fun K hK => ?_) AllReadyH.nil)
    refine step_put 36 54 arrL rfl (.tmp 4) (.tmp 16) rfl gr (by rfl) q.l (by rfl) hq _ rz (by simp) ?_
    intro v4 r4 s4
    refine hK.out _ _ (hHeld.next s4 (fun _ h => .inl h)) (fun hHeld => ?_)
    clear hK K
    try simp only [Act.put]
    refine wpAnyH_take (i := 5) (oi := { dst := some 5, op := Op.assign (Operand.const (Value.int IntKind.i64 0)), type := 25, pos := _, after := #[{ on := 4, ground := Ground.chain }, { on := 0, ground := Ground.phase }, { on := 1, ground := Ground.phase }, { on := 2, ground := Ground.phase }, { on := 3, ground := Ground.phase }, { on := 4, ground := Ground.phase }], guard := none }) (v := .int .i64 0) rfl (by kernel_rfl) (by kernel_rfl) (by kernel_rfl) (fun _ _ _ h => h) (Or.inl ⟨by rfl, ?_⟩) hHeld ?_
    · intro u hu
      go_simp
    try simp only [Act.put, List.setIfInBounds_toArray, List.set_cons_zero, List.set_cons_succ]
    refine wpAnyH_done (by kernel_rfl) ?_ _
    go_wp2_with fail
    have S4 : Stp (fun y => w.heap.size ≤ y) w v4 := (Stp.of_below B3 _).next hHeld (fun y hy => .inl (by subst hy; exact hgr))
    exact bodyPost_ret (retAt arrL Try.results19 rfl rfl r4 hq) rfl ⟨rfl, S4.below (Nat.le_refl _) (fun _ h => h)⟩
  · have e3 : skE k = 2 := by unfold skE; rw [if_neg h]
    have e1 : woL p k = Ld.zero := by unfold woL; rw [if_neg h]
    rw [e1, e3]
    exact rwithout_no p k w h
end Go.Proofs.Ytbmfoefapbakmaa
