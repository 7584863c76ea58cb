/-
  The statement SealNexts, proved: for every kind, load and two sectors the law returns true, and what came in reads as it did; no condition.
-/
import Derived.Test.YtkejgacelbnpnaaSealK
namespace Go.Proofs.Ytkejgacelbnpnaa.sealNexts
open Go.ChangeShapes Go.WideShapes Go.ChangeAt Go.RowKit
set_option linter.unusedVariables false

theorem sm2_self (b : Blk) : sm2 b b = true := by
  unfold sm2; rw [if_pos rfl]; split <;> simp
set_option maxRecDepth 100000 in
set_option maxHeartbeats 4000000 in
theorem walk (k : Int) (a : Blk) (p : Ld) (b : Blk) (w : World) (w0 : (Lit.int .i64 k).wf = true) :
    Calls Try.prog 4 #[.int .i64 k, .agg a.cs.toArray, .agg p.cs.toArray, .agg b.cs.toArray] w fun e w' => e = .returned (.bool true) ∧ Below w.heap.size w w' := by
  have hp := p.len
  have hb := b.len
  have ha := a.len
  have H1 : Hid (∀ w, Calls Try.prog 15 _ w _) := fun w => next_any k a p w
  have H2 : Hid (∀ w, Calls Try.prog 16 _ w _) := fun w => rnext_any k a p w
  have hX := (pB k (nT a) p).len
  generalize pB k (nT a) p = X at *
  generalize hd : sm2 a b = d
  have qB : ∀ w, (Op.equalIn 10000 26 (.agg X.cs.toArray) (.agg X.cs.toArray)).run Try.prog w = .ok true w := fun w => by rw [eqB]; simp
  have gB := guardB
  have t0 : True := trivial
  have t1 : True := trivial
  go_enter Try.func4, Try.ntmps4
  go_wp2_with (first
    | (have _t := t0; refine at_box 26 64 arrB (by rfl) _ (by rfl) a.l (by rfl) ha ?_; intro ga w0 a0 z0 r0 b0; clear _t t0)
    | (refine at_box 24 54 arrL (by rfl) _ (by rfl) p.l (by rfl) hp ?_; intro gl w1 a1 z1 r1 b1)
    | (refine at_box 26 64 arrB (by rfl) _ (by rfl) b.l (by rfl) hb ?_; intro gb w2 a2 z2 r2 b2
       have x2 : Row w2 ga a.l := (r0.later b1).later b2
       have l2 : Row w2 gl p.l := r1.later b2)
    | (refine at_getB (by rfl) _ (by rfl) ga (by rfl) a x5 ?_)
    | (refine at_getL (by rfl) _ (by rfl) gl (by rfl) p l5 ?_)
    | (refine at_getB (by rfl) _ (by rfl) ga (by rfl) a x2 ?_)
    | (refine at_getL (by rfl) _ (by rfl) gl (by rfl) p l2 ?_)
    | (go_at_call 15; refine (H1.out _).mono ?_; rintro e w3 ⟨rfl, b3⟩)
    | (have _t := t1; refine at_new 26 64 arrB (by rfl) (by rfl) ?_; intro gx w4 a4 z4 r4 b4; clear _t)
    | (have _t := t1; refine at_put 26 64 arrB (by rfl) _ _ (by rfl) gx (by rfl) X.l (by rfl) hX _ r4 (by simp) ?_; intro w5 r5 s5; clear _t t1
       have x5 : Row w5 ga a.l := ((x2.later b3).later b4).step s5 (by have := x2.lt; have := b3.size; omega)
       have l5 : Row w5 gl p.l := ((l2.later b3).later b4).step s5 (by have := l2.lt; have := b3.size; omega)
       have rb5 : Row w5 gb b.l := ((r2.later b3).later b4).step s5 (by have := r2.lt; have := b3.size; omega)
       have S5 : Stp (fun x => w.heap.size ≤ x) w w5 := (Stp.of_below (bnext (bnext (bnext (bnext b0 b1 (Nat.le_refl _)) b2 (Nat.le_refl _)) b3 (Nat.le_refl _)) b4 (Nat.le_refl _)) (fun x => w.heap.size ≤ x)).next s5 (fun x hx => .inl (by subst hx; have := b0.size; have := b1.size; have := b2.size; have := b3.size; omega))
       clear r0 r1 r2 x2 l2 r4 b0 b1 b2 b3 b4 a0 a1 a2 z0 z1 z2 s5)
    | (go_at_call 16; refine (H2.out _).mono ?_; rintro e w6 ⟨rfl, b6⟩)
    | (refine at_new 26 64 arrB (by rfl) (by rfl) ?_; intro gy w7 a7 z7 r7 b7)
    | (refine at_put 26 64 arrB (by rfl) _ _ (by rfl) gy (by rfl) X.l (by rfl) hX _ r7 (by simp) ?_; intro W ry s8
       have rb : Row W gb b.l := ((rb5.later b6).later b7).step s8 (by have := rb5.lt; have := b6.size; omega)
       have ra : Row W ga a.l := ((x5.later b6).later b7).step s8 (by have := x5.lt; have := b6.size; omega)
       have rx : Row W gx X.l := ((r5.later b6).later b7).step s8 (by have := r5.lt; have := b6.size; omega)
       have S := (S5.next (Stp.of_below (bnext b6 b7 (Nat.le_refl _)) (fun _ => False)) (fun _ h => h.elim)).next s8 (fun x hx => .inl (by subst hx; have := S5.size; have := b6.size; omega))
       clear rb5 x5 r5 S5 r7 b6 b7 s8 a7 z7 l5))
  clear H1 H2 a4 z4
  refine wp_region_held_drew (S := fun u => Below W.heap.size W u) (by kernel_rfl) (Below.refl _ _).drew (fun hHeld => ?_)
  refine wpAnyH_take (i := 0) (oi := { dst := some 27, op := Op.load 26 (Operand.tmp 9), type := 26, pos := _, after := #[], guard := none }) (v := .agg X.cs.toArray) rfl (by kernel_rfl) (by kernel_rfl) (by kernel_rfl) (fun _ _ _ h => h)
    (yields_row 26 64 arrB (by rfl) (.tmp 9) rfl gx (by rfl) X.l hX (fun u hu => rx.later hu)) hHeld ?_
  try simp only [Act.put, List.setIfInBounds_toArray, List.set_cons_zero, List.set_cons_succ]
  refine wpAnyH_take (i := 1) (oi := { dst := some 28, op := Op.load 26 (Operand.tmp 11), type := 26, pos := _, after := #[], guard := none }) (v := .agg X.cs.toArray) rfl (by kernel_rfl) (by kernel_rfl) (by kernel_rfl) (fun _ _ _ h => h)
    (yields_row 26 64 arrB (by rfl) (.tmp 11) rfl gy (by rfl) X.l hX (fun u hu => ry.later hu)) hHeld ?_
  try simp only [Act.put, List.setIfInBounds_toArray, List.set_cons_zero, List.set_cons_succ]
  refine wpAnyH_take (i := 2) (oi := { dst := some 29, op := Op.binOp BinOp.eql 26 (Operand.tmp 27) (Operand.tmp 28) 26, type := 4, pos := _, after := #[{ on := 0, ground := Ground.data }, { on := 1, ground := Ground.data }], guard := none }) (v := .bool true) rfl (by kernel_rfl) (by kernel_rfl) (by kernel_rfl) (fun _ _ _ h => h) (Or.inl ⟨by rfl, ?_⟩) hHeld ?_
  · intro u hu
    go_simp
  try simp only [Act.put, List.setIfInBounds_toArray, List.set_cons_zero, List.set_cons_succ]
  refine wpAnyH_take (i := 3) (oi := { dst := some 30, op := Op.move (Operand.tmp 29), type := 4, pos := _, after := #[{ on := 2, ground := Ground.data }], guard := none }) (v := .bool true) rfl (by kernel_rfl) (by kernel_rfl) (by kernel_rfl) (fun _ _ _ h => h) (Or.inl ⟨by rfl, ?_⟩) hHeld ?_
  · intro u hu
    go_simp
  try simp only [Act.put, List.setIfInBounds_toArray, List.set_cons_zero, List.set_cons_succ]
  refine wpAnyH_take (i := 4) (oi := { dst := some 31, op := Op.move (Operand.tmp 10), type := 27, pos := _, after := #[{ on := 3, ground := Ground.guard }], guard := some (3, true) }) (v := .int .i64 (pE k)) rfl (by kernel_rfl) (by kernel_rfl) (by kernel_rfl) (fun _ _ _ h => h) (Or.inl ⟨by rfl, ?_⟩) hHeld ?_
  · intro u hu
    go_simp
  try simp only [Act.put, List.setIfInBounds_toArray, List.set_cons_zero, List.set_cons_succ]
  refine wpAnyH_take (i := 5) (oi := { dst := some 32, op := Op.move (Operand.tmp 12), type := 27, pos := _, after := #[{ on := 3, ground := Ground.guard }], guard := some (3, true) }) (v := .int .i64 (pE k)) rfl (by kernel_rfl) (by kernel_rfl) (by kernel_rfl) (fun _ _ _ h => h) (Or.inl ⟨by rfl, ?_⟩) hHeld ?_
  · intro u hu
    go_simp
  try simp only [Act.put, List.setIfInBounds_toArray, List.set_cons_zero, List.set_cons_succ]
  refine wpAnyH_take (i := 6) (oi := { dst := some 33, op := Op.binOp BinOp.eql 27 (Operand.tmp 31) (Operand.tmp 32) 27, type := 4, pos := _, after := #[{ on := 4, ground := Ground.data }, { on := 5, ground := Ground.data }, { on := 3, ground := Ground.guard }], guard := some (3, true) }) (v := .bool true) rfl (by kernel_rfl) (by kernel_rfl) (by kernel_rfl) (fun _ _ _ h => h) (Or.inl ⟨by rfl, ?_⟩) hHeld ?_
  · intro u hu
    go_simp
  try simp only [Act.put, List.setIfInBounds_toArray, List.set_cons_zero, List.set_cons_succ]
  refine wpAnyH_take (i := 7) (oi := { dst := some 34, op := Op.pick (Operand.tmp 30) (Operand.tmp 33) (Operand.const (Value.bool false)), type := 4, pos := _, after := #[{ on := 3, ground := Ground.data }, { on := 6, ground := Ground.data }], guard := none }) (v := .bool true) rfl (by kernel_rfl) (by kernel_rfl) (by kernel_rfl) (fun _ _ _ h => h) (Or.inl ⟨by rfl, ?_⟩) hHeld ?_
  · intro u hu
    go_simp
  try simp only [Act.put, List.setIfInBounds_toArray, List.set_cons_zero, List.set_cons_succ]
  refine wpAnyH_take (i := 8) (oi := { dst := some 35, op := Op.move (Operand.tmp 34), type := 4, pos := _, after := #[{ on := 7, ground := Ground.data }, { on := 3, ground := Ground.chain }], guard := none }) (v := .bool true) rfl (by kernel_rfl) (by kernel_rfl) (by kernel_rfl) (fun _ _ _ h => h) (Or.inl ⟨by rfl, ?_⟩) hHeld ?_
  · intro u hu
    go_simp
  try simp only [Act.put, List.setIfInBounds_toArray, List.set_cons_zero, List.set_cons_succ]
  refine wpAnyH_take (i := 9) (oi := { dst := some 36, op := Op.load 26 (Operand.tmp 5), type := 26, pos := _, after := #[{ on := 8, ground := Ground.guard }], guard := some (8, true) }) (v := .agg a.cs.toArray) rfl (by kernel_rfl) (by kernel_rfl) (by kernel_rfl) (fun _ _ _ h => h)
    (yields_row 26 64 arrB (by rfl) (.tmp 5) rfl ga (by rfl) a.l ha (fun u hu => ra.later hu)) hHeld ?_
  try simp only [Act.put, List.setIfInBounds_toArray, List.set_cons_zero, List.set_cons_succ]
  refine wpAnyH_take (i := 10) (oi := { dst := some 37, op := Op.load 26 (Operand.tmp 7), type := 26, pos := _, after := #[{ on := 8, ground := Ground.guard }], guard := some (8, true) }) (v := .agg b.cs.toArray) rfl (by kernel_rfl) (by kernel_rfl) (by kernel_rfl) (fun _ _ _ h => h)
    (yields_row 26 64 arrB (by rfl) (.tmp 7) rfl gb (by rfl) b.l hb (fun u hu => rb.later hu)) hHeld ?_
  try simp only [Act.put, List.setIfInBounds_toArray, List.set_cons_zero, List.set_cons_succ]
  refine wpAnyH_take (i := 12) (oi := { dst := some 39, op := Op.load 26 (Operand.tmp 5), type := 26, pos := _, after := #[{ on := 8, ground := Ground.guard }], guard := some (8, true) }) (v := .agg a.cs.toArray) rfl (by kernel_rfl) (by kernel_rfl) (by kernel_rfl) (fun _ _ _ h => h)
    (yields_row 26 64 arrB (by rfl) (.tmp 5) rfl ga (by rfl) a.l ha (fun u hu => ra.later hu)) hHeld ?_
  try simp only [Act.put, List.setIfInBounds_toArray, List.set_cons_zero, List.set_cons_succ]
  refine wpAnyH_take (i := 13) (oi := { dst := some 40, op := Op.load 26 (Operand.tmp 7), type := 26, pos := _, after := #[{ on := 8, ground := Ground.guard }], guard := some (8, true) }) (v := .agg b.cs.toArray) rfl (by kernel_rfl) (by kernel_rfl) (by kernel_rfl) (fun _ _ _ h => h)
    (yields_row 26 64 arrB (by rfl) (.tmp 7) rfl gb (by rfl) b.l hb (fun u hu => rb.later hu)) hHeld ?_
  try simp only [Act.put, List.setIfInBounds_toArray, List.set_cons_zero, List.set_cons_succ]
  refine wpAnyH_ready (rs := [11]) (by kernel_rfl) (by simp) ?_
  refine AllReadyH.cons (o := { dst := some 38, op := Op.call { callee := Callee.value (Operand.func 17), args := #[Operand.tmp 36, Operand.tmp 37], argTypes := #[26, 26] }, type := 4, pos := _, after := #[{ on := 9, ground := Ground.data }, { on := 10, ground := Ground.data }, { on := 8, ground := Ground.chain }, { on := 8, ground := Ground.guard }], guard := some (8, true) }) rfl (fun K hK => ?_) AllReadyH.nil
  go_simp
  refine (same_any a b _).mono ?_
  rintro e v1 ⟨rfl, bv1⟩
  rw [hd]
  try go_wp2_with fail
  have Bv1 : Below W.heap.size W v1 := bnext (Below.refl W.heap.size W).drew bv1 (Nat.le_refl _)
  refine hK.out _ _ Bv1 (fun hHeld => ?_)
  clear hK K bv1
  try simp only [Act.put, List.setIfInBounds_toArray, List.set_cons_zero, List.set_cons_succ]
  refine wpAnyH_ready (rs := [14]) (by kernel_rfl) (by simp) ?_
  refine AllReadyH.cons (o := { dst := some 41, op := Op.call { callee := Callee.value (Operand.func 18), args := #[Operand.tmp 39, Operand.tmp 40], argTypes := #[26, 26] }, type := 4, pos := _, after := #[{ on := 12, ground := Ground.data }, { on := 13, ground := Ground.data }, { on := 11, ground := Ground.chain }, { on := 8, ground := Ground.guard }], guard := some (8, true) }) rfl (fun K hK => ?_) AllReadyH.nil
  go_simp
  refine (rsame_any a b _).mono ?_
  rintro e v2 ⟨rfl, bv2⟩
  rw [hd]
  try go_wp2_with fail
  have Bv2 : Below W.heap.size W v2 := bnext Bv1 bv2 (Nat.le_refl _)
  refine hK.out _ _ Bv2 (fun hHeld => ?_)
  clear hK K bv2
  try simp only [Act.put, List.setIfInBounds_toArray, List.set_cons_zero, List.set_cons_succ]
  refine wpAnyH_take (i := 15) (oi := { dst := some 42, op := Op.binOp BinOp.eql 4 (Operand.tmp 38) (Operand.tmp 41) 4, type := 4, pos := _, after := #[{ on := 11, ground := Ground.data }, { on := 14, ground := Ground.data }, { on := 8, ground := Ground.guard }], guard := some (8, true) }) (v := .bool true) rfl (by kernel_rfl) (by kernel_rfl) (by kernel_rfl) (fun _ _ _ h => h) (Or.inl ⟨by rfl, ?_⟩) hHeld ?_
  · intro u hu
    go_simp
  try simp only [Act.put, List.setIfInBounds_toArray, List.set_cons_zero, List.set_cons_succ]
  refine wpAnyH_take (i := 16) (oi := { dst := some 43, op := Op.pick (Operand.tmp 35) (Operand.tmp 42) (Operand.const (Value.bool false)), type := 4, pos := _, after := #[{ on := 8, ground := Ground.data }, { on := 15, ground := Ground.data }], guard := none }) (v := .bool true) rfl (by kernel_rfl) (by kernel_rfl) (by kernel_rfl) (fun _ _ _ h => h) (Or.inl ⟨by rfl, ?_⟩) hHeld ?_
  · intro u hu
    go_simp
  try simp only [Act.put, List.setIfInBounds_toArray, List.set_cons_zero, List.set_cons_succ]
  refine wpAnyH_take (i := 17) (oi := { dst := some 44, op := Op.move (Operand.tmp 43), type := 4, pos := _, after := #[{ on := 16, ground := Ground.data }, { on := 14, ground := Ground.chain }], guard := none }) (v := .bool true) rfl (by kernel_rfl) (by kernel_rfl) (by kernel_rfl) (fun _ _ _ h => h) (Or.inl ⟨by rfl, ?_⟩) hHeld ?_
  · intro u hu
    go_simp
  try simp only [Act.put, List.setIfInBounds_toArray, List.set_cons_zero, List.set_cons_succ]
  refine wpAnyH_take (i := 18) (oi := { dst := some 45, op := Op.load 26 (Operand.tmp 9), type := 26, pos := _, after := #[{ on := 17, ground := Ground.guard }], guard := some (17, true) }) (v := .agg X.cs.toArray) rfl (by kernel_rfl) (by kernel_rfl) (by kernel_rfl) (fun _ _ _ h => h)
    (yields_row 26 64 arrB (by rfl) (.tmp 9) rfl gx (by rfl) X.l hX (fun u hu => rx.later hu)) hHeld ?_
  try simp only [Act.put, List.setIfInBounds_toArray, List.set_cons_zero, List.set_cons_succ]
  refine wpAnyH_take (i := 19) (oi := { dst := some 46, op := Op.load 26 (Operand.tmp 11), type := 26, pos := _, after := #[{ on := 17, ground := Ground.guard }], guard := some (17, true) }) (v := .agg X.cs.toArray) rfl (by kernel_rfl) (by kernel_rfl) (by kernel_rfl) (fun _ _ _ h => h)
    (yields_row 26 64 arrB (by rfl) (.tmp 11) rfl gy (by rfl) X.l hX (fun u hu => ry.later hu)) hHeld ?_
  try simp only [Act.put, List.setIfInBounds_toArray, List.set_cons_zero, List.set_cons_succ]
  refine wpAnyH_ready (rs := [20]) (by kernel_rfl) (by simp) ?_
  refine AllReadyH.cons (o := { dst := some 47, op := Op.call { callee := Callee.value (Operand.func 17), args := #[Operand.tmp 45, Operand.tmp 46], argTypes := #[26, 26] }, type := 4, pos := _, after := #[{ on := 18, ground := Ground.data }, { on := 19, ground := Ground.data }, { on := 17, ground := Ground.chain }, { on := 17, ground := Ground.guard }], guard := some (17, true) }) rfl (fun K hK => ?_) AllReadyH.nil
  go_simp
  refine (same_any X X _).mono ?_
  rintro e v3 ⟨rfl, bv3⟩
  rw [sm2_self]
  try go_wp2_with fail
  have Bv3 : Below W.heap.size W v3 := bnext Bv2 bv3 (Nat.le_refl _)
  refine hK.out _ _ Bv3 (fun hHeld => ?_)
  clear hK K bv3
  try simp only [Act.put, List.setIfInBounds_toArray, List.set_cons_zero, List.set_cons_succ]
  refine wpAnyH_take (i := 21) (oi := { dst := some 48, op := Op.pick (Operand.tmp 44) (Operand.tmp 47) (Operand.const (Value.bool false)), type := 4, pos := _, after := #[{ on := 17, ground := Ground.data }, { on := 20, ground := Ground.data }], guard := none }) (v := .bool true) rfl (by kernel_rfl) (by kernel_rfl) (by kernel_rfl) (fun _ _ _ h => h) (Or.inl ⟨by rfl, ?_⟩) hHeld ?_
  · intro u hu
    go_simp
  try simp only [Act.put, List.setIfInBounds_toArray, List.set_cons_zero, List.set_cons_succ]
  refine wpAnyH_take (i := 22) (oi := { dst := some 49, op := Op.move (Operand.tmp 48), type := 4, pos := _, after := #[{ on := 21, ground := Ground.data }, { on := 20, ground := Ground.chain }], guard := none }) (v := .bool true) rfl (by kernel_rfl) (by kernel_rfl) (by kernel_rfl) (fun _ _ _ h => h) (Or.inl ⟨by rfl, ?_⟩) hHeld ?_
  · intro u hu
    go_simp
  try simp only [Act.put, List.setIfInBounds_toArray, List.set_cons_zero, List.set_cons_succ]
  refine wpAnyH_take (i := 23) (oi := { dst := some 50, op := Op.load 26 (Operand.tmp 7), type := 26, pos := _, after := #[{ on := 22, ground := Ground.guard }], guard := some (22, true) }) (v := .agg b.cs.toArray) rfl (by kernel_rfl) (by kernel_rfl) (by kernel_rfl) (fun _ _ _ h => h)
    (yields_row 26 64 arrB (by rfl) (.tmp 7) rfl gb (by rfl) b.l hb (fun u hu => rb.later hu)) hHeld ?_
  try simp only [Act.put, List.setIfInBounds_toArray, List.set_cons_zero, List.set_cons_succ]
  refine wpAnyH_take (i := 24) (oi := { dst := some 51, op := Op.load 26 (Operand.tmp 7), type := 26, pos := _, after := #[{ on := 22, ground := Ground.guard }], guard := some (22, true) }) (v := .agg b.cs.toArray) rfl (by kernel_rfl) (by kernel_rfl) (by kernel_rfl) (fun _ _ _ h => h)
    (yields_row 26 64 arrB (by rfl) (.tmp 7) rfl gb (by rfl) b.l hb (fun u hu => rb.later hu)) hHeld ?_
  try simp only [Act.put, List.setIfInBounds_toArray, List.set_cons_zero, List.set_cons_succ]
  refine wpAnyH_ready (rs := [25]) (by kernel_rfl) (by simp) ?_
  refine AllReadyH.cons (o := { dst := some 52, op := Op.call { callee := Callee.value (Operand.func 17), args := #[Operand.tmp 50, Operand.tmp 51], argTypes := #[26, 26] }, type := 4, pos := _, after := #[{ on := 23, ground := Ground.data }, { on := 24, ground := Ground.data }, { on := 22, ground := Ground.chain }, { on := 22, ground := Ground.guard }], guard := some (22, true) }) rfl (fun K hK => ?_) AllReadyH.nil
  go_simp
  refine (same_any b b _).mono ?_
  rintro e v4 ⟨rfl, bv4⟩
  rw [sm2_self]
  try go_wp2_with fail
  have Bv4 : Below W.heap.size W v4 := bnext Bv3 bv4 (Nat.le_refl _)
  refine hK.out _ _ Bv4 (fun hHeld => ?_)
  clear hK K bv4
  try simp only [Act.put, List.setIfInBounds_toArray, List.set_cons_zero, List.set_cons_succ]
  refine wpAnyH_take (i := 26) (oi := { dst := some 53, op := Op.pick (Operand.tmp 49) (Operand.tmp 52) (Operand.const (Value.bool false)), type := 4, pos := _, after := #[{ on := 22, ground := Ground.data }, { on := 25, ground := Ground.data }], guard := none }) (v := .bool true) rfl (by kernel_rfl) (by kernel_rfl) (by kernel_rfl) (fun _ _ _ h => h) (Or.inl ⟨by rfl, ?_⟩) hHeld ?_
  · intro u hu
    go_simp
  try simp only [Act.put, List.setIfInBounds_toArray, List.set_cons_zero, List.set_cons_succ]
  refine wpAnyH_take (i := 27) (oi := { dst := some 54, op := Op.move (Operand.tmp 53), type := 4, pos := _, after := #[{ on := 26, ground := Ground.data }, { on := 25, ground := Ground.chain }], guard := none }) (v := .bool true) rfl (by kernel_rfl) (by kernel_rfl) (by kernel_rfl) (fun _ _ _ h => h) (Or.inl ⟨by rfl, ?_⟩) hHeld ?_
  · intro u hu
    go_simp
  try simp only [Act.put, List.setIfInBounds_toArray, List.set_cons_zero, List.set_cons_succ]
  refine wpAnyH_ready (rs := [28]) (by kernel_rfl) (by simp) ?_
  refine AllReadyH.cons (o := { dst := some 55, op := Op.call { callee := Callee.value (Operand.func 14), args := #[], argTypes := #[] }, type := 4, pos := _, after := #[{ on := 27, ground := Ground.chain }, { on := 27, ground := Ground.guard }], guard := some (27, true) }) rfl (fun K hK => ?_) AllReadyH.nil
  go_simp
  refine (works_any _).mono ?_
  rintro e v5 ⟨rfl, bv5⟩
  try go_wp2_with fail
  have Bv5 : Below W.heap.size W v5 := bnext Bv4 bv5 (Nat.le_refl _)
  refine hK.out _ _ Bv5 (fun hHeld => ?_)
  clear hK K bv5
  try simp only [Act.put, List.setIfInBounds_toArray, List.set_cons_zero, List.set_cons_succ]
  refine wpAnyH_take (i := 29) (oi := { dst := some 56, op := Op.pick (Operand.tmp 54) (Operand.tmp 55) (Operand.const (Value.bool false)), type := 4, pos := _, after := #[{ on := 27, ground := Ground.data }, { on := 28, ground := Ground.data }], guard := none }) (v := .bool true) rfl (by kernel_rfl) (by kernel_rfl) (by kernel_rfl) (fun _ _ _ h => h) (Or.inl ⟨by rfl, ?_⟩) hHeld ?_
  · intro u hu
    go_simp
  try simp only [Act.put, List.setIfInBounds_toArray, List.set_cons_zero, List.set_cons_succ]
  refine wpAnyH_take (i := 30) (oi := { dst := some 8, op := Op.assign (Operand.tmp 56), type := 4, pos := _, after := #[{ on := 29, ground := Ground.data }, { on := 28, ground := Ground.chain }, { on := 0, ground := Ground.phase }, { on := 1, ground := Ground.phase }, { on := 2, ground := Ground.phase }, { on := 3, ground := Ground.phase }, { on := 4, ground := Ground.phase }, { on := 5, ground := Ground.phase }, { on := 6, ground := Ground.phase }, { on := 7, ground := Ground.phase }, { on := 8, ground := Ground.phase }, { on := 9, ground := Ground.phase }, { on := 10, ground := Ground.phase }, { on := 11, ground := Ground.phase }, { on := 12, ground := Ground.phase }, { on := 13, ground := Ground.phase }, { on := 14, ground := Ground.phase }, { on := 15, ground := Ground.phase }, { on := 16, ground := Ground.phase }, { on := 17, ground := Ground.phase }, { on := 18, ground := Ground.phase }, { on := 19, ground := Ground.phase }, { on := 20, ground := Ground.phase }, { on := 21, ground := Ground.phase }, { on := 22, ground := Ground.phase }, { on := 23, ground := Ground.phase }, { on := 24, ground := Ground.phase }, { on := 25, ground := Ground.phase }, { on := 26, ground := Ground.phase }, { on := 27, ground := Ground.phase }, { on := 28, ground := Ground.phase }, { on := 29, ground := Ground.phase }], guard := none }) (v := .bool true) rfl (by kernel_rfl) (by kernel_rfl) (by kernel_rfl) (fun _ _ _ h => h) (Or.inl ⟨by rfl, ?_⟩) hHeld ?_
  · intro u hu
    go_simp
  try simp only [Act.put, List.setIfInBounds_toArray, List.set_cons_zero, List.set_cons_succ]
  refine wpAnyH_done (by kernel_rfl) ?_ _
  go_wp2_with fail
  go_returns
  exact ⟨rfl, (S.next (Stp.of_below Bv5 (fun _ => False)) (fun _ h => h.elim)).below (Nat.le_refl _) (fun _ h => h)⟩

theorem own : ownKnob Try.prog.godebug = none := by kernel_rfl
theorem laidOut : laidOutB Try.prog = true := by kernel_rfl
set_option maxRecDepth 100000 in
theorem lifted (os : Os) (started : os.Started) (H : Type) (enc : TypeId × Value → H) :
    ReturnsInHanded {} Try.checked os 4 .any (Rows.sealNextsSpec.pre6 enc Try.prog Try.f4 Rows.sealNextsRow.domain false) (Rows.sealNextsSpec.post enc Try.prog Try.f4 false true false false) := by
  refine returnsInHanded_of_change (C := Try.checked) own started (by kernel_rfl) Try.func4
    (ChangeSpec.witness6 (enc := enc) (C := Try.checked) false ⟨#[], #[.int .i64 0, .agg Blk.zero.cs.toArray, .agg Ld.zero.cs.toArray, .agg Blk.zero.cs.toArray], []⟩ 8 (by kernel_rfl) (by kernel_rfl) (by kernel_rfl) (by kernel_rfl)) ?_
  intro W base args ds gs before hval0 hW hcnd _
  have hval : ∀ (j : Nat) t v, Try.f4.params[j]? = some t → args[j]? = some v → Value.okWide Try.prog W .any base t v := hval0
  have hW' := hW
  obtain ⟨p, q, hA0, hV, rfl, hfz, hnd⟩ := hW
  have hA : DataW.TrodAll enc Try.prog W 0 (fun _ => true) true Try.f4.params.toList args.toList ds p := hA0
  rw [Try.params4] at hA hval
  obtain ⟨v0, vs0, d0, ds0, p0, q0, hargs, rfl, rfl, h0, r0⟩ := trodAll_cons hA
  obtain ⟨v1, vs1, d1, ds1, p1, q1, rfl, rfl, rfl, h1, r1⟩ := trodAll_cons r0
  obtain ⟨v2, vs2, d2, ds2, p2, q2, rfl, rfl, rfl, h2, r2⟩ := trodAll_cons r1
  obtain ⟨v3, vs3, d3, ds3, p3, q3, rfl, rfl, rfl, h3, r3⟩ := trodAll_cons r2
  obtain ⟨rfl, rfl, rfl⟩ := trodAll_nil r3
  obtain rfl : args = #[v0, v1, v2, v3] := by cases args; simp_all
  obtain ⟨rfl, rfl⟩ := trodVars_none hV
  obtain ⟨a0, rfl, rfl, rfl, w0⟩ := open_int Try.underlying3 (hval 0 3 v0 rfl rfl) h0
  obtain ⟨cs1, rfl, _⟩ := okWide_row arrB.und (hval 1 26 v1 rfl rfl)
  have k1 := h1
  have lt1 : ∀ x ∈ p1, x.block < W.heap.size := by obtain ⟨m, hm⟩ := k1; exact DataW.trod_lt m _ _ _ hm
  obtain ⟨b1, e1⟩ : ∃ b : Blk, cs1 = b.cs.toArray := by
    obtain ⟨fuel, hf⟩ := h1
    obtain ⟨b, hb⟩ := blkOfTrod hf
    exact ⟨b, by rw [hb]; simp [Value.cells]⟩
  subst e1
  obtain ⟨cs2, rfl, _⟩ := okWide_row arrL.und (hval 2 24 v2 rfl rfl)
  have k2 := h2
  have lt2 : ∀ x ∈ p2, x.block < W.heap.size := by obtain ⟨m, hm⟩ := k2; exact DataW.trod_lt m _ _ _ hm
  obtain ⟨b2, e2⟩ : ∃ b : Ld, cs2 = b.cs.toArray := by
    obtain ⟨fuel, hf⟩ := h2
    obtain ⟨b, hb⟩ := ldOfTrod hf
    exact ⟨b, by rw [hb]; simp [Value.cells]⟩
  subst e2
  obtain ⟨cs3, rfl, _⟩ := okWide_row arrB.und (hval 3 26 v3 rfl rfl)
  have k3 := h3
  have lt3 : ∀ x ∈ p3, x.block < W.heap.size := by obtain ⟨m, hm⟩ := k3; exact DataW.trod_lt m _ _ _ hm
  obtain ⟨b3, e3⟩ : ∃ b : Blk, cs3 = b.cs.toArray := by
    obtain ⟨fuel, hf⟩ := h3
    obtain ⟨b, hb⟩ := blkOfTrod hf
    exact ⟨b, by rw [hb]; simp [Value.cells]⟩
  subst e3
  clear hA0 hval0
  refine (walk a0 b1 b2 b3 W w0).mono fun e W' ⟨he, bel⟩ => ?_
  subst he
  exact ⟨_, rfl, _, _, _, [], _, [], hW', trodAll_mk1 (shut_bool Try.underlying4 _), (trodAll_cons_mk (shut_int Try.underlying3 w0) (trodAll_cons_mk (Below.trod laidOut (by kernel_rfl) (of_decide_eq_true (by kernel_rfl)) k1 bel lt1) (trodAll_cons_mk (Below.trod laidOut (by kernel_rfl) (of_decide_eq_true (by kernel_rfl)) k2 bel lt2) (trodAll_cons_mk (Below.trod laidOut (by kernel_rfl) (of_decide_eq_true (by kernel_rfl)) k3 bel lt3) trodAll_mk0)))), rfl, bel.frame _, fun h => by cases h⟩
theorem over : Rows.sealNextsRow.holds Try.pinned (OpenSpec.ofChange Rows.sealNextsSpec) :=
  OpenClaim.holds_of_wide 4 Try.f4 rfl rfl rfl rfl rfl rfl rfl ⟨rfl, rfl, rfl, rfl, rfl⟩ rfl rfl rfl rfl rfl (by kernel_rfl) Try.func4 (by kernel_rfl)
    (of_decide_eq_true (by kernel_rfl)) (by unfold Func.isWrapper; first | (rw [if_pos (by decide +kernel)]; kernel_rfl) | (rw [if_neg (by decide +kernel)]; exact ⟨rfl, rfl⟩))
    (fun os started H enc _ => lifted os started H enc)
end Go.Proofs.Ytkejgacelbnpnaa.sealNexts
namespace Go.Proofs.Ytkejgacelbnpnaa
/-- The statement. -/
theorem sealNexts_holds : Rows.SealNextsSaid := sealNexts.over
#print axioms sealNexts_holds
end Go.Proofs.Ytkejgacelbnpnaa
