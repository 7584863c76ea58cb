/-
  What At and With of layer 10 return, for every load, slot and inode: no statement is proved here.
-/
import Derived.Test.YtbpnegklglaekaaDoorInoB
import Derived.Test.YtbpnegklglaekaaDoorInoE
import Derived.Test.YtbpnegklglaekaaDoorInoF
namespace Go.Proofs.YtbpnegklglaekaaDoor
open Go.ChangeShapes Go.WideShapes Go.ChangeAt Go.RowKit
set_option linter.unusedVariables false

/-- 'copy' of n bytes out of the middle of a row into the middle of another. -/
theorem run_copyP (w : World) (tp : TypeId) (g off dLen dCap g2 o2 sLen sCap n : Nat) (l l2 : List UInt8) (hR : Row w g l) (hR2 : Row w g2 l2) (hn : n = Nat.min sLen dLen) (h2 : off + n ≤ l.length) (h3 : o2 + n ≤ l2.length) :
    (Builtin.copy_ #[32, 32] tp #[.slice (some ⟨g, off, none⟩) dLen dCap, .slice (some ⟨g2, o2, none⟩) sLen sCap]).run Tryd.prog w = .ok (goInt n) (w.setRow g (cells (splice l off ((l2.drop o2).take n))).toArray) := by
  have hlen : (cells ((l2.drop o2).take n)).length = n := by simp; omega
  obtain ⟨t, hg⟩ := hR
  have hrun := run_copy_row (P := Tryd.prog) w 32 32 tp 5 g off dLen dCap ⟨g2, o2, none⟩ sLen sCap (cells l).toArray t (cells ((l2.drop o2).take n)) (by kernel_rfl) (by kernel_rfl) hg
    (by rw [hlen]; exact hn) (fun j v hv => by
      have hj := (List.getElem?_eq_some_iff.1 hv).1
      rw [hlen] at hj
      have := hR2.range (o2 + j) v (by
        rw [List.getElem?_map, List.getElem?_take, if_pos hj, List.getElem?_drop] at hv
        rw [List.getElem?_map]; exact hv)
      rw [Addr.add_mid]; rwa [Nat.zero_add] at this) (by rw [hlen]; simpa using h2) (cells_one _)
  rw [hlen] at hrun
  have e : (List.take off (cells l).toArray.toList ++ cells ((l2.drop o2).take n) ++ List.drop (off + n) (cells l).toArray.toList) = cells (splice l off ((l2.drop o2).take n)) := by
    unfold splice
    have : ((l2.drop o2).take n).length = n := by simp; omega
    rw [this]; simp [cells]
  rw [e] at hrun
  exact hrun
theorem step_copyP {ops : Array Oper} {o : Oper} {a : Act} {w : World} {K : Act → World → Prop} {Q : Exit → Act → World → Prop} {E : Prop} (hgd : o.guard = none) (d s : Operand)
    (ho : o.op = .call { callee := .builtin .copy, args := #[d, s], argTypes := #[32, 32] }) (g off dLen dCap g2 o2 sLen sCap n : Nat)
    (hd : a.eval d = .slice (some ⟨g, off, none⟩) dLen dCap) (hs : a.eval s = .slice (some ⟨g2, o2, none⟩) sLen sCap) (l l2 : List UInt8) (hR : Row w g l) (hR2 : Row w g2 l2) (hn : n = Nat.min sLen dLen) (h2 : off + n ≤ l.length) (h3 : o2 + n ≤ l2.length)
    (h : ∀ w', Row w' g (splice l off ((l2.drop o2).take n)) → Stp (fun x => x = g) w w' → K (a.put o.dst (goInt n)) w') :
    if Region.wanted o (yielded ops a.tmps) = true then Oper.wp Tryd.prog o a w K Q else E := by
  have hw : Region.wanted o (yielded ops a.tmps) = true := by simp [Region.wanted, hgd]
  rw [if_pos hw]
  have hrun := run_copyP w o.type g off dLen dCap g2 o2 sLen sCap n l l2 hR hR2 hn h2 h3
  unfold Oper.wp
  simp only [execOp, ho, resolve, invoke, builtin]
  simp [hd, hs, hrun, Result.andThen]
  exact h _ (hR.setRow _) (stp_setRow _ _ _)
theorem at_copyP {ops : Array Oper} {rest : List Oper} {o : Oper} {a : Act} {w : World} {Q : Exit → Act → World → Prop} (hgd : o.guard = none) (d s : Operand)
    (ho : o.op = .call { callee := .builtin .copy, args := #[d, s], argTypes := #[32, 32] }) (g off dLen dCap g2 o2 sLen sCap n : Nat)
    (hd : a.eval d = .slice (some ⟨g, off, none⟩) dLen dCap) (hs : a.eval s = .slice (some ⟨g2, o2, none⟩) sLen sCap) (l l2 : List UInt8) (hR : Row w g l) (hR2 : Row w g2 l2) (hn : n = Nat.min sLen dLen) (h2 : off + n ≤ l.length) (h3 : o2 + n ≤ l2.length)
    (h : ∀ w', Row w' g (splice l off ((l2.drop o2).take n)) → Stp (fun x => x = g) w w' → wpList Tryd.prog ops Q rest (a.put o.dst (goInt n)) w') : wpList Tryd.prog ops Q (o :: rest) a w := by
  refine wpList_plain hgd fun K hK => ?_
  have hrun := run_copyP w o.type g off dLen dCap g2 o2 sLen sCap n l l2 hR hR2 hn h2 h3
  unfold Oper.wp
  simp only [execOp, ho, resolve, invoke, builtin]
  simp [hd, hs, hrun, Result.andThen]
  exact hK _ _ (h _ (hR.setRow _) (stp_setRow _ _ _))
theorem splice_all (l c : List UInt8) (h : c.length = l.length) : splice l 0 c = c := by
  unfold splice; rw [List.take_zero, List.nil_append, Nat.zero_add, h, List.drop_of_length_le (Nat.le_refl _), List.append_nil]
set_option maxRecDepth 100000 in
theorem iat_0 (p : Ld) (w : World) : Calls Tryd.prog 16 #[.agg p.cs.toArray, .int .i64 0] w fun e w' => e = .returned (.tuple #[.agg (gI (slot p 0)).cs.toArray, .int .i64 0]) ∧ Below w.heap.size w w' := by
  have hp := p.len
  have H1 := isSlot_any (0 : Int)
  rw [show decide (isSl (0 : Int)) = true from rfl] at H1
  have hwr : IntKind.i64.wrap 0 = 0 := rfl
  have hs := slot_len p 0 (by omega)
  go_enter Tryd.func16, Tryd.ntmps16
  go_wp2_with (first
    | (refine at_box 39 54 arrL (by rfl) _ (by rfl) p.l (by rfl) hp ?_; intro g1 w1 a1 z1 r1 b1)
    | (refine at_newI (by rfl) (by rfl) ?_; intro gr w2 a2 z2 r2 b2)
    | (go_at_call 33; refine (H1 _).mono ?_; rintro e u ⟨rfl, rfl⟩)
    | (refine at_new 27 18 ar18 (by rfl) (by rfl) ?_; intro gb w3 a3 z3 r3 b3))
  have rp := (r1.later b2).later b3
  have rr := r2.later b3
  have B3 := bnext (bnext b1 b2 (Nat.le_refl _)) b3 (Nat.le_refl _)
  have hgr : w.heap.size ≤ gr := by have := b1.size; omega
  have hgb : w.heap.size ≤ gb := by have := b1.size; have := b2.size; omega
  have hrb : ¬ gr = gb := by have := r2.lt; omega
  clear r1 r2 b1 b2 b3 a1 z1 a2 z2 a3 z3
  simp only [Act.put, List.setIfInBounds_toArray, List.set_cons_zero, List.set_cons_succ]
  go_region_law (refine step_copyP rfl (.tmp 11) (.tmp 14) rfl gb 0 18 18 g1 0 54 54 18 (by simp [Act.eval, Act.put]) (by simp [Act.eval, Act.put]) (List.replicate 18 0) p.l (r3.later (by go_grown)) (rp.later (by go_grown)) (by decide) (by simp) (by omega) ?_; intro w4 r4 s4)
  rw [splice_all _ _ (by simp; omega)] at r4
  have y4 : Row w4 gb (slot p 0) := r4
  have rr4 : Cs w4 gr Ino.zero.cs := (rr.later (w' := w3.drew) (by go_grown)).step s4 hrb
  have S4 : Stp (fun y => w.heap.size ≤ y) w w4 := (Stp.of_below B3 _).drew.next s4 (fun y hy => .inl (by subst hy; exact hgb))
  clear rp rr r3 B3 r4 s4
  go_wp2_with (first
    | (refine at_get 27 18 ar18 (by rfl) _ (by rfl) gb (by rfl) (slot p 0) y4 hs ?_)
    | (go_at_call 13; refine (iget_any (slot p 0) _ hs).mono ?_; rintro e w5 ⟨rfl, b5⟩)
    | (refine at_putI (by rfl) _ _ (by rfl) gr (by rfl) _ (by rfl) Ino.zero (rr4.later b5) ?_; intro w6 r6 s6))
  have S6 := (S4.next (Stp.of_below b5 (fun _ => False)) (fun _ h => h.elim)).next s6 (fun y hy => .inl (by subst hy; exact hgr))
  exact bodyPost_ret (retCt srtI Tryd.results16 rfl rfl r6 rfl) rfl ⟨rfl, S6.below (Nat.le_refl _) (fun _ h => h)⟩
set_option maxRecDepth 100000 in
theorem iwith_0 (p : Ld) (x : Ino) (w : World) : Calls Tryd.prog 18 #[.agg p.cs.toArray, .int .i64 0, .agg x.cs.toArray] w fun e w' => e = .returned (.tuple #[.agg (puts p 0 x).cs.toArray, .int .i64 0]) ∧ Below w.heap.size w w' := by
  have hp := p.len
  have H1 := isSlot_any (0 : Int)
  rw [show decide (isSl (0 : Int)) = true from rfl] at H1
  have hwr : IntKind.i64.wrap 0 = 0 := rfl
  have hq := (puts p 0 x).len
  have hl : Hid ((puts p 0 x).l = splice p.l 0 (iL x)) := puts_l p 0 x (by omega)
  generalize puts p 0 x = q at *
  go_enter Tryd.func18, Tryd.ntmps18
  go_wp2_with (first
    | (refine at_box 39 54 arrL (by rfl) _ (by rfl) p.l (by rfl) hp ?_; intro g1 w1 a1 z1 r1 b1)
    | (refine at_boxI (by rfl) _ (by rfl) x (by rfl) ?_; intro gx w2 a2 z2 r2 b2)
    | (refine at_new 39 54 arrL (by rfl) (by rfl) ?_; intro gr w3 a3 z3 r3 b3; have rx := r2.later b3)
    | (go_at_call 33; refine (H1 _).mono ?_; rintro e u ⟨rfl, rfl⟩)
    | (refine at_getI (by rfl) _ (by rfl) gx (by rfl) x rx ?_)
    | (go_at_call 8; refine (iput_any x _).mono ?_; rintro e w4 ⟨rfl, b4⟩)
    | (refine at_new 27 18 ar18 (by rfl) (by rfl) ?_; intro gb w5 a5 z5 r5 b5)
    | (refine at_put 27 18 ar18 (by rfl) _ _ (by rfl) gb (by rfl) (iL x) (by rfl) (iL_len x) _ r5 (by simp) ?_; intro w6 r6 s6))
  have B3 := bnext (bnext b1 b2 (Nat.le_refl _)) b3 (Nat.le_refl _)
  have B5 := bnext b4 b5 (Nat.le_refl _)
  have hgb : w3.heap.size ≤ gb := by have := b4.size; omega
  have rp : Row w6 g1 p.l := (((r1.later b2).later b3).later B5).step s6 (by have := ((r1.later b2).later b3).lt; omega)
  have rr : Row w6 gr (List.replicate 54 0) := (r3.later B5).step s6 (by have := r3.lt; omega)
  have hg1 : w.heap.size ≤ g1 := a1
  have hgr : w.heap.size ≤ gr := by have := b1.size; have := b2.size; omega
  have hr1 : ¬ gr = g1 := by have := r1.lt; have := b2.size; omega
  have S6 : Stp (fun y => w.heap.size ≤ y) w w6 := (Stp.of_below (bnext B3 B5 (Nat.le_refl _)) _).next s6 (fun y hy => .inl (by subst hy; have := B3.size; omega))
  clear r1 r2 r3 r5 b1 b2 b3 b4 b5 B3 B5 a1 z1 a2 z2 a3 z3 a5 z5 rx s6
  simp only [Act.put, List.setIfInBounds_toArray, List.set_cons_zero, List.set_cons_succ]
  go_region_law (refine step_copyR rfl (.tmp 17) (.tmp 18) rfl g1 0 54 54 gb 18 18 (by simp [Act.eval, Act.put]) (by simp [Act.eval, Act.put]) p.l (iL x) (rp.later (by go_grown)) (r6.later (by go_grown)) (by omega) (by omega) (Nat.le_refl 18) ?_; intro w7 r7 s7)
  have y7 : Row w7 g1 q.l := by rw [hl.out]; exact r7
  have rr7 : Row w7 gr (List.replicate 54 0) := (rr.later (w' := w6.drew) (by go_grown)).step s7 hr1
  have S7 : Stp (fun y => w.heap.size ≤ y) w w7 := S6.drew.next s7 (fun y hy => .inl (by subst hy; exact hg1))
  clear rp rr r6 r7 s7 S6 hl
  go_wp2_with (first
    | (refine at_getL (by rfl) _ (by rfl) g1 (by rfl) q y7 ?_)
    | (refine at_put 39 54 arrL (by rfl) _ _ (by rfl) gr (by rfl) q.l (by rfl) hq _ rr7 (by simp) ?_; intro w8 r8 s8))
  have S8 := S7.next s8 (fun y hy => .inl (by subst hy; exact hgr))
  refine bodyPost_ret (retAt arrL Tryd.results18 rfl rfl r8 hq) rfl ⟨?_, S8.below (Nat.le_refl _) (fun _ h => h)⟩
  rfl
set_option maxRecDepth 100000 in
theorem iat_1 (p : Ld) (w : World) : Calls Tryd.prog 16 #[.agg p.cs.toArray, .int .i64 1] w fun e w' => e = .returned (.tuple #[.agg (gI (slot p 1)).cs.toArray, .int .i64 0]) ∧ Below w.heap.size w w' := by
  have hp := p.len
  have H1 := isSlot_any (1 : Int)
  rw [show decide (isSl (1 : Int)) = true from rfl] at H1
  have hwr : IntKind.i64.wrap 18 = 18 := rfl
  have hs := slot_len p 1 (by omega)
  go_enter Tryd.func16, Tryd.ntmps16
  go_wp2_with (first
    | (refine at_box 39 54 arrL (by rfl) _ (by rfl) p.l (by rfl) hp ?_; intro g1 w1 a1 z1 r1 b1)
    | (refine at_newI (by rfl) (by rfl) ?_; intro gr w2 a2 z2 r2 b2)
    | (go_at_call 33; refine (H1 _).mono ?_; rintro e u ⟨rfl, rfl⟩)
    | (refine at_new 27 18 ar18 (by rfl) (by rfl) ?_; intro gb w3 a3 z3 r3 b3))
  have rp := (r1.later b2).later b3
  have rr := r2.later b3
  have B3 := bnext (bnext b1 b2 (Nat.le_refl _)) b3 (Nat.le_refl _)
  have hgr : w.heap.size ≤ gr := by have := b1.size; omega
  have hgb : w.heap.size ≤ gb := by have := b1.size; have := b2.size; omega
  have hrb : ¬ gr = gb := by have := r2.lt; omega
  clear r1 r2 b1 b2 b3 a1 z1 a2 z2 a3 z3
  simp only [Act.put, List.setIfInBounds_toArray, List.set_cons_zero, List.set_cons_succ]
  go_region_law (refine step_copyP rfl (.tmp 11) (.tmp 14) rfl gb 0 18 18 g1 18 36 36 18 (by simp [Act.eval, Act.put]) (by simp [Act.eval, Act.put]) (List.replicate 18 0) p.l (r3.later (by go_grown)) (rp.later (by go_grown)) (by decide) (by simp) (by omega) ?_; intro w4 r4 s4)
  rw [splice_all _ _ (by simp; omega)] at r4
  have y4 : Row w4 gb (slot p 1) := r4
  have rr4 : Cs w4 gr Ino.zero.cs := (rr.later (w' := w3.drew) (by go_grown)).step s4 hrb
  have S4 : Stp (fun y => w.heap.size ≤ y) w w4 := (Stp.of_below B3 _).drew.next s4 (fun y hy => .inl (by subst hy; exact hgb))
  clear rp rr r3 B3 r4 s4
  go_wp2_with (first
    | (refine at_get 27 18 ar18 (by rfl) _ (by rfl) gb (by rfl) (slot p 1) y4 hs ?_)
    | (go_at_call 13; refine (iget_any (slot p 1) _ hs).mono ?_; rintro e w5 ⟨rfl, b5⟩)
    | (refine at_putI (by rfl) _ _ (by rfl) gr (by rfl) _ (by rfl) Ino.zero (rr4.later b5) ?_; intro w6 r6 s6))
  have S6 := (S4.next (Stp.of_below b5 (fun _ => False)) (fun _ h => h.elim)).next s6 (fun y hy => .inl (by subst hy; exact hgr))
  exact bodyPost_ret (retCt srtI Tryd.results16 rfl rfl r6 rfl) rfl ⟨rfl, S6.below (Nat.le_refl _) (fun _ h => h)⟩
set_option maxRecDepth 100000 in
theorem iwith_1 (p : Ld) (x : Ino) (w : World) : Calls Tryd.prog 18 #[.agg p.cs.toArray, .int .i64 1, .agg x.cs.toArray] w fun e w' => e = .returned (.tuple #[.agg (puts p 1 x).cs.toArray, .int .i64 0]) ∧ Below w.heap.size w w' := by
  have hp := p.len
  have H1 := isSlot_any (1 : Int)
  rw [show decide (isSl (1 : Int)) = true from rfl] at H1
  have hwr : IntKind.i64.wrap 18 = 18 := rfl
  have hq := (puts p 1 x).len
  have hl : Hid ((puts p 1 x).l = splice p.l 18 (iL x)) := puts_l p 1 x (by omega)
  generalize puts p 1 x = q at *
  go_enter Tryd.func18, Tryd.ntmps18
  go_wp2_with (first
    | (refine at_box 39 54 arrL (by rfl) _ (by rfl) p.l (by rfl) hp ?_; intro g1 w1 a1 z1 r1 b1)
    | (refine at_boxI (by rfl) _ (by rfl) x (by rfl) ?_; intro gx w2 a2 z2 r2 b2)
    | (refine at_new 39 54 arrL (by rfl) (by rfl) ?_; intro gr w3 a3 z3 r3 b3; have rx := r2.later b3)
    | (go_at_call 33; refine (H1 _).mono ?_; rintro e u ⟨rfl, rfl⟩)
    | (refine at_getI (by rfl) _ (by rfl) gx (by rfl) x rx ?_)
    | (go_at_call 8; refine (iput_any x _).mono ?_; rintro e w4 ⟨rfl, b4⟩)
    | (refine at_new 27 18 ar18 (by rfl) (by rfl) ?_; intro gb w5 a5 z5 r5 b5)
    | (refine at_put 27 18 ar18 (by rfl) _ _ (by rfl) gb (by rfl) (iL x) (by rfl) (iL_len x) _ r5 (by simp) ?_; intro w6 r6 s6))
  have B3 := bnext (bnext b1 b2 (Nat.le_refl _)) b3 (Nat.le_refl _)
  have B5 := bnext b4 b5 (Nat.le_refl _)
  have hgb : w3.heap.size ≤ gb := by have := b4.size; omega
  have rp : Row w6 g1 p.l := (((r1.later b2).later b3).later B5).step s6 (by have := ((r1.later b2).later b3).lt; omega)
  have rr : Row w6 gr (List.replicate 54 0) := (r3.later B5).step s6 (by have := r3.lt; omega)
  have hg1 : w.heap.size ≤ g1 := a1
  have hgr : w.heap.size ≤ gr := by have := b1.size; have := b2.size; omega
  have hr1 : ¬ gr = g1 := by have := r1.lt; have := b2.size; omega
  have S6 : Stp (fun y => w.heap.size ≤ y) w w6 := (Stp.of_below (bnext B3 B5 (Nat.le_refl _)) _).next s6 (fun y hy => .inl (by subst hy; have := B3.size; omega))
  clear r1 r2 r3 r5 b1 b2 b3 b4 b5 B3 B5 a1 z1 a2 z2 a3 z3 a5 z5 rx s6
  simp only [Act.put, List.setIfInBounds_toArray, List.set_cons_zero, List.set_cons_succ]
  go_region_law (refine step_copyR rfl (.tmp 17) (.tmp 18) rfl g1 18 36 36 gb 18 18 (by simp [Act.eval, Act.put]) (by simp [Act.eval, Act.put]) p.l (iL x) (rp.later (by go_grown)) (r6.later (by go_grown)) (by omega) (by omega) (Nat.le_refl 18) ?_; intro w7 r7 s7)
  have y7 : Row w7 g1 q.l := by rw [hl.out]; exact r7
  have rr7 : Row w7 gr (List.replicate 54 0) := (rr.later (w' := w6.drew) (by go_grown)).step s7 hr1
  have S7 : Stp (fun y => w.heap.size ≤ y) w w7 := S6.drew.next s7 (fun y hy => .inl (by subst hy; exact hg1))
  clear rp rr r6 r7 s7 S6 hl
  go_wp2_with (first
    | (refine at_getL (by rfl) _ (by rfl) g1 (by rfl) q y7 ?_)
    | (refine at_put 39 54 arrL (by rfl) _ _ (by rfl) gr (by rfl) q.l (by rfl) hq _ rr7 (by simp) ?_; intro w8 r8 s8))
  have S8 := S7.next s8 (fun y hy => .inl (by subst hy; exact hgr))
  refine bodyPost_ret (retAt arrL Tryd.results18 rfl rfl r8 hq) rfl ⟨?_, S8.below (Nat.le_refl _) (fun _ h => h)⟩
  rfl
set_option maxRecDepth 100000 in
theorem iat_2 (p : Ld) (w : World) : Calls Tryd.prog 16 #[.agg p.cs.toArray, .int .i64 2] w fun e w' => e = .returned (.tuple #[.agg (gI (slot p 2)).cs.toArray, .int .i64 0]) ∧ Below w.heap.size w w' := by
  have hp := p.len
  have H1 := isSlot_any (2 : Int)
  rw [show decide (isSl (2 : Int)) = true from rfl] at H1
  have hwr : IntKind.i64.wrap 36 = 36 := rfl
  have hs := slot_len p 2 (by omega)
  go_enter Tryd.func16, Tryd.ntmps16
  go_wp2_with (first
    | (refine at_box 39 54 arrL (by rfl) _ (by rfl) p.l (by rfl) hp ?_; intro g1 w1 a1 z1 r1 b1)
    | (refine at_newI (by rfl) (by rfl) ?_; intro gr w2 a2 z2 r2 b2)
    | (go_at_call 33; refine (H1 _).mono ?_; rintro e u ⟨rfl, rfl⟩)
    | (refine at_new 27 18 ar18 (by rfl) (by rfl) ?_; intro gb w3 a3 z3 r3 b3))
  have rp := (r1.later b2).later b3
  have rr := r2.later b3
  have B3 := bnext (bnext b1 b2 (Nat.le_refl _)) b3 (Nat.le_refl _)
  have hgr : w.heap.size ≤ gr := by have := b1.size; omega
  have hgb : w.heap.size ≤ gb := by have := b1.size; have := b2.size; omega
  have hrb : ¬ gr = gb := by have := r2.lt; omega
  clear r1 r2 b1 b2 b3 a1 z1 a2 z2 a3 z3
  simp only [Act.put, List.setIfInBounds_toArray, List.set_cons_zero, List.set_cons_succ]
  go_region_law (refine step_copyP rfl (.tmp 11) (.tmp 14) rfl gb 0 18 18 g1 36 18 18 18 (by simp [Act.eval, Act.put]) (by simp [Act.eval, Act.put]) (List.replicate 18 0) p.l (r3.later (by go_grown)) (rp.later (by go_grown)) (by decide) (by simp) (by omega) ?_; intro w4 r4 s4)
  rw [splice_all _ _ (by simp; omega)] at r4
  have y4 : Row w4 gb (slot p 2) := r4
  have rr4 : Cs w4 gr Ino.zero.cs := (rr.later (w' := w3.drew) (by go_grown)).step s4 hrb
  have S4 : Stp (fun y => w.heap.size ≤ y) w w4 := (Stp.of_below B3 _).drew.next s4 (fun y hy => .inl (by subst hy; exact hgb))
  clear rp rr r3 B3 r4 s4
  go_wp2_with (first
    | (refine at_get 27 18 ar18 (by rfl) _ (by rfl) gb (by rfl) (slot p 2) y4 hs ?_)
    | (go_at_call 13; refine (iget_any (slot p 2) _ hs).mono ?_; rintro e w5 ⟨rfl, b5⟩)
    | (refine at_putI (by rfl) _ _ (by rfl) gr (by rfl) _ (by rfl) Ino.zero (rr4.later b5) ?_; intro w6 r6 s6))
  have S6 := (S4.next (Stp.of_below b5 (fun _ => False)) (fun _ h => h.elim)).next s6 (fun y hy => .inl (by subst hy; exact hgr))
  exact bodyPost_ret (retCt srtI Tryd.results16 rfl rfl r6 rfl) rfl ⟨rfl, S6.below (Nat.le_refl _) (fun _ h => h)⟩
set_option maxRecDepth 100000 in
theorem iwith_2 (p : Ld) (x : Ino) (w : World) : Calls Tryd.prog 18 #[.agg p.cs.toArray, .int .i64 2, .agg x.cs.toArray] w fun e w' => e = .returned (.tuple #[.agg (puts p 2 x).cs.toArray, .int .i64 0]) ∧ Below w.heap.size w w' := by
  have hp := p.len
  have H1 := isSlot_any (2 : Int)
  rw [show decide (isSl (2 : Int)) = true from rfl] at H1
  have hwr : IntKind.i64.wrap 36 = 36 := rfl
  have hq := (puts p 2 x).len
  have hl : Hid ((puts p 2 x).l = splice p.l 36 (iL x)) := puts_l p 2 x (by omega)
  generalize puts p 2 x = q at *
  go_enter Tryd.func18, Tryd.ntmps18
  go_wp2_with (first
    | (refine at_box 39 54 arrL (by rfl) _ (by rfl) p.l (by rfl) hp ?_; intro g1 w1 a1 z1 r1 b1)
    | (refine at_boxI (by rfl) _ (by rfl) x (by rfl) ?_; intro gx w2 a2 z2 r2 b2)
    | (refine at_new 39 54 arrL (by rfl) (by rfl) ?_; intro gr w3 a3 z3 r3 b3; have rx := r2.later b3)
    | (go_at_call 33; refine (H1 _).mono ?_; rintro e u ⟨rfl, rfl⟩)
    | (refine at_getI (by rfl) _ (by rfl) gx (by rfl) x rx ?_)
    | (go_at_call 8; refine (iput_any x _).mono ?_; rintro e w4 ⟨rfl, b4⟩)
    | (refine at_new 27 18 ar18 (by rfl) (by rfl) ?_; intro gb w5 a5 z5 r5 b5)
    | (refine at_put 27 18 ar18 (by rfl) _ _ (by rfl) gb (by rfl) (iL x) (by rfl) (iL_len x) _ r5 (by simp) ?_; intro w6 r6 s6))
  have B3 := bnext (bnext b1 b2 (Nat.le_refl _)) b3 (Nat.le_refl _)
  have B5 := bnext b4 b5 (Nat.le_refl _)
  have hgb : w3.heap.size ≤ gb := by have := b4.size; omega
  have rp : Row w6 g1 p.l := (((r1.later b2).later b3).later B5).step s6 (by have := ((r1.later b2).later b3).lt; omega)
  have rr : Row w6 gr (List.replicate 54 0) := (r3.later B5).step s6 (by have := r3.lt; omega)
  have hg1 : w.heap.size ≤ g1 := a1
  have hgr : w.heap.size ≤ gr := by have := b1.size; have := b2.size; omega
  have hr1 : ¬ gr = g1 := by have := r1.lt; have := b2.size; omega
  have S6 : Stp (fun y => w.heap.size ≤ y) w w6 := (Stp.of_below (bnext B3 B5 (Nat.le_refl _)) _).next s6 (fun y hy => .inl (by subst hy; have := B3.size; omega))
  clear r1 r2 r3 r5 b1 b2 b3 b4 b5 B3 B5 a1 z1 a2 z2 a3 z3 a5 z5 rx s6
  simp only [Act.put, List.setIfInBounds_toArray, List.set_cons_zero, List.set_cons_succ]
  go_region_law (refine step_copyR rfl (.tmp 17) (.tmp 18) rfl g1 36 18 18 gb 18 18 (by simp [Act.eval, Act.put]) (by simp [Act.eval, Act.put]) p.l (iL x) (rp.later (by go_grown)) (r6.later (by go_grown)) (by omega) (by omega) (Nat.le_refl 18) ?_; intro w7 r7 s7)
  have y7 : Row w7 g1 q.l := by rw [hl.out]; exact r7
  have rr7 : Row w7 gr (List.replicate 54 0) := (rr.later (w' := w6.drew) (by go_grown)).step s7 hr1
  have S7 : Stp (fun y => w.heap.size ≤ y) w w7 := S6.drew.next s7 (fun y hy => .inl (by subst hy; exact hg1))
  clear rp rr r6 r7 s7 S6 hl
  go_wp2_with (first
    | (refine at_getL (by rfl) _ (by rfl) g1 (by rfl) q y7 ?_)
    | (refine at_put 39 54 arrL (by rfl) _ _ (by rfl) gr (by rfl) q.l (by rfl) hq _ rr7 (by simp) ?_; intro w8 r8 s8))
  have S8 := S7.next s8 (fun y hy => .inl (by subst hy; exact hgr))
  refine bodyPost_ret (retAt arrL Tryd.results18 rfl rfl r8 hq) rfl ⟨?_, S8.below (Nat.le_refl _) (fun _ h => h)⟩
  rfl
theorem three {j : Int} (h : isSl j) : j = 0 ∨ j = 1 ∨ j = 2 := by have := h.1; have := h.2; omega
set_option maxRecDepth 100000 in
theorem iat_any (p : Ld) (k : Int) (w : World) : Calls Tryd.prog 16 #[.agg p.cs.toArray, .int .i64 k] w fun e w' => e = .returned (.tuple #[.agg (aI p k).cs.toArray, .int .i64 (slE k)]) ∧ Below w.heap.size w w' := by
  unfold aI slE
  by_cases h : isSl k
  · rw [if_pos h, if_pos h]
    rcases three h with rfl | rfl | rfl
    · exact iat_0 p w
    · exact iat_1 p w
    · exact iat_2 p w
  · rw [if_neg h, if_neg h]
    have hp := p.len
    have H1 := isSlot_any k
    rw [decide_eq_false h] at H1
    clear h
    go_enter Tryd.func16, Tryd.ntmps16
    go_wp2_with (first
      | (refine at_box 39 54 arrL (by rfl) _ (by rfl) p.l (by rfl) hp ?_; intro g1 w1 a1 z1 r1 b1)
      | (refine at_newI (by rfl) (by rfl) ?_; intro gr w2 a2 z2 r2 b2)
      | (go_at_call 33; refine (H1 _).mono ?_; rintro e u ⟨rfl, rfl⟩)
      | (refine at_bld0 (by rfl) (by rfl) ?_)
      | (refine at_putI (by rfl) _ _ (by rfl) gr (by rfl) Ino.zero (by rfl) Ino.zero r2 ?_; intro w6 r6 s6))
    have S6 : Stp (fun y => w.heap.size ≤ y) w w6 := (Stp.of_below (bnext b1 b2 (Nat.le_refl _)) _).next s6 (fun y hy => .inl (by subst hy; have := b1.size; omega))
    exact bodyPost_ret (retCt srtI Tryd.results16 rfl rfl r6 rfl) rfl ⟨rfl, S6.below (Nat.le_refl _) (fun _ h => h)⟩
set_option maxRecDepth 100000 in
theorem iwith_any (p : Ld) (k : Int) (x : Ino) (w : World) : Calls Tryd.prog 18 #[.agg p.cs.toArray, .int .i64 k, .agg x.cs.toArray] w fun e w' => e = .returned (.tuple #[.agg (wI p k x).cs.toArray, .int .i64 (slE k)]) ∧ Below w.heap.size w w' := by
  unfold wI slE
  by_cases h : isSl k
  · rw [if_pos h, if_pos h]
    rcases three h with rfl | rfl | rfl
    · exact iwith_0 p x w
    · exact iwith_1 p x w
    · exact iwith_2 p x w
  · rw [if_neg h, if_neg h]
    have hp := p.len
    have H1 := isSlot_any k
    rw [decide_eq_false h] at H1
    clear h
    go_enter Tryd.func18, Tryd.ntmps18
    go_wp2_with (first
      | (refine at_box 39 54 arrL (by rfl) _ (by rfl) p.l (by rfl) hp ?_; intro g1 w1 a1 z1 r1 b1)
      | (refine at_boxI (by rfl) _ (by rfl) x (by rfl) ?_; intro gx w2 a2 z2 r2 b2)
      | (refine at_new 39 54 arrL (by rfl) (by rfl) ?_; intro gr w3 a3 z3 r3 b3)
      | (go_at_call 33; refine (H1 _).mono ?_; rintro e u ⟨rfl, rfl⟩)
      | (refine at_bldL (by rfl) (by rfl) ?_)
      | (refine at_put 39 54 arrL (by rfl) _ _ (by rfl) gr (by rfl) Ld.zero.l (by rfl) Ld.zero.len _ r3 (by simp) ?_; intro w6 r6 s6))
    have S6 : Stp (fun y => w.heap.size ≤ y) w w6 := (Stp.of_below (bnext (bnext b1 b2 (Nat.le_refl _)) b3 (Nat.le_refl _)) _).next s6 (fun y hy => .inl (by subst hy; have := b1.size; have := b2.size; omega))
    exact bodyPost_ret (retAt arrL Tryd.results18 rfl rfl r6 Ld.zero.len) rfl ⟨rfl, S6.below (Nat.le_refl _) (fun _ h => h)⟩
end Go.Proofs.YtbpnegklglaekaaDoor
