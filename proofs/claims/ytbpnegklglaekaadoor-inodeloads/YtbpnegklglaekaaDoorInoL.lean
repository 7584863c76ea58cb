/-
  What the document's At and With of layer 10 return, for every load, slot and inode: no statement is proved here.
-/
import Derived.Test.YtbpnegklglaekaaDoorInoG
import Derived.Test.YtbpnegklglaekaaDoorInoH
namespace Go.Proofs.YtbpnegklglaekaaDoor
open Go.ChangeShapes Go.WideShapes Go.ChangeAt Go.RowKit
set_option linter.unusedVariables false

/-- The first k bytes of D, laid from o on. -/
def midL (l : List UInt8) (o : Nat) (D : List UInt8) (k : Nat) : List UInt8 := splice l o (D.take k)
theorem midL_len {l D : List UInt8} {o k : Nat} (hk : k ≤ D.length) (h : o + D.length ≤ l.length) : (midL l o D k).length = l.length := by
  unfold midL; exact length_splice _ _ _ (by simp; omega)
theorem midL_zero (l D : List UInt8) (o : Nat) : midL l o D 0 = l := by unfold midL splice; simp
theorem midL_all (l D : List UInt8) (o : Nat) : midL l o D D.length = splice l o D := by unfold midL; rw [List.take_length]
theorem midL_set {l D : List UInt8} {o k : Nat} (hk : k < D.length) (h : o + D.length ≤ l.length) : (midL l o D k).set (o + k) (D.getD k 0) = midL l o D (k + 1) := by
  have e : D.take (k + 1) = D.take k ++ [D.getD k 0] := by rw [List.take_add_one, List.getD_eq_getElem?_getD, List.getElem?_eq_getElem (by omega)]; rfl
  have d : l.drop (o + k) = l.getD (o + k) 0 :: l.drop (o + (k + 1)) := by
    rw [List.drop_eq_getElem_cons (by omega), List.getD_eq_getElem?_getD, List.getElem?_eq_getElem (by omega)]; rfl
  have lk : (D.take k).length = k := by simp; omega
  have lk1 : (D.take k ++ [D.getD k 0]).length = k + 1 := by simp; omega
  unfold midL splice
  rw [e, lk, lk1, d, List.set_append_right _ _ (by simp; omega), List.length_take, Nat.min_eq_left (by omega), show o + k - o = k by omega, List.set_append_right _ _ (by omega), lk, Nat.sub_self, List.set_cons_zero]
  simp
set_option maxRecDepth 100000 in
theorem riat_0 (p : Ld) (w : World) : Calls Tryd.prog 17 #[.agg p.cs.toArray, .int .i64 0] w fun e w' => e = .returned (.tuple #[.agg (gI (slot p 0)).cs.toArray, .int .i64 0]) ∧ Below w.heap.size w w' := by
  have hp := p.len
  have hs := slot_len p 0 (by omega)
  have hwr : IntKind.i64.wrap 0 = 0 := rfl
  have hwr2 : IntKind.i64.wrap 18 = 18 := rfl
  go_enter Tryd.func17, Tryd.ntmps17
  go_wp2_with (first
    | (refine at_box 39 54 arrL (by rfl) _ (by rfl) p.l (by rfl) hp ?_; intro g1 w1 a1 z1 r1 b1)
    | (refine at_newI (by rfl) (by rfl) ?_; intro gr w2 a2 z2 r2 b2
       have y2 : Bs w2 (some ⟨g1, 0, none⟩) 18 54 (ints (slot p 0)) := (r1.later b2).bs 0 18 54 (by omega) (by omega) (by decide))
    | (go_at_call 14; refine (riget_any _ _ (slot p 0) _ hs y2).mono ?_; rintro e w5 ⟨rfl, b5⟩)
    | (refine at_putI (by rfl) _ _ (by rfl) gr (by rfl) _ (by rfl) Ino.zero (r2.later b5) ?_; intro w6 r6 s6))
  have S6 : Stp (fun y => w.heap.size ≤ y) w w6 := (Stp.of_below (bnext (bnext b1 b2 (Nat.le_refl _)) b5 (Nat.le_refl _)) _).next s6 (fun y hy => .inl (by subst hy; have := b1.size; omega))
  exact bodyPost_ret (retCt srtI Tryd.results17 rfl rfl r6 rfl) rfl ⟨rfl, S6.below (Nat.le_refl _) (fun _ h => h)⟩
set_option maxRecDepth 100000 in
set_option maxHeartbeats 1000000 in
theorem riwith_0 (p : Ld) (x : Ino) (w : World) : Calls Tryd.prog 19 #[.agg p.cs.toArray, .int .i64 0, .agg x.cs.toArray] w fun e w' => e = .returned (.tuple #[.agg (puts p 0 x).cs.toArray, .int .i64 0]) ∧ Below w.heap.size w w' := by
  have hp := p.len
  have hq := (puts p 0 x).len
  have hl : Hid (midL p.l 0 (iL x) 18 = (puts p 0 x).l) := (midL_all p.l (iL x) 0).trans (puts_l p 0 x (by omega)).symm
  generalize puts p 0 x = q at *
  have hD := iL_len x
  have hput := riput_any x
  generalize iL x = D at *
  have tok : True := trivial
  go_enter Tryd.func19, Tryd.ntmps19
  go_wp2_with (first
    | (refine at_box 39 54 arrL (by rfl) _ (by rfl) p.l (by rfl) hp ?_; intro g1 w1 a1 z1 r1 b1)
    | (refine at_boxI (by rfl) _ (by rfl) x (by rfl) ?_; intro gx w2 a2 z2 r2 b2)
    | (have _t := tok; refine at_new 39 54 arrL (by rfl) (by rfl) ?_; intro gr w3 a3 z3 r3 b3; have rx := r2.later b3; have r13 := (r1.later b2).later b3; clear _t tok)
    | (refine at_getI (by rfl) _ (by rfl) gx (by rfl) x rx ?_)
    | (go_at_call 12; refine (hput _).mono ?_; rintro e w4 ⟨gd, cd, rfl, o4, b4⟩; have r14 := r13.later b4)
    | (refine at_getL (by rfl) _ (by rfl) g1 (by rfl) p r14 ?_)
    | (refine at_new 39 54 arrL (by rfl) (by rfl) ?_; intro gq w5 a5 z5 r5 b5)
    | (refine at_put 39 54 arrL (by rfl) _ _ (by rfl) gq (by rfl) p.l (by rfl) hp _ r5 (by simp) ?_; intro w6 r6 s6))
  have B3 := bnext (bnext b1 b2 (Nat.le_refl _)) b3 (Nat.le_refl _)
  have hgq : w4.heap.size ≤ gq := a5
  have u6 : Own w3.heap.size w6 gd cd D := (o4.later b5).step s6 (by have := o4.lt; omega)
  have rr : Row w6 gr (List.replicate 54 0) := ((r3.later b4).later b5).step s6 (by have := (r3.later b4).lt; omega)
  have hgr : w.heap.size ≤ gr := by have := b1.size; have := b2.size; omega
  have hgw : w.heap.size ≤ gq := by have := B3.size; have := b4.size; omega
  have n1 : gd ≠ gq := by have := o4.lt; omega
  have n2 : gr ≠ gq := by have := (r3.later b4).lt; omega
  have S6 : Stp (fun y => w.heap.size ≤ y) w w6 := (Stp.of_below (bnext (bnext B3 b4 (Nat.le_refl _)) b5 (Nat.le_refl _)) _).next s6 (fun y hy => .inl (by subst hy; exact hgw))
  have m0 : Row w6 gq (midL p.l 0 D 0) := by rw [midL_zero]; exact r6
  clear r1 r2 r3 r5 b1 b2 b3 b4 b5 B3 a1 z1 a2 z2 a3 z3 a5 z5 rx s6 r6 r13 r14 o4 hput
  go_loopw [10] (fun i wr => ∃ k : Nat, k ≤ 18 ∧ i = .int .i64 k ∧ Row wr gq (midL p.l 0 D k) ∧ Stp (fun x => x = gq) w6 wr) (fun i _ => 18 - (intOf i).toNat)
  case atStart => exact ⟨0, Nat.zero_le _, rfl, m0, Stp.refl _ _⟩
  case round =>
    obtain ⟨k, hk4, rfl, mk, sk⟩ := hrel
    by_cases hlt : k < 18
    · have c1 : _ = some (Value.int .u8 _) := (u6.step sk n1).cell k (by omega)
      have c2 := mk.cell (0 + k) (by rw [midL_len (by omega) (by omega)]; omega)
      have f2 := mk.frozen (0 + k)
      have mk' := mk.set (0 + k) (D.getD k 0)
      rw [midL_set (by omega) (by omega)] at mk'
      generalize hv : (((D.getD k 0).toNat : Nat) : Int) = v at *
      clear hv
      have hwr : IntKind.i64.wrap 0 = 0 := rfl
      simp only [Nat.zero_add] at c2 f2 mk'
      go_wp2_with fail
      go_roundw
      case rel => exact ⟨k + 1, by omega, by go_num, mk', sk.setCell (.inl rfl) _⟩
      case measure => simp [intOf]; omega
    · obtain rfl : k = 18 := by omega
      rw [hl.out] at mk
      have qk := rr.step sk n2
      have Sk := S6.next sk (fun x hx => .inl (by subst hx; exact hgw))
      go_wp2_with (first
        | (refine at_getL (by rfl) _ (by rfl) gq (by rfl) q mk ?_)
        | (refine at_put 39 54 arrL (by rfl) _ _ (by rfl) gr (by rfl) q.l (by rfl) hq _ qk (by simp) ?_; intro w9 r9 s9))
      refine bodyPost_ret (retAt arrL Tryd.results19 rfl rfl r9 hq) rfl ⟨rfl, (Sk.next s9 (fun x hx => .inl (by subst hx; exact hgr))).below (Nat.le_refl _) (fun _ h => h)⟩
set_option maxRecDepth 100000 in
theorem riat_1 (p : Ld) (w : World) : Calls Tryd.prog 17 #[.agg p.cs.toArray, .int .i64 1] w fun e w' => e = .returned (.tuple #[.agg (gI (slot p 1)).cs.toArray, .int .i64 0]) ∧ Below w.heap.size w w' := by
  have hp := p.len
  have hs := slot_len p 1 (by omega)
  have hwr : IntKind.i64.wrap 18 = 18 := rfl
  have hwr2 : IntKind.i64.wrap 36 = 36 := rfl
  go_enter Tryd.func17, Tryd.ntmps17
  go_wp2_with (first
    | (refine at_box 39 54 arrL (by rfl) _ (by rfl) p.l (by rfl) hp ?_; intro g1 w1 a1 z1 r1 b1)
    | (refine at_newI (by rfl) (by rfl) ?_; intro gr w2 a2 z2 r2 b2
       have y2 : Bs w2 (some ⟨g1, 18, none⟩) 18 36 (ints (slot p 1)) := (r1.later b2).bs 18 18 36 (by omega) (by omega) (by decide))
    | (go_at_call 14; refine (riget_any _ _ (slot p 1) _ hs y2).mono ?_; rintro e w5 ⟨rfl, b5⟩)
    | (refine at_putI (by rfl) _ _ (by rfl) gr (by rfl) _ (by rfl) Ino.zero (r2.later b5) ?_; intro w6 r6 s6))
  have S6 : Stp (fun y => w.heap.size ≤ y) w w6 := (Stp.of_below (bnext (bnext b1 b2 (Nat.le_refl _)) b5 (Nat.le_refl _)) _).next s6 (fun y hy => .inl (by subst hy; have := b1.size; omega))
  exact bodyPost_ret (retCt srtI Tryd.results17 rfl rfl r6 rfl) rfl ⟨rfl, S6.below (Nat.le_refl _) (fun _ h => h)⟩
set_option maxRecDepth 100000 in
set_option maxHeartbeats 1000000 in
theorem riwith_1 (p : Ld) (x : Ino) (w : World) : Calls Tryd.prog 19 #[.agg p.cs.toArray, .int .i64 1, .agg x.cs.toArray] w fun e w' => e = .returned (.tuple #[.agg (puts p 1 x).cs.toArray, .int .i64 0]) ∧ Below w.heap.size w w' := by
  have hp := p.len
  have hq := (puts p 1 x).len
  have hl : Hid (midL p.l 18 (iL x) 18 = (puts p 1 x).l) := (midL_all p.l (iL x) 18).trans (puts_l p 1 x (by omega)).symm
  generalize puts p 1 x = q at *
  have hD := iL_len x
  have hput := riput_any x
  generalize iL x = D at *
  have tok : True := trivial
  go_enter Tryd.func19, Tryd.ntmps19
  go_wp2_with (first
    | (refine at_box 39 54 arrL (by rfl) _ (by rfl) p.l (by rfl) hp ?_; intro g1 w1 a1 z1 r1 b1)
    | (refine at_boxI (by rfl) _ (by rfl) x (by rfl) ?_; intro gx w2 a2 z2 r2 b2)
    | (have _t := tok; refine at_new 39 54 arrL (by rfl) (by rfl) ?_; intro gr w3 a3 z3 r3 b3; have rx := r2.later b3; have r13 := (r1.later b2).later b3; clear _t tok)
    | (refine at_getI (by rfl) _ (by rfl) gx (by rfl) x rx ?_)
    | (go_at_call 12; refine (hput _).mono ?_; rintro e w4 ⟨gd, cd, rfl, o4, b4⟩; have r14 := r13.later b4)
    | (refine at_getL (by rfl) _ (by rfl) g1 (by rfl) p r14 ?_)
    | (refine at_new 39 54 arrL (by rfl) (by rfl) ?_; intro gq w5 a5 z5 r5 b5)
    | (refine at_put 39 54 arrL (by rfl) _ _ (by rfl) gq (by rfl) p.l (by rfl) hp _ r5 (by simp) ?_; intro w6 r6 s6))
  have B3 := bnext (bnext b1 b2 (Nat.le_refl _)) b3 (Nat.le_refl _)
  have hgq : w4.heap.size ≤ gq := a5
  have u6 : Own w3.heap.size w6 gd cd D := (o4.later b5).step s6 (by have := o4.lt; omega)
  have rr : Row w6 gr (List.replicate 54 0) := ((r3.later b4).later b5).step s6 (by have := (r3.later b4).lt; omega)
  have hgr : w.heap.size ≤ gr := by have := b1.size; have := b2.size; omega
  have hgw : w.heap.size ≤ gq := by have := B3.size; have := b4.size; omega
  have n1 : gd ≠ gq := by have := o4.lt; omega
  have n2 : gr ≠ gq := by have := (r3.later b4).lt; omega
  have S6 : Stp (fun y => w.heap.size ≤ y) w w6 := (Stp.of_below (bnext (bnext B3 b4 (Nat.le_refl _)) b5 (Nat.le_refl _)) _).next s6 (fun y hy => .inl (by subst hy; exact hgw))
  have m0 : Row w6 gq (midL p.l 18 D 0) := by rw [midL_zero]; exact r6
  clear r1 r2 r3 r5 b1 b2 b3 b4 b5 B3 a1 z1 a2 z2 a3 z3 a5 z5 rx s6 r6 r13 r14 o4 hput
  go_loopw [10] (fun i wr => ∃ k : Nat, k ≤ 18 ∧ i = .int .i64 k ∧ Row wr gq (midL p.l 18 D k) ∧ Stp (fun x => x = gq) w6 wr) (fun i _ => 18 - (intOf i).toNat)
  case atStart => exact ⟨0, Nat.zero_le _, rfl, m0, Stp.refl _ _⟩
  case round =>
    obtain ⟨k, hk4, rfl, mk, sk⟩ := hrel
    by_cases hlt : k < 18
    · have c1 : _ = some (Value.int .u8 _) := (u6.step sk n1).cell k (by omega)
      have c2 := mk.cell (18 + k) (by rw [midL_len (by omega) (by omega)]; omega)
      have f2 := mk.frozen (18 + k)
      have mk' := mk.set (18 + k) (D.getD k 0)
      rw [midL_set (by omega) (by omega)] at mk'
      generalize hv : (((D.getD k 0).toNat : Nat) : Int) = v at *
      clear hv
      have hwr : IntKind.i64.wrap 18 = 18 := rfl
      have hw2 : IntKind.i64.wrap (18 + (k : Int)) = 18 + (k : Int) := by rw [IntKind.wrap_i64]; omega
      have hw3 : (18 + (k : Int)).toNat = 18 + k := by omega
      go_wp2_with fail
      go_roundw
      case rel => exact ⟨k + 1, by omega, by go_num, mk', sk.setCell (.inl rfl) _⟩
      case measure => simp [intOf]; omega
    · obtain rfl : k = 18 := by omega
      rw [hl.out] at mk
      have qk := rr.step sk n2
      have Sk := S6.next sk (fun x hx => .inl (by subst hx; exact hgw))
      go_wp2_with (first
        | (refine at_getL (by rfl) _ (by rfl) gq (by rfl) q mk ?_)
        | (refine at_put 39 54 arrL (by rfl) _ _ (by rfl) gr (by rfl) q.l (by rfl) hq _ qk (by simp) ?_; intro w9 r9 s9))
      refine bodyPost_ret (retAt arrL Tryd.results19 rfl rfl r9 hq) rfl ⟨rfl, (Sk.next s9 (fun x hx => .inl (by subst hx; exact hgr))).below (Nat.le_refl _) (fun _ h => h)⟩
set_option maxRecDepth 100000 in
theorem riat_2 (p : Ld) (w : World) : Calls Tryd.prog 17 #[.agg p.cs.toArray, .int .i64 2] w fun e w' => e = .returned (.tuple #[.agg (gI (slot p 2)).cs.toArray, .int .i64 0]) ∧ Below w.heap.size w w' := by
  have hp := p.len
  have hs := slot_len p 2 (by omega)
  have hwr : IntKind.i64.wrap 36 = 36 := rfl
  have hwr2 : IntKind.i64.wrap 54 = 54 := rfl
  go_enter Tryd.func17, Tryd.ntmps17
  go_wp2_with (first
    | (refine at_box 39 54 arrL (by rfl) _ (by rfl) p.l (by rfl) hp ?_; intro g1 w1 a1 z1 r1 b1)
    | (refine at_newI (by rfl) (by rfl) ?_; intro gr w2 a2 z2 r2 b2
       have y2 : Bs w2 (some ⟨g1, 36, none⟩) 18 18 (ints (slot p 2)) := (r1.later b2).bs 36 18 18 (by omega) (by omega) (by decide))
    | (go_at_call 14; refine (riget_any _ _ (slot p 2) _ hs y2).mono ?_; rintro e w5 ⟨rfl, b5⟩)
    | (refine at_putI (by rfl) _ _ (by rfl) gr (by rfl) _ (by rfl) Ino.zero (r2.later b5) ?_; intro w6 r6 s6))
  have S6 : Stp (fun y => w.heap.size ≤ y) w w6 := (Stp.of_below (bnext (bnext b1 b2 (Nat.le_refl _)) b5 (Nat.le_refl _)) _).next s6 (fun y hy => .inl (by subst hy; have := b1.size; omega))
  exact bodyPost_ret (retCt srtI Tryd.results17 rfl rfl r6 rfl) rfl ⟨rfl, S6.below (Nat.le_refl _) (fun _ h => h)⟩
set_option maxRecDepth 100000 in
set_option maxHeartbeats 1000000 in
theorem riwith_2 (p : Ld) (x : Ino) (w : World) : Calls Tryd.prog 19 #[.agg p.cs.toArray, .int .i64 2, .agg x.cs.toArray] w fun e w' => e = .returned (.tuple #[.agg (puts p 2 x).cs.toArray, .int .i64 0]) ∧ Below w.heap.size w w' := by
  have hp := p.len
  have hq := (puts p 2 x).len
  have hl : Hid (midL p.l 36 (iL x) 18 = (puts p 2 x).l) := (midL_all p.l (iL x) 36).trans (puts_l p 2 x (by omega)).symm
  generalize puts p 2 x = q at *
  have hD := iL_len x
  have hput := riput_any x
  generalize iL x = D at *
  have tok : True := trivial
  go_enter Tryd.func19, Tryd.ntmps19
  go_wp2_with (first
    | (refine at_box 39 54 arrL (by rfl) _ (by rfl) p.l (by rfl) hp ?_; intro g1 w1 a1 z1 r1 b1)
    | (refine at_boxI (by rfl) _ (by rfl) x (by rfl) ?_; intro gx w2 a2 z2 r2 b2)
    | (have _t := tok; refine at_new 39 54 arrL (by rfl) (by rfl) ?_; intro gr w3 a3 z3 r3 b3; have rx := r2.later b3; have r13 := (r1.later b2).later b3; clear _t tok)
    | (refine at_getI (by rfl) _ (by rfl) gx (by rfl) x rx ?_)
    | (go_at_call 12; refine (hput _).mono ?_; rintro e w4 ⟨gd, cd, rfl, o4, b4⟩; have r14 := r13.later b4)
    | (refine at_getL (by rfl) _ (by rfl) g1 (by rfl) p r14 ?_)
    | (refine at_new 39 54 arrL (by rfl) (by rfl) ?_; intro gq w5 a5 z5 r5 b5)
    | (refine at_put 39 54 arrL (by rfl) _ _ (by rfl) gq (by rfl) p.l (by rfl) hp _ r5 (by simp) ?_; intro w6 r6 s6))
  have B3 := bnext (bnext b1 b2 (Nat.le_refl _)) b3 (Nat.le_refl _)
  have hgq : w4.heap.size ≤ gq := a5
  have u6 : Own w3.heap.size w6 gd cd D := (o4.later b5).step s6 (by have := o4.lt; omega)
  have rr : Row w6 gr (List.replicate 54 0) := ((r3.later b4).later b5).step s6 (by have := (r3.later b4).lt; omega)
  have hgr : w.heap.size ≤ gr := by have := b1.size; have := b2.size; omega
  have hgw : w.heap.size ≤ gq := by have := B3.size; have := b4.size; omega
  have n1 : gd ≠ gq := by have := o4.lt; omega
  have n2 : gr ≠ gq := by have := (r3.later b4).lt; omega
  have S6 : Stp (fun y => w.heap.size ≤ y) w w6 := (Stp.of_below (bnext (bnext B3 b4 (Nat.le_refl _)) b5 (Nat.le_refl _)) _).next s6 (fun y hy => .inl (by subst hy; exact hgw))
  have m0 : Row w6 gq (midL p.l 36 D 0) := by rw [midL_zero]; exact r6
  clear r1 r2 r3 r5 b1 b2 b3 b4 b5 B3 a1 z1 a2 z2 a3 z3 a5 z5 rx s6 r6 r13 r14 o4 hput
  go_loopw [10] (fun i wr => ∃ k : Nat, k ≤ 18 ∧ i = .int .i64 k ∧ Row wr gq (midL p.l 36 D k) ∧ Stp (fun x => x = gq) w6 wr) (fun i _ => 18 - (intOf i).toNat)
  case atStart => exact ⟨0, Nat.zero_le _, rfl, m0, Stp.refl _ _⟩
  case round =>
    obtain ⟨k, hk4, rfl, mk, sk⟩ := hrel
    by_cases hlt : k < 18
    · have c1 : _ = some (Value.int .u8 _) := (u6.step sk n1).cell k (by omega)
      have c2 := mk.cell (36 + k) (by rw [midL_len (by omega) (by omega)]; omega)
      have f2 := mk.frozen (36 + k)
      have mk' := mk.set (36 + k) (D.getD k 0)
      rw [midL_set (by omega) (by omega)] at mk'
      generalize hv : (((D.getD k 0).toNat : Nat) : Int) = v at *
      clear hv
      have hwr : IntKind.i64.wrap 36 = 36 := rfl
      have hw2 : IntKind.i64.wrap (36 + (k : Int)) = 36 + (k : Int) := by rw [IntKind.wrap_i64]; omega
      have hw3 : (36 + (k : Int)).toNat = 36 + k := by omega
      go_wp2_with fail
      go_roundw
      case rel => exact ⟨k + 1, by omega, by go_num, mk', sk.setCell (.inl rfl) _⟩
      case measure => simp [intOf]; omega
    · obtain rfl : k = 18 := by omega
      rw [hl.out] at mk
      have qk := rr.step sk n2
      have Sk := S6.next sk (fun x hx => .inl (by subst hx; exact hgw))
      go_wp2_with (first
        | (refine at_getL (by rfl) _ (by rfl) gq (by rfl) q mk ?_)
        | (refine at_put 39 54 arrL (by rfl) _ _ (by rfl) gr (by rfl) q.l (by rfl) hq _ qk (by simp) ?_; intro w9 r9 s9))
      refine bodyPost_ret (retAt arrL Tryd.results19 rfl rfl r9 hq) rfl ⟨rfl, (Sk.next s9 (fun x hx => .inl (by subst hx; exact hgr))).below (Nat.le_refl _) (fun _ h => h)⟩
theorem three' {j : Int} (h : isSl j) : j = 0 ∨ j = 1 ∨ j = 2 := by have := h.1; have := h.2; omega
theorem sl_ways {k : Int} (h : ¬ isSl k) : k < 0 ∨ (¬ k < 0 ∧ k > 2) := by unfold isSl at h; omega
set_option maxRecDepth 100000 in
theorem riat_any (p : Ld) (k : Int) (w : World) : Calls Tryd.prog 17 #[.agg p.cs.toArray, .int .i64 k] w fun e w' => e = .returned (.tuple #[.agg (aI p k).cs.toArray, .int .i64 (slE k)]) ∧ Below w.heap.size w w' := by
  unfold aI slE
  by_cases h : isSl k
  · rw [if_pos h, if_pos h]
    rcases three' h with rfl | rfl | rfl
    · exact riat_0 p w
    · exact riat_1 p w
    · exact riat_2 p w
  · rw [if_neg h, if_neg h]
    have hp := p.len
    have hway := sl_ways h
    clear h
    rcases hway with h0 | ⟨h0, h2⟩
    all_goals
      go_enter Tryd.func17, Tryd.ntmps17
      go_wp2_with (first
        | (refine at_box 39 54 arrL (by rfl) _ (by rfl) p.l (by rfl) hp ?_; intro g1 w1 a1 z1 r1 b1)
        | (refine at_newI (by rfl) (by rfl) ?_; intro gr w2 a2 z2 r2 b2)
        | (refine at_bld0 (by rfl) (by rfl) ?_)
        | (refine at_putI (by rfl) _ _ (by rfl) gr (by rfl) Ino.zero (by rfl) Ino.zero r2 ?_; intro w6 r6 s6))
      have S6 : Stp (fun y => w.heap.size ≤ y) w w6 := (Stp.of_below (bnext b1 b2 (Nat.le_refl _)) _).next s6 (fun y hy => .inl (by subst hy; have := b1.size; omega))
      exact bodyPost_ret (retCt srtI Tryd.results17 rfl rfl r6 rfl) rfl ⟨rfl, S6.below (Nat.le_refl _) (fun _ h => h)⟩
set_option maxRecDepth 100000 in
theorem riwith_any (p : Ld) (k : Int) (x : Ino) (w : World) : Calls Tryd.prog 19 #[.agg p.cs.toArray, .int .i64 k, .agg x.cs.toArray] w fun e w' => e = .returned (.tuple #[.agg (wI p k x).cs.toArray, .int .i64 (slE k)]) ∧ Below w.heap.size w w' := by
  unfold wI slE
  by_cases h : isSl k
  · rw [if_pos h, if_pos h]
    rcases three' h with rfl | rfl | rfl
    · exact riwith_0 p x w
    · exact riwith_1 p x w
    · exact riwith_2 p x w
  · rw [if_neg h, if_neg h]
    have hp := p.len
    have hway := sl_ways h
    clear h
    rcases hway with h0 | ⟨h0, h2⟩
    all_goals
      go_enter Tryd.func19, Tryd.ntmps19
      go_wp2_with (first
        | (refine at_box 39 54 arrL (by rfl) _ (by rfl) p.l (by rfl) hp ?_; intro g1 w1 a1 z1 r1 b1)
        | (refine at_boxI (by rfl) _ (by rfl) x (by rfl) ?_; intro gx w2 a2 z2 r2 b2)
        | (refine at_new 39 54 arrL (by rfl) (by rfl) ?_; intro gr w3 a3 z3 r3 b3)
        | (refine at_bldL (by rfl) (by rfl) ?_)
        | (refine at_put 39 54 arrL (by rfl) _ _ (by rfl) gr (by rfl) Ld.zero.l (by rfl) Ld.zero.len _ r3 (by simp) ?_; intro w6 r6 s6))
      have S6 : Stp (fun y => w.heap.size ≤ y) w w6 := (Stp.of_below (bnext (bnext b1 b2 (Nat.le_refl _)) b3 (Nat.le_refl _)) _).next s6 (fun y hy => .inl (by subst hy; have := b1.size; have := b2.size; omega))
      exact bodyPost_ret (retAt arrL Tryd.results19 rfl rfl r6 Ld.zero.len) rfl ⟨rfl, S6.below (Nat.le_refl _) (fun _ h => h)⟩
end Go.Proofs.YtbpnegklglaekaaDoor
