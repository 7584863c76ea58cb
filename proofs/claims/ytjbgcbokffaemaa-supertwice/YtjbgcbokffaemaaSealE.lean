/-
  What Get, Next and Same of layer 7 return, each for every input: no statement is proved here.
-/
import Derived.Test.YtjbgcbokffaemaaSealD
namespace Go.Proofs.Ytjbgcbokffaemaa
open Go.ChangeShapes Go.WideShapes Go.ChangeAt Go.RowKit
set_option linter.unusedVariables false

set_option maxRecDepth 100000 in
set_option maxHeartbeats 2000000 in
theorem get_any (k : Int) (b : Blk) (w : World) :
    Calls Try.prog 45 #[.int .i64 k, .agg b.cs.toArray] w fun e w' => e = .returned (.tuple #[.agg (gP k b).cs.toArray, .int .u32 (gT k b : Nat), .int .i64 (gE k b)]) ∧ Below w.heap.size w w' := by
  have hb := b.len
  have hlp := (oP b).len
  cases hk : isK k
  · have he : gE k b = 2 := by unfold gE; rw [hk]; rfl
    have hE : Hid (gP k b = Ld.zero ∧ gT k b = 0 ∧ gE k b = 2) := ⟨by unfold gP; rw [he]; rfl, by unfold gT; rw [he]; rfl, he⟩
    clear he
    go_enter Try.func45, Try.ntmps45
    go_wp2_with (first
      | (refine at_box 32 64 arrB (by rfl) _ (by rfl) b.l (by rfl) hb ?_; intro gb w1 a1 z1 r1 b1)
      | (refine at_new 25 54 arrL (by rfl) (by rfl) ?_; intro gr w2 a2 z2 r2 b2)
      | (go_at_call 42; refine (isKind_any _ _).mono ?_; rintro e w3 ⟨rfl, rfl⟩; rw [hk])
      | (refine at_bldL (by rfl) (by rfl) ?_)
      | (refine at_put 25 54 arrL (by rfl) _ _ (by rfl) gr (by rfl) Ld.zero.l (by rfl) Ld.zero.len _ r2 (by simp) ?_; intro w9 r9 s9))
    have S2 : Stp (fun x => w.heap.size ≤ x) w w2 := Stp.of_below (bnext b1 b2 (Nat.le_refl _)) _
    have hgr : w.heap.size ≤ gr := by have := b1.size; omega
    refine bodyPost_ret (retAtt arrL Try.results45 rfl rfl rfl r9 Ld.zero.len) rfl ⟨by obtain ⟨q1, q2, q3⟩ := hE.out; rw [q1, q2, q3]; rfl, (S2.next s9 (fun x hx => .inl (by subst hx; exact hgr))).below (Nat.le_refl _) (fun _ h => h)⟩
  · have tok : True := trivial
    by_cases hx : (oK b : Int) = k
    · have he : gE k b = 0 := by unfold gE; rw [hk, if_pos rfl, if_pos hx]
      have hE : Hid (gP k b = oP b ∧ gT k b = oT b ∧ gE k b = 0) := ⟨by unfold gP; rw [he]; rfl, by unfold gT; rw [he]; rfl, he⟩
      clear he
      subst hx
      go_enter Try.func45, Try.ntmps45
      go_wp2_with (first
        | (refine at_box 32 64 arrB (by rfl) _ (by rfl) b.l (by rfl) hb ?_; intro gb w1 a1 z1 r1 b1)
        | (have _t := tok; refine at_new 25 54 arrL (by rfl) (by rfl) ?_; intro gr w2 a2 z2 r2 b2; clear _t tok)
        | (go_at_call 42; refine (isKind_any _ _).mono ?_; rintro e w3 ⟨rfl, rfl⟩; rw [hk])
        | (refine at_get 32 64 arrB (by rfl) _ (by rfl) gb (by rfl) _ (r1.later b2) hb ?_)
        | (go_at_call 47; refine (open_any b _).mono ?_; rintro e w4 ⟨rfl, b4⟩)
        | (refine at_new 25 54 arrL (by rfl) (by rfl) ?_; intro gp w5 a5 z5 r5 b5)
        | (refine at_put 25 54 arrL (by rfl) _ _ (by rfl) gp (by rfl) (oP b).l (by rfl) hlp _ r5 (by simp) ?_; intro w6 r6 s6)
        | (refine at_get 25 54 arrL (by rfl) _ (by rfl) gp (by rfl) _ r6 hlp ?_)
        | (refine at_put 25 54 arrL (by rfl) _ _ (by rfl) gr (by rfl) (oP b).l (by rfl) hlp _ (((r2.later b4).later b5).step s6 (by have := b4.size; omega)) (by simp) ?_; intro w9 r9 s9))
      have S5 : Stp (fun x => w.heap.size ≤ x) w w5 := Stp.of_below (bnext (bnext (bnext b1 b2 (Nat.le_refl _)) b4 (Nat.le_refl _)) b5 (Nat.le_refl _)) _
      have hgr : w.heap.size ≤ gr := by have := b1.size; omega
      have hgp : w.heap.size ≤ gp := by have := b1.size; have := b2.size; have := b4.size; omega
      have S6 := S5.next s6 (fun x hx => .inl (by subst hx; exact hgp))
      refine bodyPost_ret (retAtt arrL Try.results45 rfl rfl rfl r9 hlp) rfl ⟨by obtain ⟨q1, q2, q3⟩ := hE.out; rw [q1, q2, q3]; rfl, (S6.next s9 (fun x hx => .inl (by subst hx; exact hgr))).below (Nat.le_refl _) (fun _ h => h)⟩
    · have he : gE k b = 21 := by unfold gE; rw [hk, if_pos rfl, if_neg hx]
      have hE : Hid (gP k b = Ld.zero ∧ gT k b = 0 ∧ gE k b = 21) := ⟨by unfold gP; rw [he]; rfl, by unfold gT; rw [he]; rfl, he⟩
      clear he
      go_enter Try.func45, Try.ntmps45
      go_wp2_with (first
        | (refine at_box 32 64 arrB (by rfl) _ (by rfl) b.l (by rfl) hb ?_; intro gb w1 a1 z1 r1 b1)
        | (have _t := tok; refine at_new 25 54 arrL (by rfl) (by rfl) ?_; intro gr w2 a2 z2 r2 b2; clear _t tok)
        | (go_at_call 42; refine (isKind_any _ _).mono ?_; rintro e w3 ⟨rfl, rfl⟩; rw [hk])
        | (refine at_get 32 64 arrB (by rfl) _ (by rfl) gb (by rfl) _ (r1.later b2) hb ?_)
        | (go_at_call 47; refine (open_any b _).mono ?_; rintro e w4 ⟨rfl, b4⟩)
        | (refine at_new 25 54 arrL (by rfl) (by rfl) ?_; intro gp w5 a5 z5 r5 b5)
        | (refine at_put 25 54 arrL (by rfl) _ _ (by rfl) gp (by rfl) (oP b).l (by rfl) hlp _ r5 (by simp) ?_; intro w6 r6 s6)
        | (refine at_bldL (by rfl) (by rfl) ?_)
        | (refine at_put 25 54 arrL (by rfl) _ _ (by rfl) gr (by rfl) Ld.zero.l (by rfl) Ld.zero.len _ (((r2.later b4).later b5).step s6 (by have := b4.size; omega)) (by simp) ?_; intro w9 r9 s9))
      have S5 : Stp (fun x => w.heap.size ≤ x) w w5 := Stp.of_below (bnext (bnext (bnext b1 b2 (Nat.le_refl _)) b4 (Nat.le_refl _)) b5 (Nat.le_refl _)) _
      have hgr : w.heap.size ≤ gr := by have := b1.size; omega
      have hgp : w.heap.size ≤ gp := by have := b1.size; have := b2.size; have := b4.size; omega
      have S6 := S5.next s6 (fun x hx => .inl (by subst hx; exact hgp))
      refine bodyPost_ret (retAtt arrL Try.results45 rfl rfl rfl r9 Ld.zero.len) rfl ⟨by obtain ⟨q1, q2, q3⟩ := hE.out; rw [q1, q2, q3]; rfl, (S6.next s9 (fun x hx => .inl (by subst hx; exact hgr))).below (Nat.le_refl _) (fun _ h => h)⟩
theorem nT_int (b : Blk) : IntKind.u32.wrap ((oT b : Int) + 1) = (nT b : Int) := by
  unfold nT; rw [IntKind.wrap_u32']; omega
set_option maxRecDepth 100000 in
set_option maxHeartbeats 2000000 in
theorem next_any (k : Int) (b : Blk) (p : Ld) (w : World) :
    Calls Try.prog 33 #[.int .i64 k, .agg b.cs.toArray, .agg p.cs.toArray] w fun e w' => e = .returned (.tuple #[.agg (pB k (nT b) p).cs.toArray, .int .i64 (pE k)]) ∧ Below w.heap.size w w' := by
  have hb := b.len
  have hp := p.len
  have hlp := (oP b).len
  have hlq := (pB k (nT b) p).len
  have ht := nT_lt b
  have hw := nT_int b
  go_enter Try.func33, Try.ntmps33
  go_wp2_with (first
    | (refine at_box 32 64 arrB (by rfl) _ (by rfl) b.l (by rfl) hb ?_; intro gb w1 a1 z1 r1 b1)
    | (refine at_box 25 54 arrL (by rfl) _ (by rfl) p.l (by rfl) hp ?_; intro gp w2 a2 z2 r2 b2)
    | (refine at_new 32 64 arrB (by rfl) (by rfl) ?_; intro gr w3 a3 z3 r3 b3)
    | (refine at_get 32 64 arrB (by rfl) _ (by rfl) gb (by rfl) _ ((r1.later b2).later b3) hb ?_)
    | (go_at_call 47; refine (open_any b _).mono ?_; rintro e w4 ⟨rfl, b4⟩)
    | (refine at_new 25 54 arrL (by rfl) (by rfl) ?_; intro gq w5 a5 z5 r5 b5)
    | (refine at_put 25 54 arrL (by rfl) _ _ (by rfl) gq (by rfl) (oP b).l (by rfl) hlp _ r5 (by simp) ?_; intro w6 r6 s6)
    | (refine at_get 25 54 arrL (by rfl) _ (by rfl) gp (by rfl) _ ((((r2.later b3).later b4).later b5).step s6 (by have := b3.size; have := b4.size; omega)) hp ?_)
    | (go_at_call 27; refine (put_any k (nT b) p _ ht).mono ?_; rintro e w7 ⟨rfl, b7⟩)
    | (refine at_put 32 64 arrB (by rfl) _ _ (by rfl) gr (by rfl) (pB k (nT b) p).l (by rfl) hlq _ ((((r3.later b4).later b5).step s6 (by have := b4.size; omega)).later b7) (by simp) ?_; intro w9 r9 s9))
  have S5 : Stp (fun x => w.heap.size ≤ x) w w5 := Stp.of_below (bnext (bnext (bnext (bnext b1 b2 (Nat.le_refl _)) b3 (Nat.le_refl _)) b4 (Nat.le_refl _)) b5 (Nat.le_refl _)) _
  have hgr : w.heap.size ≤ gr := by have := b1.size; have := b2.size; omega
  have hgq : w.heap.size ≤ gq := by have := b1.size; have := b2.size; have := b3.size; have := b4.size; omega
  have S6 := S5.next s6 (fun x hx => .inl (by subst hx; exact hgq))
  have S7 := S6.next (Stp.of_below b7 (fun _ => False)) (fun _ h => h.elim)
  refine bodyPost_ret (retAt arrB Try.results33 rfl rfl r9 hlq) rfl ⟨rfl, (S7.next s9 (fun x hx => .inl (by subst hx; exact hgr))).below (Nat.le_refl _) (fun _ h => h)⟩
section
variable {ops : Array Oper} {rest : List Oper} {o : Oper} {a : Act} {w : World} {Q : Exit → Act → World → Prop}
theorem at_getB (hw : Region.wanted o (yielded ops a.tmps) = true) (x : Operand) (ho : o.op = .load 32 x) (g : Nat) (hx : a.eval x = .pointer (some ⟨g, 0, none⟩)) (b : Blk) (hR : Row w g b.l)
    (h : wpList Try.prog ops Q rest (a.put o.dst (.agg b.cs.toArray)) w) : wpList Try.prog ops Q (o :: rest) a w := at_get 32 64 arrB hw x ho g hx b.l hR b.len h
theorem at_getL (hw : Region.wanted o (yielded ops a.tmps) = true) (x : Operand) (ho : o.op = .load 25 x) (g : Nat) (hx : a.eval x = .pointer (some ⟨g, 0, none⟩)) (b : Ld) (hR : Row w g b.l)
    (h : wpList Try.prog ops Q rest (a.put o.dst (.agg b.cs.toArray)) w) : wpList Try.prog ops Q (o :: rest) a w := at_get 25 54 arrL hw x ho g hx b.l hR b.len h
end
set_option maxRecDepth 100000 in
set_option maxHeartbeats 2000000 in
theorem same_any (x y : Blk) (w : World) :
    Calls Try.prog 34 #[.agg x.cs.toArray, .agg y.cs.toArray] w fun e w' => e = .returned (.bool (sm2 x y)) ∧ Below w.heap.size w w' := by
  have hx := x.len
  have hy := y.len
  have hlx := (oP x).len
  have hly := (oP y).len
  have qB := eqB x y
  have qL := eqL (oP x) (oP y)
  have gB := guardB
  have gL := guardL
  have tok : True := trivial
  have tok2 : True := trivial
  have hE : Hid (sm2 x y = if oK x = oK y then (if oK x = 0 then decide (x = y) else decide (oP x = oP y)) else false) := rfl
  have hX : Hid (((oK x : Int) != (oK y : Int)) = !decide (oK x = oK y)) := by
    show _ = _
    rw [Bool.eq_iff_iff]; simp
    omega
  have hZ : Hid (((oK x : Int) == 0) = decide (oK x = 0)) := by
    show _ = _
    rw [Bool.eq_iff_iff]; simp
  have key : ∀ (c d : Bool), decide (oK x = oK y) = c → decide (oK x = 0) = d →
    Calls Try.prog 34 #[.agg x.cs.toArray, .agg y.cs.toArray] w fun e w' => e = .returned (.bool (if c then (if d then decide (x = y) else decide (oP x = oP y)) else false)) ∧ Below w.heap.size w w' := by
    intro c d hc hd
    have b0 : ((oK x : Int) != (oK y : Int)) = !c := by rw [hX.out, hc]
    have b1 : ((oK x : Int) == 0) = d := by rw [hZ.out, hd]
    clear hc hd hX hZ hE
    cases c <;> cases d
    all_goals go_enter Try.func34, Try.ntmps34
    all_goals go_wp2_with (first
      | (refine at_getB (by rfl) _ (by rfl) gx (by rfl) x x8 ?_)
      | (refine at_getB (by rfl) _ (by rfl) gy (by rfl) y y8 ?_)
      | (refine at_getL (by rfl) _ (by rfl) gp (by rfl) (oP x) p8 ?_)
      | (refine at_getL (by rfl) _ (by rfl) gq (by rfl) (oP y) r8 ?_)
      | (have _t := tok; refine at_box 32 64 arrB (by rfl) _ (by rfl) x.l (by rfl) hx ?_; intro gx w1 a1 z1 r1 b1; clear _t tok)
      | (refine at_box 32 64 arrB (by rfl) _ (by rfl) y.l (by rfl) hy ?_; intro gy w2 a2 z2 r2 b2)
      | (have _t := tok2; refine at_getB (by rfl) _ (by rfl) gx (by rfl) x (r1.later b2) ?_; clear _t)
      | (have _t := tok2; go_at_call 47; refine (open_any x _).mono ?_; rintro e w3 ⟨rfl, b3⟩; clear _t)
      | (have _t := tok2; refine at_new 25 54 arrL (by rfl) (by rfl) ?_; intro gp w4 a4 z4 r4 b4; clear _t)
      | (have _t := tok2; refine at_put 25 54 arrL (by rfl) _ _ (by rfl) gp (by rfl) (oP x).l (by rfl) hlx _ r4 (by simp) ?_; intro w5 r5 s5; clear _t tok2)
      | (refine at_getB (by rfl) _ (by rfl) gy (by rfl) y (((r2.later b3).later b4).step s5 (by have := b3.size; omega)) ?_)
      | (go_at_call 47; refine (open_any y _).mono ?_; rintro e w6 ⟨rfl, b6⟩)
      | (refine at_new 25 54 arrL (by rfl) (by rfl) ?_; intro gq w7 a7 z7 r7 b7)
      | (refine at_put 25 54 arrL (by rfl) _ _ (by rfl) gq (by rfl) (oP y).l (by rfl) hly _ r7 (by simp) ?_; intro w8 r8 s8
         have p8 : Row w8 gp (oP x).l := ((r5.later b6).later b7).step s8 (by have := b6.size; have := s5.size; omega)
         have x8 : Row w8 gx x.l := ((((((r1.later b2).later b3).later b4).step s5 (by have := b2.size; have := b3.size; omega)).later b6).later b7).step s8 (by have := b2.size; have := b3.size; have := b4.size; have := s5.size; have := b6.size; omega)
         have y8 : Row w8 gy y.l := (((((r2.later b3).later b4).step s5 (by have := b3.size; omega)).later b6).later b7).step s8 (by have := b3.size; have := b4.size; have := s5.size; have := b6.size; omega)
         have S8 : Below w.heap.size w w8 := ((((Stp.of_below (bnext (bnext (bnext b1 b2 (Nat.le_refl _)) b3 (Nat.le_refl _)) b4 (Nat.le_refl _)) (fun x => w.heap.size ≤ x)).next s5 (fun x hx => .inl (by subst hx; have := b1.size; have := b2.size; have := b3.size; omega))).next (Stp.of_below (bnext b6 b7 (Nat.le_refl _)) (fun _ => False)) (fun _ h => h.elim)).next s8 (fun x hx => .inl (by subst hx; have := b1.size; have := b2.size; have := b3.size; have := b4.size; have := s5.size; have := b6.size; omega))).below (Nat.le_refl _) (fun _ h => h)
         clear r1 r2 r4 r5 r7 s5 s8 b1 b2 b3 b4 b6 b7))
    all_goals go_returns
    all_goals exact ⟨rfl, S8⟩
  rw [hE.out]
  have := key _ _ rfl rfl
  simp only [decide_eq_true_eq] at this
  exact this
end Go.Proofs.Ytjbgcbokffaemaa
