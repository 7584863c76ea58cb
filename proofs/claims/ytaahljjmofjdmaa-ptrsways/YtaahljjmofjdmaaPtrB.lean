/-
  What With of layer 11, and the document's, return, for every input: no statement is proved here.
-/
import Derived.Test.YtaahljjmofjdmaaPtrA
namespace Go.Proofs.Ytaahljjmofjdmaa
open Go.ChangeShapes Go.WideShapes Go.ChangeAt Go.RowKit
set_option linter.unusedVariables false

theorem rput16_q (x : UInt16) (w : World) :
    Calls Try.prog 26 #[.int .u16 (x.toNat : Int)] w fun e w' => ∃ g, e = .returned (.slice (some ⟨g, 0, none⟩) 2 2) ∧ w.heap.size ≤ g ∧ Row w' g (lo2 x.toNat) ∧ Below w.heap.size w w' := by
  have hx := x.toNat_lt
  refine (rput16_any (x.toNat : Int) w (by omega) (by omega)).mono ?_
  rintro e w' ⟨rfl, rfl⟩
  refine ⟨_, rfl, Nat.le_refl _, ?_, (Below.refl _ _).alloc (Nat.le_refl _) _⟩
  have := Row.made w (lo2 x.toNat) 5
  rwa [cells_lo2 (by omega)] at this
set_option maxRecDepth 100000 in
theorem pwith_in (p : Ld) (n : Nat) (x : UInt16) (w : World) (hn : n ≤ 26) (H : ∀ w, Calls Try.prog 22 #[.int .i64 (n : Int)] w fun e w' => e = .returned (.bool true) ∧ w = w') :
    Calls Try.prog 9 #[.agg p.cs.toArray, .int .i64 (n : Int), .int .u16 (x.toNat : Int)] w fun e w' => e = .returned (.tuple #[.agg (pS p n x).cs.toArray, .int .i64 0]) ∧ Below w.heap.size w w' := by
  have hp := p.len
  have hq := (pS p n x).len
  have hl2 : (lo2 x.toNat).length = 2 := rfl
  obtain ⟨m, hm0⟩ : ∃ m, Hid (m = 2 * n) := ⟨_, rfl⟩
  have hm54 : m + 2 ≤ 54 := by have := hm0.out; omega
  have hm : IntKind.i64.wrap ((n : Int) * 2) = (m : Int) := by rw [i64_small (by omega) (by omega), hm0.out]; omega
  have hS : splice p.l m (List.take 2 (lo2 x.toNat)) = (pS p n x).l := by rw [hm0.out]; exact (pS_l p n x hn).symm
  go_enter Try.func9, Try.ntmps9
  go_wp2_with (first
    | (refine at_box 23 54 arrL (by rfl) _ (by rfl) p.l (by rfl) hp ?_; intro g1 w1 a1 z1 r1 b1)
    | (refine at_new 23 54 arrL (by rfl) (by rfl) ?_; intro gr w2 a2 z2 r2 b2)
    | (go_at_call 22; refine (H _).mono ?_; rintro e u ⟨rfl, rfl⟩)
    | (go_at_call 25; refine (put16_w x _).mono ?_; rintro e w3 ⟨rfl, b3⟩)
    | (refine at_new 53 2 ar2 (by rfl) (by rfl) ?_; intro g2 w4 a4 z4 r4 b4)
    | (refine at_put 53 2 ar2 (by rfl) _ _ (by rfl) g2 (by rfl) (lo2 x.toNat) (by rfl) hl2 _ r4 (by simp) ?_; intro w5 r5 s5))
  have B4 := bnext (bnext (bnext b1 b2 (Nat.le_refl _)) b3 (Nat.le_refl _)) b4 (Nat.le_refl _)
  have hg2 : w2.heap.size ≤ g2 := by have := b3.size; omega
  have h1 : ¬ g1 = g2 := by have := r1.lt; have := b2.size; omega
  have hr : ¬ gr = g2 := by omega
  have hg1r : ¬ gr = g1 := by omega
  have p5 : Row w5 g1 p.l := (((r1.later b2).later b3).later b4).step s5 h1
  have q5 : Row w5 gr (List.replicate 54 0) := ((r2.later b3).later b4).step s5 hr
  have S5 : Stp (fun y => w.heap.size ≤ y) w w5 := (Stp.of_below B4 _).next s5 (fun y hy => .inl (by subst hy; have := b1.size; have := b2.size; omega))
  have hw1 : w.heap.size ≤ g1 := a1
  have hwr : w.heap.size ≤ gr := by have := b1.size; omega
  have hs2 := fun w => run_subL arrL w g1 m (by omega)
  go_region_law (refine step_copyR rfl (.tmp 17) (.tmp 18) rfl g1 m (54 - m) (54 - m) g2 2 2 (by simp [Act.eval, Act.put]) (by simp [Act.eval, Act.put]) p.l (lo2 x.toNat) (p5.later (by go_grown)) (r5.later (by go_grown)) (by omega) (by omega) (Nat.le_refl 2) ?_; intro w6 r6 s6)
  have q6 : Row w6 gr (List.replicate 54 0) := (q5.later (by go_grown)).step s6 hg1r
  have S6 : Stp (fun y => w.heap.size ≤ y) w w6 := S5.drew.next s6 (fun y hy => .inl (by subst hy; exact hw1))
  rw [hS] at r6
  go_wp2_with (first
    | (refine at_getL (by rfl) _ (by rfl) g1 (by rfl) (pS p n x) r6 ?_)
    | (refine at_put 23 54 arrL (by rfl) _ _ (by rfl) gr (by rfl) (pS p n x).l (by rfl) hq _ q6 (by simp) ?_; intro w7 r7 s7))
  have S7 : Stp (fun y => w.heap.size ≤ y) w w7 := S6.next s7 (fun y hy => .inl (by subst hy; exact hwr))
  exact bodyPost_ret (retAt arrL Try.results9 rfl rfl r7 hq) rfl ⟨rfl, S7.below (Nat.le_refl _) (fun _ h => h)⟩
set_option maxRecDepth 100000 in
theorem pwith_any (p : Ld) (k : Int) (x : UInt16) (w : World) : Calls Try.prog 9 #[.agg p.cs.toArray, .int .i64 k, .int .u16 (x.toNat : Int)] w fun e w' => e = .returned (.tuple #[.agg (pW p k x).cs.toArray, .int .i64 (plE k)]) ∧ Below w.heap.size w w' := by
  unfold pW plE
  have H := isPlace_any k
  by_cases h : isPl k
  · rw [if_pos h, if_pos h]
    rw [decide_eq_true h] at H
    obtain ⟨n, rfl⟩ : ∃ n : Nat, k = n := ⟨k.toNat, by omega⟩
    rw [Int.toNat_natCast]
    exact pwith_in p n x w (by omega) H
  · rw [if_neg h, if_neg h]
    rw [decide_eq_false h] at H
    have hp := p.len
    clear h
    go_enter Try.func9, Try.ntmps9
    go_wp2_with (first
      | (refine at_box 23 54 arrL (by rfl) _ (by rfl) p.l (by rfl) hp ?_; intro g1 w1 a1 z1 r1 b1)
      | (refine at_new 23 54 arrL (by rfl) (by rfl) ?_; intro gr w3 a3 z3 r3 b3)
      | (go_at_call 22; refine (H _).mono ?_; rintro e u ⟨rfl, rfl⟩)
      | (refine at_bldL (by rfl) (by rfl) ?_)
      | (refine at_put 23 54 arrL (by rfl) _ _ (by rfl) gr (by rfl) Ld.zero.l (by rfl) Ld.zero.len _ r3 (by simp) ?_; intro w6 r6 s6))
    have S6 : Stp (fun y => w.heap.size ≤ y) w w6 := (Stp.of_below (bnext b1 b3 (Nat.le_refl _)) _).next s6 (fun y hy => .inl (by subst hy; have := b1.size; omega))
    exact bodyPost_ret (retAt arrL Try.results9 rfl rfl r6 Ld.zero.len) rfl ⟨rfl, S6.below (Nat.le_refl _) (fun _ h => h)⟩
set_option maxRecDepth 100000 in
set_option maxHeartbeats 2000000 in
theorem rpwith_in (p : Ld) (n : Nat) (x : UInt16) (w : World) (hn : n ≤ 26) :
    Calls Try.prog 10 #[.agg p.cs.toArray, .int .i64 (n : Int), .int .u16 (x.toNat : Int)] w fun e w' => e = .returned (.tuple #[.agg (pS p n x).cs.toArray, .int .i64 0]) ∧ Below w.heap.size w w' := by
  have hp := p.len
  have hq := (pS p n x).len
  obtain ⟨m, hm0⟩ : ∃ m, Hid (m = 2 * n) := ⟨_, rfl⟩
  have hm54 : m + 2 ≤ 54 := by have := hm0.out; omega
  have hm : IntKind.i64.wrap (2 * (n : Int)) = (m : Int) := by rw [i64_small (by omega) (by omega), hm0.out]; omega
  have hm1 : IntKind.i64.wrap ((m : Int) + 1) = (m : Int) + 1 := i64_small (by omega) (by omega)
  have hm2 : ((m : Int) + 1).toNat = m + 1 := by omega
  have hm3 : (m : Int) < 54 := by omega
  have hm4 : (m : Int) + 1 < 54 := by omega
  have hm5 : 0 ≤ (m : Int) + 1 := by omega
  have hm6 : 0 ≤ (m : Int) := by omega
  obtain ⟨c0, c1, hc⟩ : ∃ c0 c1, Hid (lo2 x.toNat = [c0, c1]) := ⟨_, _, rfl⟩
  have hS : ((p.l.set m c0).set (m + 1) c1) = (pS p n x).l := by
    rw [pS_l p n x hn, ← hm0.out, hc.out]; exact (splice_two _ _ _ _ (by omega)).symm
  have t1 : True := trivial
  go_enter Try.func10, Try.ntmps10
  go_wp2_with (first
    | (refine at_box 23 54 arrL (by rfl) _ (by rfl) p.l (by rfl) hp ?_; intro g1 w1 a1 z1 r1 b1)
    | (have _t := t1; refine at_new 23 54 arrL (by rfl) (by rfl) ?_; intro gr w2 a2 z2 r2 b2; clear _t t1)
    | (go_at_call 26; refine (rput16_q x _).mono ?_; rintro e w3 ⟨gb, rfl, hgb, r3, b3⟩; have p3 := (r1.later b2).later b3)
    | (refine at_getL (by rfl) _ (by rfl) g1 (by rfl) p p3 ?_)
    | (refine at_new 23 54 arrL (by rfl) (by rfl) ?_; intro gq w4 a4 z4 r4 b4)
    | (refine at_put 23 54 arrL (by rfl) _ _ (by rfl) gq (by rfl) p.l (by rfl) hp _ r4 (by simp) ?_; intro W r5 s5))
  have B4 := bnext (bnext (bnext b1 b2 (Nat.le_refl _)) b3 (Nat.le_refl _)) b4 (Nat.le_refl _)
  have hbq : ¬ gb = gq := by have := r3.lt; omega
  have hrq : ¬ gr = gq := by have := b3.size; omega
  have hwq : w.heap.size ≤ gq := by have := b1.size; have := b2.size; have := b3.size; omega
  have hwr : w.heap.size ≤ gr := by have := b1.size; omega
  have y5 : Row W gb [c0, c1] := by rw [← hc.out]; exact (r3.later b4).step s5 hbq
  have q5 : Row W gr (List.replicate 54 0) := ((r2.later b3).later b4).step s5 hrq
  have S5 : Stp (fun y => w.heap.size ≤ y) w W := (Stp.of_below B4 _).next s5 (fun y hy => .inl (by subst hy; exact hwq))
  clear r1 r2 r3 r4 b1 b2 b3 b4 a1 z1 a2 z2 a4 z4 s5 B4 p3
  refine wp_region_held_drew (S := fun u => Stp (fun y => y = gq) W u) (by kernel_rfl) (Stp.refl _ _).drew (fun hHeld => ?_)
  refine wpAnyH_take (i := 0) (oi := { dst := some 20, op := Op.move (Operand.tmp 1), type := 3, pos := _, after := #[], guard := none }) (v := .int .i64 (n : Int)) rfl (by kernel_rfl) (by kernel_rfl) (by kernel_rfl) (fun _ _ _ h => h) (Or.inl ⟨by rfl, ?_⟩) hHeld ?_
  · intro u hu
    go_simp
  try simp only [Act.put, List.setIfInBounds_toArray, List.set_cons_zero, List.set_cons_succ]
  refine wpAnyH_take (i := 1) (oi := { dst := some 21, op := Op.binOp BinOp.mul 3 (Operand.const (Value.int IntKind.i64 2)) (Operand.tmp 20) 3, type := 3, pos := _, after := #[{ on := 0, ground := Ground.data }], guard := none }) (v := .int .i64 (m : Int)) rfl (by kernel_rfl) (by kernel_rfl) (by kernel_rfl) (fun _ _ _ h => h) (Or.inl ⟨by rfl, ?_⟩) hHeld ?_
  · intro u hu
    (go_simp)
  try simp only [Act.put, List.setIfInBounds_toArray, List.set_cons_zero, List.set_cons_succ]
  refine wpAnyH_take (i := 2) (oi := { dst := some 22, op := Op.move (Operand.tmp 1), type := 3, pos := _, after := #[{ on := 12, ground := Ground.gcOnly Departure.lateStores }], guard := none }) (v := .int .i64 (n : Int)) rfl (by kernel_rfl) (by kernel_rfl) (by kernel_rfl) (fun _ _ _ h => h) (Or.inl ⟨by rfl, ?_⟩) hHeld ?_
  · intro u hu
    go_simp
  try simp only [Act.put, List.setIfInBounds_toArray, List.set_cons_zero, List.set_cons_succ]
  refine wpAnyH_take (i := 3) (oi := { dst := some 23, op := Op.binOp BinOp.mul 3 (Operand.const (Value.int IntKind.i64 2)) (Operand.tmp 22) 3, type := 3, pos := _, after := #[{ on := 2, ground := Ground.data }, { on := 12, ground := Ground.gcOnly Departure.lateStores }], guard := none }) (v := .int .i64 (m : Int)) rfl (by kernel_rfl) (by kernel_rfl) (by kernel_rfl) (fun _ _ _ h => h) (Or.inl ⟨by rfl, ?_⟩) hHeld ?_
  · intro u hu
    (go_simp)
  try simp only [Act.put, List.setIfInBounds_toArray, List.set_cons_zero, List.set_cons_succ]
  refine wpAnyH_take (i := 4) (oi := { dst := some 24, op := Op.binOp BinOp.add 3 (Operand.tmp 23) (Operand.const (Value.int IntKind.i64 1)) 3, type := 3, pos := _, after := #[{ on := 3, ground := Ground.data }, { on := 12, ground := Ground.gcOnly Departure.lateStores }], guard := none }) (v := .int .i64 ((m : Int) + 1)) rfl (by kernel_rfl) (by kernel_rfl) (by kernel_rfl) (fun _ _ _ h => h) (Or.inl ⟨by rfl, ?_⟩) hHeld ?_
  · intro u hu
    (go_simp)
  try simp only [Act.put, List.setIfInBounds_toArray, List.set_cons_zero, List.set_cons_succ]
  refine wpAnyH_take (i := 5) (oi := { dst := some 25, op := Op.move (Operand.tmp 8), type := 52, pos := _, after := #[], guard := none }) (v := .slice (some ⟨gb, 0, none⟩) 2 2) rfl (by kernel_rfl) (by kernel_rfl) (by kernel_rfl) (fun _ _ _ h => h) (Or.inl ⟨by rfl, ?_⟩) hHeld ?_
  · intro u hu
    go_simp
  try simp only [Act.put, List.setIfInBounds_toArray, List.set_cons_zero, List.set_cons_succ]
  refine wpAnyH_take (i := 6) (oi := { dst := some 26, op := Op.indexAddr 52 (Operand.tmp 25) (Operand.const (Value.int IntKind.i64 0)), type := 0, pos := _, after := #[{ on := 5, ground := Ground.data }], guard := none }) (v := .pointer (some ⟨gb, 0, none⟩)) rfl (by kernel_rfl) (by kernel_rfl) (by kernel_rfl) (fun _ _ _ h => h) (Or.inl ⟨by rfl, ?_⟩) hHeld ?_
  · intro u hu
    (go_simp)
  try simp only [Act.put, List.setIfInBounds_toArray, List.set_cons_zero, List.set_cons_succ]
  refine wpAnyH_take (i := 7) (oi := { dst := some 27, op := Op.load 5 (Operand.tmp 26), type := 5, pos := _, after := #[{ on := 6, ground := Ground.data }], guard := none }) (v := .int .u8 (c0.toNat : Int)) rfl (by kernel_rfl) (by kernel_rfl) (by kernel_rfl) (fun _ _ _ h => h) (Or.inl ⟨by rfl, ?_⟩) hHeld ?_
  · intro u hu
    (have y := (y5.step hu hbq).cell 0 (Nat.succ_pos 1); go_simp)
  try simp only [Act.put, List.setIfInBounds_toArray, List.set_cons_zero, List.set_cons_succ]
  refine wpAnyH_take (i := 8) (oi := { dst := some 28, op := Op.move (Operand.tmp 8), type := 52, pos := _, after := #[{ on := 12, ground := Ground.gcOnly Departure.lateStores }], guard := none }) (v := .slice (some ⟨gb, 0, none⟩) 2 2) rfl (by kernel_rfl) (by kernel_rfl) (by kernel_rfl) (fun _ _ _ h => h) (Or.inl ⟨by rfl, ?_⟩) hHeld ?_
  · intro u hu
    go_simp
  try simp only [Act.put, List.setIfInBounds_toArray, List.set_cons_zero, List.set_cons_succ]
  refine wpAnyH_take (i := 9) (oi := { dst := some 29, op := Op.indexAddr 52 (Operand.tmp 28) (Operand.const (Value.int IntKind.i64 1)), type := 0, pos := _, after := #[{ on := 8, ground := Ground.data }, { on := 12, ground := Ground.gcOnly Departure.lateStores }], guard := none }) (v := .pointer (some ⟨gb, 1, none⟩)) rfl (by kernel_rfl) (by kernel_rfl) (by kernel_rfl) (fun _ _ _ h => h) (Or.inl ⟨by rfl, ?_⟩) hHeld ?_
  · intro u hu
    (go_simp)
  try simp only [Act.put, List.setIfInBounds_toArray, List.set_cons_zero, List.set_cons_succ]
  refine wpAnyH_take (i := 10) (oi := { dst := some 30, op := Op.load 5 (Operand.tmp 29), type := 5, pos := _, after := #[{ on := 9, ground := Ground.data }, { on := 12, ground := Ground.gcOnly Departure.lateStores }], guard := none }) (v := .int .u8 (c1.toNat : Int)) rfl (by kernel_rfl) (by kernel_rfl) (by kernel_rfl) (fun _ _ _ h => h) (Or.inl ⟨by rfl, ?_⟩) hHeld ?_
  · intro u hu
    (have y := (y5.step hu hbq).cell 1 (Nat.lt_succ_self 1); go_simp)
  try simp only [Act.put, List.setIfInBounds_toArray, List.set_cons_zero, List.set_cons_succ]
  refine wpAnyH_take (i := 11) (oi := { dst := some 31, op := Op.indexAddr 23 (Operand.tmp 9) (Operand.tmp 21), type := 0, pos := _, after := #[{ on := 1, ground := Ground.data }, { on := 0, ground := Ground.phase }, { on := 1, ground := Ground.phase }, { on := 2, ground := Ground.textOnly Departure.lateStores }, { on := 3, ground := Ground.textOnly Departure.lateStores }, { on := 4, ground := Ground.textOnly Departure.lateStores }, { on := 5, ground := Ground.phase }, { on := 6, ground := Ground.phase }, { on := 7, ground := Ground.phase }, { on := 8, ground := Ground.textOnly Departure.lateStores }, { on := 9, ground := Ground.textOnly Departure.lateStores }, { on := 10, ground := Ground.textOnly Departure.lateStores }], guard := none }) (v := .pointer (some ⟨gq, m, none⟩)) rfl (by kernel_rfl) (by kernel_rfl) (by kernel_rfl) (fun _ _ _ h => h) (Or.inl ⟨by rfl, ?_⟩) hHeld ?_
  · intro u hu
    (go_simp)
  try simp only [Act.put, List.setIfInBounds_toArray, List.set_cons_zero, List.set_cons_succ]
  refine wpAnyH_ready (rs := [12]) (by kernel_rfl) (by simp) ?_
  refine (AllReadyH.cons (o := { dst := none, op := Op.store 5 (Operand.tmp 31) (Operand.tmp 27), type := 0, pos := _, after := #[{ on := 11, ground := Ground.data }, { on := 7, ground := Ground.data }, { on := 0, ground := Ground.phase }, { on := 1, ground := Ground.phase }, { on := 2, ground := Ground.textOnly Departure.lateStores }, { on := 3, ground := Ground.textOnly Departure.lateStores }, { on := 4, ground := Ground.textOnly Departure.lateStores }, { on := 5, ground := Ground.phase }, { on := 6, ground := Ground.phase }, { on := 7, ground := Ground.phase }, { on := 8, ground := Ground.textOnly Departure.lateStores }, { on := 9, ground := Ground.textOnly Departure.lateStores }, { on := 10, ground := Ground.textOnly Departure.lateStores }], guard := none }) rfl (fun K hK => ?_) AllReadyH.nil)
  refine step_byte rfl (.tmp 31) (.tmp 27) rfl gq m (by rfl) c0 (by rfl) p.l (r5.later (Below.refl _ _).drew) (by omega) ?_
  intro v6 y6 s6
  refine hK.out _ _ (hHeld.next s6 (fun _ h => .inl h)) (fun hHeld => ?_)
  clear hK K
  try simp only [Act.put]
  refine wpAnyH_take (i := 13) (oi := { dst := some 32, op := Op.indexAddr 23 (Operand.tmp 9) (Operand.tmp 24), type := 0, pos := _, after := #[{ on := 4, ground := Ground.data }, { on := 0, ground := Ground.phase }, { on := 1, ground := Ground.phase }, { on := 2, ground := Ground.phase }, { on := 3, ground := Ground.phase }, { on := 4, ground := Ground.phase }, { on := 5, ground := Ground.phase }, { on := 6, ground := Ground.phase }, { on := 7, ground := Ground.phase }, { on := 8, ground := Ground.phase }, { on := 9, ground := Ground.phase }, { on := 10, ground := Ground.phase }, { on := 11, ground := Ground.phase }, { on := 12, ground := Ground.phase }], guard := none }) (v := .pointer (some ⟨gq, m + 1, none⟩)) rfl (by kernel_rfl) (by kernel_rfl) (by kernel_rfl) (fun _ _ _ h => h) (Or.inl ⟨by rfl, ?_⟩) hHeld ?_
  · intro u hu
    (go_simp)
  try simp only [Act.put, List.setIfInBounds_toArray, List.set_cons_zero, List.set_cons_succ]
  refine wpAnyH_ready (rs := [14]) (by kernel_rfl) (by simp) ?_
  refine (AllReadyH.cons (o := { dst := none, op := Op.store 5 (Operand.tmp 32) (Operand.tmp 30), type := 0, pos := _, after := #[{ on := 13, ground := Ground.data }, { on := 10, ground := Ground.data }, { on := 12, ground := Ground.chain }, { on := 0, ground := Ground.phase }, { on := 1, ground := Ground.phase }, { on := 2, ground := Ground.phase }, { on := 3, ground := Ground.phase }, { on := 4, ground := Ground.phase }, { on := 5, ground := Ground.phase }, { on := 6, ground := Ground.phase }, { on := 7, ground := Ground.phase }, { on := 8, ground := Ground.phase }, { on := 9, ground := Ground.phase }, { on := 10, ground := Ground.phase }, { on := 11, ground := Ground.phase }, { on := 12, ground := Ground.phase }], guard := none }) rfl (fun K hK => ?_) AllReadyH.nil)
  refine step_byte rfl (.tmp 32) (.tmp 30) rfl gq (m + 1) (by rfl) c1 (by rfl) _ y6 (by simp; omega) ?_
  intro v7 y7 s7
  refine hK.out _ _ (hHeld.next s7 (fun _ h => .inl h)) (fun hHeld => ?_)
  clear hK K
  try simp only [Act.put]
  refine wpAnyH_done (by kernel_rfl) ?_ _
  have q7 := q5.step hHeld hrq
  have S7 : Stp (fun y => w.heap.size ≤ y) w v7 := S5.next hHeld (fun y hy => .inl (by subst hy; exact hwq))
  rw [hS] at y7
  clear hHeld s6 s7 y6 r5 y5 q5
  go_wp2_with (first
    | (refine at_getL (by rfl) _ (by rfl) gq (by rfl) (pS p n x) y7 ?_)
    | (refine at_put 23 54 arrL (by rfl) _ _ (by rfl) gr (by rfl) (pS p n x).l (by rfl) hq _ q7 (by simp) ?_; intro w8 r8 s8))
  have S8 : Stp (fun y => w.heap.size ≤ y) w w8 := S7.next s8 (fun y hy => .inl (by subst hy; exact hwr))
  exact bodyPost_ret (retAt arrL Try.results10 rfl rfl r8 hq) rfl ⟨rfl, S8.below (Nat.le_refl _) (fun _ h => h)⟩
set_option maxRecDepth 100000 in
theorem rpwith_no (p : Ld) (k : Int) (x : UInt16) (w : World) (h : k < 0 ∨ (0 ≤ k ∧ 26 < k)) : Calls Try.prog 10 #[.agg p.cs.toArray, .int .i64 k, .int .u16 (x.toNat : Int)] w fun e w' => e = .returned (.tuple #[.agg Ld.zero.cs.toArray, .int .i64 2]) ∧ Below w.heap.size w w' := by
  have hp := p.len
  rcases h with h | ⟨h0, h⟩ <;> (
    go_enter Try.func10, Try.ntmps10
    go_wp2_with (first
      | (refine at_box 23 54 arrL (by rfl) _ (by rfl) p.l (by rfl) hp ?_; intro g1 w1 a1 z1 r1 b1)
      | (refine at_new 23 54 arrL (by rfl) (by rfl) ?_; intro gr w3 a3 z3 r3 b3)
      | (refine at_bldL (by rfl) (by rfl) ?_)
      | (refine at_put 23 54 arrL (by rfl) _ _ (by rfl) gr (by rfl) Ld.zero.l (by rfl) Ld.zero.len _ r3 (by simp) ?_; intro w6 r6 s6))
    have S6 : Stp (fun y => w.heap.size ≤ y) w w6 := (Stp.of_below (bnext b1 b3 (Nat.le_refl _)) _).next s6 (fun y hy => .inl (by subst hy; have := b1.size; omega))
    exact bodyPost_ret (retAt arrL Try.results10 rfl rfl r6 Ld.zero.len) rfl ⟨rfl, S6.below (Nat.le_refl _) (fun _ h => h)⟩)
theorem rpwith_any (p : Ld) (k : Int) (x : UInt16) (w : World) : Calls Try.prog 10 #[.agg p.cs.toArray, .int .i64 k, .int .u16 (x.toNat : Int)] w fun e w' => e = .returned (.tuple #[.agg (pW p k x).cs.toArray, .int .i64 (plE k)]) ∧ Below w.heap.size w w' := by
  unfold pW plE
  by_cases h : isPl k
  · rw [if_pos h, if_pos h]
    obtain ⟨n, rfl⟩ : ∃ n : Nat, k = n := ⟨k.toNat, by omega⟩
    rw [Int.toNat_natCast]
    exact rpwith_in p n x w (by omega)
  · rw [if_neg h, if_neg h]
    exact rpwith_no p k x w (by omega)
end Go.Proofs.Ytaahljjmofjdmaa
