/-
  The statement MapsOne, proved: for every load, kind and two places the law returns true, and what came in reads as it did; no condition.
-/
import Derived.Test.YthanenbjfcndbaaMapK
import Derived.Test.YthanenbjfcndbaaBaseA
namespace Go.Proofs.Ythanenbjfcndbaa.mapsOne
open Go.ChangeShapes Go.WideShapes Go.ChangeAt Go.RowKit
set_option linter.unusedVariables false

/-- Which kind, and how many places it has. -/
def kd (b : Bool) : Int := if b then 4 else 0
def mx (b : Bool) : Nat := if b then 24 else 128
theorem plc_kd (b : Bool) (x : Int) : plc (kd b) (among x (mx b) : Nat) := by
  have := among_lt x (mx b) (by unfold mx; split <;> omega)
  cases b
  · exact .inl ⟨rfl, by omega, by unfold mx at this; simp at this; show ((among x (mx false) : Nat) : Int) < 128; unfold mx; simp; omega⟩
  · exact .inr ⟨rfl, by omega, by unfold mx at this; simp at this; show ((among x (mx true) : Nat) : Int) < 24; unfold mx; simp; omega⟩
/-- What is told of two places, one of which is taken and given back. -/
structure Facts (p q : Ld) (k : Int) (i j : Nat) (was x y d : Bool) (at' : Nat) : Prop where
  hi : (i : Int) ≤ 1000
  hj : (j : Int) ≤ 1000
  eq : mW p k i true = q
  back : mW q k i was = p
  err : mE k i = 0
  errj : mE k j = 0
  fw : mT p k i = was
  fx : mT p k j = x
  fy : mT q k j = y
  at_is : mB k i = (at' : Int)
  at_lt : at' < 54
  same : (decide (q = p)) = was
  byte : was = true ∨ ¬ ((q.l.getD at' 0).toNat : Int) = ((p.l.getD at' 0).toNat : Int)
  fo : y = (x || d)
  fd : (d = true ∧ i = j) ∨ (d = false ∧ ¬ (i : Int) = (j : Int))
theorem facts (p : Ld) (b : Bool) (a c : Int) : ∃ was x y d at', Facts p (mW p (kd b) (among a (mx b) : Nat) true) (kd b) (among a (mx b)) (among c (mx b)) was x y d at' := by
  have hi := plc_kd b a
  have hj := plc_kd b c
  have li : among a (mx b) ≤ 1000 := by have := among_lt a (mx b) (by unfold mx; split <;> omega); have : mx b ≤ 128 := (by unfold mx; split <;> omega); omega
  have lj : among c (mx b) ≤ 1000 := by have := among_lt c (mx b) (by unfold mx; split <;> omega); have : mx b ≤ 128 := (by unfold mx; split <;> omega); omega
  generalize kd b = k at *
  generalize among a (mx b) = i at *
  generalize among c (mx b) = j at *
  have hy : mT (mW p k i true) k j = (mT p k j || decide (i = j)) := by
    rw [mW_T hi hj]
    by_cases e : i = j
    · subst e; simp
    · have e' : ¬ (i : Int) = (j : Int) := by omega
      rw [if_neg e']; simp [e]
  refine ⟨mT p k i, mT p k j, _, decide (i = j), pb k i / 8, by omega, by omega, rfl, mW_back hi, if_pos hi, if_pos hj, rfl, rfl, rfl, if_pos hi, pb_lt hi, ?_, ?_, hy, ?_⟩
  · cases h : mT p k i
    · simp [mW_ne hi h]
    · simp [mW_same hi h]
  · cases h : mT p k i
    · exact .inr (mW_byte hi h)
    · exact .inl rfl
  · by_cases e : i = j
    · exact .inl ⟨by simp [e], e⟩
    · exact .inr ⟨by simp [e], by omega⟩
theorem among_128 (x : Int) (w : World) : Calls Try.prog 25 #[.int .i64 x, .int .i64 128] w fun e w' => e = .returned (.int .i64 (among x 128 : Nat)) ∧ w = w' := among_any x 128 w (by omega) (by omega)
theorem among_24 (x : Int) (w : World) : Calls Try.prog 25 #[.int .i64 x, .int .i64 24] w fun e w' => e = .returned (.int .i64 (among x 24 : Nat)) ∧ w = w' := among_any x 24 w (by omega) (by omega)
set_option maxRecDepth 100000 in
set_option maxHeartbeats 8000000 in
theorem walk_d_tt (p q : Ld) (a c : Int) (i j : Nat) (y d : Bool) (at' : Nat) (w : World) (hai : among a 128 = i) (hcj : among c 128 = j) (F : Facts p q 0 i j true true y d at') :
    Calls Try.prog 5 #[.agg p.cs.toArray, .bool false, .int .i64 a, .int .i64 c] w fun e w' => e = .returned (.bool true) ∧ Below w.heap.size w w' := by
  have hp := p.len
  have hq := q.len
  obtain rfl : y = true := F.fo
  have A1 := among_128 a
  have A2 := among_128 c
  rw [hai] at A1
  rw [hcj] at A2
  have G1 := fun w => taken_any p 0 (i : Int) w (by decide)
  have G2 := fun w => mwith_any p 0 (i : Int) true w (by decide)
  have G3 := fun w => taken_any p 0 (j : Int) w (by decide)
  have G4 := fun w => taken_any q 0 (j : Int) w (by decide)
  have G5 := fun w => mwith_any q 0 (i : Int) true w (by decide)
  have G6 := fun w => byte_any 0 (i : Int) w (by decide)
  rw [F.fw, F.err] at G1
  rw [F.eq, F.err] at G2
  rw [F.fx, F.errj] at G3
  rw [F.fy, F.errj] at G4
  rw [F.back, F.err] at G5
  rw [F.at_is, F.err] at G6
  have hlt := F.at_lt
  have hsame := F.same
  have hby := F.byte
  have hdB : ((i : Int) == (j : Int)) = d := by rcases F.fd with ⟨rfl, e⟩ | ⟨rfl, e⟩ <;> simp [e]
  obtain ⟨bq, hbq⟩ : ∃ z : Int, Hid (((q.l.getD at' 0).toNat : Int) = z) := ⟨_, rfl⟩
  obtain ⟨bp, hbp⟩ : ∃ z : Int, Hid (((p.l.getD at' 0).toNat : Int) = z) := ⟨_, rfl⟩
  rw [hbq.out, hbp.out] at hby
  have hi := F.hi
  have hj := F.hj
  have H1 : Hid _ := G1
  have H2 : Hid _ := G2
  have H3 : Hid _ := G3
  have H4 : Hid _ := G4
  have H5 : Hid _ := G5
  have H6 : Hid _ := G6
  have HA1 : Hid _ := A1
  have HA2 : Hid _ := A2
  clear G1 G2 G3 G4 G5 G6 A1 A2 F hai hcj
  have qP : ∀ w, (Op.equalIn 10000 23 (.agg p.cs.toArray) (.agg p.cs.toArray)).run Try.prog w = .ok true w := fun w => by rw [eqL]; simp
  have qQ : ∀ w, (Op.equalIn 10000 23 (.agg q.cs.toArray) (.agg p.cs.toArray)).run Try.prog w = .ok true w := fun w => by rw [eqL, hsame]
  have gL := guardL
  clear hsame
  have t1 : True := trivial
  have t2 : True := trivial
  have t3 : True := trivial
  go_enter Try.func5, Try.ntmps5
  go_wp2_with (first
    | (refine at_box 23 54 arrL (by rfl) _ (by rfl) p.l (by rfl) hp ?_; intro g0 u0 a0 z0 r0 b0)
    | (go_at_call 18; refine (works_any _).mono ?_; rintro e u1 ⟨rfl, b1⟩; have rp1 := r0.later b1; have B1 := bnext b0 b1 (Nat.le_refl _); clear r0 b0 b1)
    | (have _t := t1; go_at_call 25; refine (HA1.out _).mono ?_; rintro e w' ⟨rfl, rfl⟩; clear _t t1)
    | (go_at_call 25; refine (HA2.out _).mono ?_; rintro e w' ⟨rfl, rfl⟩)
    | (refine at_getL (by rfl) _ (by rfl) g0 (by rfl) p rp5 ?_)
    | (refine at_getL (by rfl) _ (by rfl) g0 (by rfl) p rp2 ?_)
    | (refine at_getL (by rfl) _ (by rfl) g0 (by rfl) p rp1 ?_)
    | (refine at_getL (by rfl) _ (by rfl) gq (by rfl) q rq7 ?_)
    | (refine at_getL (by rfl) _ (by rfl) gq (by rfl) q rq6 ?_)
    | (have _t := t2; go_at_call 10; refine (H1.out _).mono ?_; rintro e u2 ⟨rfl, b2⟩; clear _t t2; have rp2 := rp1.later b2; have B2 := bnext B1 b2 (Nat.le_refl _); clear rp1 B1 b2)
    | (have _t := t3; go_at_call 12; refine (H2.out _).mono ?_; rintro e u3 ⟨rfl, b3⟩; clear _t)
    | (have _t := t3; refine at_new 23 54 arrL (by rfl) (by rfl) ?_; intro gq u4 a4 z4 r4 b4; clear _t)
    | (have _t := t3; refine at_put 23 54 arrL (by rfl) _ _ (by rfl) gq (by rfl) q.l (by rfl) hq _ r4 (by simp) ?_; intro u5 rq5 s5; clear _t t3
       have rp5 : Row u5 g0 p.l := ((rp2.later b3).later b4).step s5 (by have := rp2.lt; have := b3.size; omega)
       have S5 : Stp (fun x => w.heap.size ≤ x) w u5 := (Stp.of_below (bnext (bnext B2 b3 (Nat.le_refl _)) b4 (Nat.le_refl _)) (fun x => w.heap.size ≤ x)).next s5 (fun x hx => .inl (by subst hx; have := B2.size; have := b3.size; omega))
       clear rp2 B2 r4 b3 b4 s5 a4 z4
       have t4 : True := trivial)
    | (have _t := t4; go_at_call 10; refine (H3.out _).mono ?_; rintro e u6 ⟨rfl, b6⟩; clear _t t4; have rp6 := rp5.later b6; have rq6 := rq5.later b6; have S6 := S5.next (Stp.of_below b6 (fun _ => False)) (fun _ h => h.elim); clear rp5 rq5 S5 b6)
    | (go_at_call 10; refine (H4.out _).mono ?_; rintro e u7 ⟨rfl, b7⟩; have rp7 := rp6.later b7; have rq7 := rq6.later b7; have S7 := S6.next (Stp.of_below b7 (fun _ => False)) (fun _ h => h.elim); clear rp6 rq6 S6 b7)
    | (go_at_call 12; refine (H5.out _).mono ?_; rintro e u8 ⟨rfl, b8⟩)
    | (refine at_new 23 54 arrL (by rfl) (by rfl) ?_; intro gr u9 a9 z9 r9 b9)
    | (refine at_put 23 54 arrL (by rfl) _ _ (by rfl) gr (by rfl) p.l (by rfl) hp _ r9 (by simp) ?_; intro u10 rr10 s10
       have rp10 : Row u10 g0 p.l := ((rp7.later b8).later b9).step s10 (by have := rp7.lt; have := b8.size; omega)
       have rq10 : Row u10 gq q.l := ((rq7.later b8).later b9).step s10 (by have := rq7.lt; have := b8.size; omega)
       have S10 := (S7.next (Stp.of_below (bnext b8 b9 (Nat.le_refl _)) (fun _ => False)) (fun _ h => h.elim)).next s10 (fun x hx => .inl (by subst hx; have := S7.size; have := b8.size; omega))
       clear rp7 rq7 S7 r9 b8 b9 s10 a9 z9)
    | (go_at_call 14; refine (H6.out _).mono ?_; rintro e W ⟨rfl, b11⟩
       have rp := rp10.later b11
       have rq := rq10.later b11
       have rr := rr10.later b11
       have S := S10.next (Stp.of_below b11 (fun _ => False)) (fun _ h => h.elim)
       clear rp10 rq10 rr10 S10 b11))
  clear H1 H2 H3 H4 H5 H6 HA1 HA2
  refine wp_region_held_drew (S := fun u => Below W.heap.size W u) (by kernel_rfl) (Below.refl _ _).drew (fun hHeld => ?_)
  refine wpAnyH_take (i := 0) (oi := { dst := some 74, op := Op.move (Operand.tmp 14), type := 24, pos := _, after := #[], guard := none }) (v := .int .i64 0) rfl (by kernel_rfl) (by kernel_rfl) (by kernel_rfl) (fun _ _ _ h => h) (Or.inl ⟨by rfl, ?_⟩) hHeld ?_
  · intro u hu
    go_simp
  try simp only [Act.put, List.setIfInBounds_toArray, List.set_cons_zero, List.set_cons_succ]
  refine wpAnyH_take (i := 1) (oi := { dst := some 75, op := Op.binOp BinOp.eql 24 (Operand.tmp 74) (Operand.const (Value.int IntKind.i64 0)) 24, type := 4, pos := _, after := #[{ on := 0, ground := Ground.data }], guard := none }) (v := .bool true) rfl (by kernel_rfl) (by kernel_rfl) (by kernel_rfl) (fun _ _ _ h => h) (Or.inl ⟨by rfl, ?_⟩) hHeld ?_
  · intro u hu
    go_simp
  try simp only [Act.put, List.setIfInBounds_toArray, List.set_cons_zero, List.set_cons_succ]
  refine wpAnyH_take (i := 2) (oi := { dst := some 76, op := Op.move (Operand.tmp 75), type := 4, pos := _, after := #[{ on := 1, ground := Ground.data }], guard := none }) (v := .bool true) rfl (by kernel_rfl) (by kernel_rfl) (by kernel_rfl) (fun _ _ _ h => h) (Or.inl ⟨by rfl, ?_⟩) hHeld ?_
  · intro u hu
    go_simp
  try simp only [Act.put, List.setIfInBounds_toArray, List.set_cons_zero, List.set_cons_succ]
  refine wpAnyH_take (i := 3) (oi := { dst := some 77, op := Op.move (Operand.tmp 20), type := 24, pos := _, after := #[{ on := 2, ground := Ground.guard }], guard := some (2, true) }) (v := .int .i64 0) rfl (by kernel_rfl) (by kernel_rfl) (by kernel_rfl) (fun _ _ _ h => h) (Or.inl ⟨by rfl, ?_⟩) hHeld ?_
  · intro u hu
    go_simp
  try simp only [Act.put, List.setIfInBounds_toArray, List.set_cons_zero, List.set_cons_succ]
  refine wpAnyH_take (i := 4) (oi := { dst := some 78, op := Op.binOp BinOp.eql 24 (Operand.tmp 77) (Operand.const (Value.int IntKind.i64 0)) 24, type := 4, pos := _, after := #[{ on := 3, ground := Ground.data }, { on := 2, ground := Ground.guard }], guard := some (2, true) }) (v := .bool true) rfl (by kernel_rfl) (by kernel_rfl) (by kernel_rfl) (fun _ _ _ h => h) (Or.inl ⟨by rfl, ?_⟩) hHeld ?_
  · intro u hu
    go_simp
  try simp only [Act.put, List.setIfInBounds_toArray, List.set_cons_zero, List.set_cons_succ]
  refine wpAnyH_take (i := 5) (oi := { dst := some 79, op := Op.pick (Operand.tmp 76) (Operand.tmp 78) (Operand.const (Value.bool false)), type := 4, pos := _, after := #[{ on := 2, ground := Ground.data }, { on := 4, ground := Ground.data }], guard := none }) (v := .bool true) rfl (by kernel_rfl) (by kernel_rfl) (by kernel_rfl) (fun _ _ _ h => h) (Or.inl ⟨by rfl, ?_⟩) hHeld ?_
  · intro u hu
    go_simp
  try simp only [Act.put, List.setIfInBounds_toArray, List.set_cons_zero, List.set_cons_succ]
  refine wpAnyH_take (i := 6) (oi := { dst := some 80, op := Op.move (Operand.tmp 79), type := 4, pos := _, after := #[{ on := 5, ground := Ground.data }, { on := 2, ground := Ground.chain }], guard := none }) (v := .bool true) rfl (by kernel_rfl) (by kernel_rfl) (by kernel_rfl) (fun _ _ _ h => h) (Or.inl ⟨by rfl, ?_⟩) hHeld ?_
  · intro u hu
    go_simp
  try simp only [Act.put, List.setIfInBounds_toArray, List.set_cons_zero, List.set_cons_succ]
  refine wpAnyH_take (i := 7) (oi := { dst := some 81, op := Op.load 23 (Operand.tmp 19), type := 23, pos := _, after := #[{ on := 6, ground := Ground.guard }], guard := some (6, true) }) (v := .agg p.cs.toArray) rfl (by kernel_rfl) (by kernel_rfl) (by kernel_rfl) (fun _ _ _ h => h)
    (yields_row 23 54 arrL (by rfl) (.tmp 19) rfl gr (by rfl) p.l hp (fun u hu => rr.later hu)) hHeld ?_
  try simp only [Act.put, List.setIfInBounds_toArray, List.set_cons_zero, List.set_cons_succ]
  refine wpAnyH_take (i := 8) (oi := { dst := some 82, op := Op.load 23 (Operand.tmp 4), type := 23, pos := _, after := #[{ on := 6, ground := Ground.guard }], guard := some (6, true) }) (v := .agg p.cs.toArray) rfl (by kernel_rfl) (by kernel_rfl) (by kernel_rfl) (fun _ _ _ h => h)
    (yields_row 23 54 arrL (by rfl) (.tmp 4) rfl g0 (by rfl) p.l hp (fun u hu => rp.later hu)) hHeld ?_
  try simp only [Act.put, List.setIfInBounds_toArray, List.set_cons_zero, List.set_cons_succ]
  refine wpAnyH_take (i := 9) (oi := { dst := some 83, op := Op.binOp BinOp.eql 23 (Operand.tmp 81) (Operand.tmp 82) 23, type := 4, pos := _, after := #[{ on := 7, ground := Ground.data }, { on := 8, ground := Ground.data }, { on := 6, ground := Ground.guard }], guard := some (6, true) }) (v := .bool true) rfl (by kernel_rfl) (by kernel_rfl) (by kernel_rfl) (fun _ _ _ h => h) (Or.inl ⟨by rfl, ?_⟩) hHeld ?_
  · intro u hu
    go_simp
  try simp only [Act.put, List.setIfInBounds_toArray, List.set_cons_zero, List.set_cons_succ]
  refine wpAnyH_take (i := 10) (oi := { dst := some 84, op := Op.pick (Operand.tmp 80) (Operand.tmp 83) (Operand.const (Value.bool false)), type := 4, pos := _, after := #[{ on := 6, ground := Ground.data }, { on := 9, ground := Ground.data }], guard := none }) (v := .bool true) rfl (by kernel_rfl) (by kernel_rfl) (by kernel_rfl) (fun _ _ _ h => h) (Or.inl ⟨by rfl, ?_⟩) hHeld ?_
  · intro u hu
    go_simp
  try simp only [Act.put, List.setIfInBounds_toArray, List.set_cons_zero, List.set_cons_succ]
  refine wpAnyH_take (i := 11) (oi := { dst := some 85, op := Op.move (Operand.tmp 84), type := 4, pos := _, after := #[{ on := 10, ground := Ground.data }, { on := 6, ground := Ground.chain }], guard := none }) (v := .bool true) rfl (by kernel_rfl) (by kernel_rfl) (by kernel_rfl) (fun _ _ _ h => h) (Or.inl ⟨by rfl, ?_⟩) hHeld ?_
  · intro u hu
    go_simp
  try simp only [Act.put, List.setIfInBounds_toArray, List.set_cons_zero, List.set_cons_succ]
  refine wpAnyH_take (i := 12) (oi := { dst := some 86, op := Op.move (Operand.tmp 17), type := 4, pos := _, after := #[{ on := 11, ground := Ground.guard }], guard := some (11, true) }) (v := .bool true) rfl (by kernel_rfl) (by kernel_rfl) (by kernel_rfl) (fun _ _ _ h => h) (Or.inl ⟨by rfl, ?_⟩) hHeld ?_
  · intro u hu
    go_simp
  try simp only [Act.put, List.setIfInBounds_toArray, List.set_cons_zero, List.set_cons_succ]
  refine wpAnyH_take (i := 13) (oi := { dst := some 87, op := Op.move (Operand.tmp 15), type := 4, pos := _, after := #[{ on := 11, ground := Ground.guard }], guard := some (11, true) }) (v := .bool true) rfl (by kernel_rfl) (by kernel_rfl) (by kernel_rfl) (fun _ _ _ h => h) (Or.inl ⟨by rfl, ?_⟩) hHeld ?_
  · intro u hu
    go_simp
  try simp only [Act.put, List.setIfInBounds_toArray, List.set_cons_zero, List.set_cons_succ]
  refine wpAnyH_take (i := 14) (oi := { dst := some 88, op := Op.move (Operand.tmp 87), type := 4, pos := _, after := #[{ on := 13, ground := Ground.data }, { on := 11, ground := Ground.chain }, { on := 11, ground := Ground.guard }], guard := some (11, true) }) (v := .bool true) rfl (by kernel_rfl) (by kernel_rfl) (by kernel_rfl) (fun _ _ _ h => h) (Or.inl ⟨by rfl, ?_⟩) hHeld ?_
  · intro u hu
    go_simp
  try simp only [Act.put, List.setIfInBounds_toArray, List.set_cons_zero, List.set_cons_succ]
  refine wpAnyH_take (i := 15) (oi := { dst := some 89, op := Op.move (Operand.tmp 2), type := 3, pos := _, after := #[{ on := 14, ground := Ground.guard }], guard := some (14, false) }) (v := undef) rfl (by kernel_rfl) (by kernel_rfl) (by kernel_rfl) (fun _ _ _ h => h)
    (Or.inr ⟨by rfl, rfl⟩) hHeld ?_
  try simp only [Act.put, List.setIfInBounds_toArray, List.set_cons_zero, List.set_cons_succ]
  refine wpAnyH_take (i := 16) (oi := { dst := some 90, op := Op.move (Operand.tmp 3), type := 3, pos := _, after := #[{ on := 14, ground := Ground.guard }], guard := some (14, false) }) (v := undef) rfl (by kernel_rfl) (by kernel_rfl) (by kernel_rfl) (fun _ _ _ h => h)
    (Or.inr ⟨by rfl, rfl⟩) hHeld ?_
  try simp only [Act.put, List.setIfInBounds_toArray, List.set_cons_zero, List.set_cons_succ]
  refine wpAnyH_take (i := 17) (oi := { dst := some 91, op := Op.binOp BinOp.eql 3 (Operand.tmp 89) (Operand.tmp 90) 3, type := 4, pos := _, after := #[{ on := 15, ground := Ground.data }, { on := 16, ground := Ground.data }, { on := 14, ground := Ground.guard }], guard := some (14, false) }) (v := undef) rfl (by kernel_rfl) (by kernel_rfl) (by kernel_rfl) (fun _ _ _ h => h)
    (Or.inr ⟨by rfl, rfl⟩) hHeld ?_
  try simp only [Act.put, List.setIfInBounds_toArray, List.set_cons_zero, List.set_cons_succ]
  refine wpAnyH_take (i := 18) (oi := { dst := some 92, op := Op.pick (Operand.tmp 88) (Operand.const (Value.bool true)) (Operand.tmp 91), type := 4, pos := _, after := #[{ on := 14, ground := Ground.data }, { on := 17, ground := Ground.data }, { on := 11, ground := Ground.guard }], guard := some (11, true) }) (v := .bool true) rfl (by kernel_rfl) (by kernel_rfl) (by kernel_rfl) (fun _ _ _ h => h) (Or.inl ⟨by rfl, ?_⟩) hHeld ?_
  · intro u hu
    go_simp
  try simp only [Act.put, List.setIfInBounds_toArray, List.set_cons_zero, List.set_cons_succ]
  refine wpAnyH_take (i := 19) (oi := { dst := some 93, op := Op.binOp BinOp.eql 4 (Operand.tmp 86) (Operand.tmp 92) 4, type := 4, pos := _, after := #[{ on := 12, ground := Ground.data }, { on := 18, ground := Ground.data }, { on := 11, ground := Ground.guard }], guard := some (11, true) }) (v := .bool true) rfl (by kernel_rfl) (by kernel_rfl) (by kernel_rfl) (fun _ _ _ h => h) (Or.inl ⟨by rfl, ?_⟩) hHeld ?_
  · intro u hu
    go_simp
  try simp only [Act.put, List.setIfInBounds_toArray, List.set_cons_zero, List.set_cons_succ]
  refine wpAnyH_take (i := 20) (oi := { dst := some 94, op := Op.pick (Operand.tmp 85) (Operand.tmp 93) (Operand.const (Value.bool false)), type := 4, pos := _, after := #[{ on := 11, ground := Ground.data }, { on := 19, ground := Ground.data }], guard := none }) (v := .bool true) rfl (by kernel_rfl) (by kernel_rfl) (by kernel_rfl) (fun _ _ _ h => h) (Or.inl ⟨by rfl, ?_⟩) hHeld ?_
  · intro u hu
    go_simp
  try simp only [Act.put, List.setIfInBounds_toArray, List.set_cons_zero, List.set_cons_succ]
  refine wpAnyH_take (i := 21) (oi := { dst := some 95, op := Op.move (Operand.tmp 94), type := 4, pos := _, after := #[{ on := 20, ground := Ground.data }, { on := 14, ground := Ground.chain }], guard := none }) (v := .bool true) rfl (by kernel_rfl) (by kernel_rfl) (by kernel_rfl) (fun _ _ _ h => h) (Or.inl ⟨by rfl, ?_⟩) hHeld ?_
  · intro u hu
    go_simp
  try simp only [Act.put, List.setIfInBounds_toArray, List.set_cons_zero, List.set_cons_succ]
  refine wpAnyH_take (i := 22) (oi := { dst := some 96, op := Op.load 23 (Operand.tmp 13), type := 23, pos := _, after := #[{ on := 21, ground := Ground.guard }], guard := some (21, true) }) (v := .agg q.cs.toArray) rfl (by kernel_rfl) (by kernel_rfl) (by kernel_rfl) (fun _ _ _ h => h)
    (yields_row 23 54 arrL (by rfl) (.tmp 13) rfl gq (by rfl) q.l hq (fun u hu => rq.later hu)) hHeld ?_
  try simp only [Act.put, List.setIfInBounds_toArray, List.set_cons_zero, List.set_cons_succ]
  refine wpAnyH_take (i := 23) (oi := { dst := some 97, op := Op.load 23 (Operand.tmp 4), type := 23, pos := _, after := #[{ on := 21, ground := Ground.guard }], guard := some (21, true) }) (v := .agg p.cs.toArray) rfl (by kernel_rfl) (by kernel_rfl) (by kernel_rfl) (fun _ _ _ h => h)
    (yields_row 23 54 arrL (by rfl) (.tmp 4) rfl g0 (by rfl) p.l hp (fun u hu => rp.later hu)) hHeld ?_
  try simp only [Act.put, List.setIfInBounds_toArray, List.set_cons_zero, List.set_cons_succ]
  refine wpAnyH_take (i := 24) (oi := { dst := some 98, op := Op.binOp BinOp.eql 23 (Operand.tmp 96) (Operand.tmp 97) 23, type := 4, pos := _, after := #[{ on := 22, ground := Ground.data }, { on := 23, ground := Ground.data }, { on := 21, ground := Ground.guard }], guard := some (21, true) }) (v := .bool true) rfl (by kernel_rfl) (by kernel_rfl) (by kernel_rfl) (fun _ _ _ h => h) (Or.inl ⟨by rfl, ?_⟩) hHeld ?_
  · intro u hu
    go_simp
  try simp only [Act.put, List.setIfInBounds_toArray, List.set_cons_zero, List.set_cons_succ]
  refine wpAnyH_take (i := 25) (oi := { dst := some 99, op := Op.move (Operand.tmp 11), type := 4, pos := _, after := #[{ on := 21, ground := Ground.guard }], guard := some (21, true) }) (v := .bool true) rfl (by kernel_rfl) (by kernel_rfl) (by kernel_rfl) (fun _ _ _ h => h) (Or.inl ⟨by rfl, ?_⟩) hHeld ?_
  · intro u hu
    go_simp
  try simp only [Act.put, List.setIfInBounds_toArray, List.set_cons_zero, List.set_cons_succ]
  refine wpAnyH_take (i := 26) (oi := { dst := some 100, op := Op.binOp BinOp.eql 4 (Operand.tmp 98) (Operand.tmp 99) 4, type := 4, pos := _, after := #[{ on := 24, ground := Ground.data }, { on := 25, ground := Ground.data }, { on := 21, ground := Ground.guard }], guard := some (21, true) }) (v := .bool true) rfl (by kernel_rfl) (by kernel_rfl) (by kernel_rfl) (fun _ _ _ h => h) (Or.inl ⟨by rfl, ?_⟩) hHeld ?_
  · intro u hu
    go_simp
  try simp only [Act.put, List.setIfInBounds_toArray, List.set_cons_zero, List.set_cons_succ]
  refine wpAnyH_take (i := 27) (oi := { dst := some 101, op := Op.pick (Operand.tmp 95) (Operand.tmp 100) (Operand.const (Value.bool false)), type := 4, pos := _, after := #[{ on := 21, ground := Ground.data }, { on := 26, ground := Ground.data }], guard := none }) (v := .bool true) rfl (by kernel_rfl) (by kernel_rfl) (by kernel_rfl) (fun _ _ _ h => h) (Or.inl ⟨by rfl, ?_⟩) hHeld ?_
  · intro u hu
    go_simp
  try simp only [Act.put, List.setIfInBounds_toArray, List.set_cons_zero, List.set_cons_succ]
  refine wpAnyH_take (i := 28) (oi := { dst := some 102, op := Op.move (Operand.tmp 101), type := 4, pos := _, after := #[{ on := 27, ground := Ground.data }, { on := 21, ground := Ground.chain }], guard := none }) (v := .bool true) rfl (by kernel_rfl) (by kernel_rfl) (by kernel_rfl) (fun _ _ _ h => h) (Or.inl ⟨by rfl, ?_⟩) hHeld ?_
  · intro u hu
    go_simp
  try simp only [Act.put, List.setIfInBounds_toArray, List.set_cons_zero, List.set_cons_succ]
  refine wpAnyH_take (i := 29) (oi := { dst := some 103, op := Op.move (Operand.tmp 11), type := 4, pos := _, after := #[{ on := 28, ground := Ground.guard }], guard := some (28, true) }) (v := .bool true) rfl (by kernel_rfl) (by kernel_rfl) (by kernel_rfl) (fun _ _ _ h => h) (Or.inl ⟨by rfl, ?_⟩) hHeld ?_
  · intro u hu
    go_simp
  try simp only [Act.put, List.setIfInBounds_toArray, List.set_cons_zero, List.set_cons_succ]
  refine wpAnyH_take (i := 30) (oi := { dst := some 104, op := Op.move (Operand.tmp 103), type := 4, pos := _, after := #[{ on := 29, ground := Ground.data }, { on := 28, ground := Ground.chain }, { on := 28, ground := Ground.guard }], guard := some (28, true) }) (v := .bool true) rfl (by kernel_rfl) (by kernel_rfl) (by kernel_rfl) (fun _ _ _ h => h) (Or.inl ⟨by rfl, ?_⟩) hHeld ?_
  · intro u hu
    go_simp
  try simp only [Act.put, List.setIfInBounds_toArray, List.set_cons_zero, List.set_cons_succ]
  refine wpAnyH_take (i := 31) (oi := { dst := some 105, op := Op.move (Operand.tmp 21), type := 3, pos := _, after := #[{ on := 30, ground := Ground.guard }], guard := some (30, false) }) (v := undef) rfl (by kernel_rfl) (by kernel_rfl) (by kernel_rfl) (fun _ _ _ h => h)
    (Or.inr ⟨by rfl, rfl⟩) hHeld ?_
  try simp only [Act.put, List.setIfInBounds_toArray, List.set_cons_zero, List.set_cons_succ]
  refine wpAnyH_take (i := 32) (oi := { dst := some 106, op := Op.indexAddr 23 (Operand.tmp 13) (Operand.tmp 105), type := 0, pos := _, after := #[{ on := 31, ground := Ground.data }, { on := 30, ground := Ground.guard }], guard := some (30, false) }) (v := undef) rfl (by kernel_rfl) (by kernel_rfl) (by kernel_rfl) (fun _ _ _ h => h)
    (Or.inr ⟨by rfl, rfl⟩) hHeld ?_
  try simp only [Act.put, List.setIfInBounds_toArray, List.set_cons_zero, List.set_cons_succ]
  refine wpAnyH_take (i := 33) (oi := { dst := some 107, op := Op.load 5 (Operand.tmp 106), type := 5, pos := _, after := #[{ on := 32, ground := Ground.data }, { on := 30, ground := Ground.guard }], guard := some (30, false) }) (v := undef) rfl (by kernel_rfl) (by kernel_rfl) (by kernel_rfl) (fun _ _ _ h => h)
    (Or.inr ⟨by rfl, rfl⟩) hHeld ?_
  try simp only [Act.put, List.setIfInBounds_toArray, List.set_cons_zero, List.set_cons_succ]
  refine wpAnyH_take (i := 34) (oi := { dst := some 108, op := Op.move (Operand.tmp 21), type := 3, pos := _, after := #[{ on := 30, ground := Ground.guard }], guard := some (30, false) }) (v := undef) rfl (by kernel_rfl) (by kernel_rfl) (by kernel_rfl) (fun _ _ _ h => h)
    (Or.inr ⟨by rfl, rfl⟩) hHeld ?_
  try simp only [Act.put, List.setIfInBounds_toArray, List.set_cons_zero, List.set_cons_succ]
  refine wpAnyH_take (i := 35) (oi := { dst := some 109, op := Op.indexAddr 23 (Operand.tmp 4) (Operand.tmp 108), type := 0, pos := _, after := #[{ on := 34, ground := Ground.data }, { on := 30, ground := Ground.guard }], guard := some (30, false) }) (v := undef) rfl (by kernel_rfl) (by kernel_rfl) (by kernel_rfl) (fun _ _ _ h => h)
    (Or.inr ⟨by rfl, rfl⟩) hHeld ?_
  try simp only [Act.put, List.setIfInBounds_toArray, List.set_cons_zero, List.set_cons_succ]
  refine wpAnyH_take (i := 36) (oi := { dst := some 110, op := Op.load 5 (Operand.tmp 109), type := 5, pos := _, after := #[{ on := 35, ground := Ground.data }, { on := 30, ground := Ground.guard }], guard := some (30, false) }) (v := undef) rfl (by kernel_rfl) (by kernel_rfl) (by kernel_rfl) (fun _ _ _ h => h)
    (Or.inr ⟨by rfl, rfl⟩) hHeld ?_
  try simp only [Act.put, List.setIfInBounds_toArray, List.set_cons_zero, List.set_cons_succ]
  refine wpAnyH_take (i := 37) (oi := { dst := some 111, op := Op.binOp BinOp.neq 5 (Operand.tmp 107) (Operand.tmp 110) 5, type := 4, pos := _, after := #[{ on := 33, ground := Ground.data }, { on := 36, ground := Ground.data }, { on := 30, ground := Ground.guard }], guard := some (30, false) }) (v := undef) rfl (by kernel_rfl) (by kernel_rfl) (by kernel_rfl) (fun _ _ _ h => h)
    (Or.inr ⟨by rfl, rfl⟩) hHeld ?_
  try simp only [Act.put, List.setIfInBounds_toArray, List.set_cons_zero, List.set_cons_succ]
  refine wpAnyH_take (i := 38) (oi := { dst := some 112, op := Op.pick (Operand.tmp 104) (Operand.const (Value.bool true)) (Operand.tmp 111), type := 4, pos := _, after := #[{ on := 30, ground := Ground.data }, { on := 37, ground := Ground.data }, { on := 28, ground := Ground.guard }], guard := some (28, true) }) (v := .bool true) rfl (by kernel_rfl) (by kernel_rfl) (by kernel_rfl) (fun _ _ _ h => h) (Or.inl ⟨by rfl, ?_⟩) hHeld ?_
  · intro u hu
    go_simp
  try simp only [Act.put, List.setIfInBounds_toArray, List.set_cons_zero, List.set_cons_succ]
  refine wpAnyH_take (i := 39) (oi := { dst := some 113, op := Op.pick (Operand.tmp 102) (Operand.tmp 112) (Operand.const (Value.bool false)), type := 4, pos := _, after := #[{ on := 28, ground := Ground.data }, { on := 38, ground := Ground.data }], guard := none }) (v := .bool true) rfl (by kernel_rfl) (by kernel_rfl) (by kernel_rfl) (fun _ _ _ h => h) (Or.inl ⟨by rfl, ?_⟩) hHeld ?_
  · intro u hu
    go_simp
  try simp only [Act.put, List.setIfInBounds_toArray, List.set_cons_zero, List.set_cons_succ]
  refine wpAnyH_take (i := 40) (oi := { dst := some 8, op := Op.assign (Operand.tmp 113), type := 4, pos := _, after := #[{ on := 39, ground := Ground.data }, { on := 30, ground := Ground.chain }, { on := 0, ground := Ground.phase }, { on := 1, ground := Ground.phase }, { on := 2, ground := Ground.phase }, { on := 3, ground := Ground.phase }, { on := 4, ground := Ground.phase }, { on := 5, ground := Ground.phase }, { on := 6, ground := Ground.phase }, { on := 7, ground := Ground.phase }, { on := 8, ground := Ground.phase }, { on := 9, ground := Ground.phase }, { on := 10, ground := Ground.phase }, { on := 11, ground := Ground.phase }, { on := 12, ground := Ground.phase }, { on := 13, ground := Ground.phase }, { on := 14, ground := Ground.phase }, { on := 15, ground := Ground.phase }, { on := 16, ground := Ground.phase }, { on := 17, ground := Ground.phase }, { on := 18, ground := Ground.phase }, { on := 19, ground := Ground.phase }, { on := 20, ground := Ground.phase }, { on := 21, ground := Ground.phase }, { on := 22, ground := Ground.phase }, { on := 23, ground := Ground.phase }, { on := 24, ground := Ground.phase }, { on := 25, ground := Ground.phase }, { on := 26, ground := Ground.phase }, { on := 27, ground := Ground.phase }, { on := 28, ground := Ground.phase }, { on := 29, ground := Ground.phase }, { on := 30, ground := Ground.phase }, { on := 31, ground := Ground.phase }, { on := 32, ground := Ground.phase }, { on := 33, ground := Ground.phase }, { on := 34, ground := Ground.phase }, { on := 35, ground := Ground.phase }, { on := 36, ground := Ground.phase }, { on := 37, ground := Ground.phase }, { on := 38, ground := Ground.phase }, { on := 39, ground := Ground.phase }], guard := none }) (v := .bool true) rfl (by kernel_rfl) (by kernel_rfl) (by kernel_rfl) (fun _ _ _ h => h) (Or.inl ⟨by rfl, ?_⟩) hHeld ?_
  · intro u hu
    go_simp
  try simp only [Act.put, List.setIfInBounds_toArray, List.set_cons_zero, List.set_cons_succ]
  refine wpAnyH_done (by kernel_rfl) ?_ _
  go_wp2_with fail
  go_returns
  exact ⟨rfl, (S.next (Stp.of_below hHeld (fun _ => False)) (fun _ h => h.elim)).below (Nat.le_refl _) (fun _ h => h)⟩
set_option maxRecDepth 100000 in
set_option maxHeartbeats 8000000 in
theorem walk_d_tf (p q : Ld) (a c : Int) (i j : Nat) (y d : Bool) (at' : Nat) (w : World) (hai : among a 128 = i) (hcj : among c 128 = j) (F : Facts p q 0 i j false true y d at') :
    Calls Try.prog 5 #[.agg p.cs.toArray, .bool false, .int .i64 a, .int .i64 c] w fun e w' => e = .returned (.bool true) ∧ Below w.heap.size w w' := by
  have hp := p.len
  have hq := q.len
  obtain rfl : y = true := F.fo
  have A1 := among_128 a
  have A2 := among_128 c
  rw [hai] at A1
  rw [hcj] at A2
  have G1 := fun w => taken_any p 0 (i : Int) w (by decide)
  have G2 := fun w => mwith_any p 0 (i : Int) true w (by decide)
  have G3 := fun w => taken_any p 0 (j : Int) w (by decide)
  have G4 := fun w => taken_any q 0 (j : Int) w (by decide)
  have G5 := fun w => mwith_any q 0 (i : Int) false w (by decide)
  have G6 := fun w => byte_any 0 (i : Int) w (by decide)
  rw [F.fw, F.err] at G1
  rw [F.eq, F.err] at G2
  rw [F.fx, F.errj] at G3
  rw [F.fy, F.errj] at G4
  rw [F.back, F.err] at G5
  rw [F.at_is, F.err] at G6
  have hlt := F.at_lt
  have hsame := F.same
  have hby := F.byte
  have hdB : ((i : Int) == (j : Int)) = d := by rcases F.fd with ⟨rfl, e⟩ | ⟨rfl, e⟩ <;> simp [e]
  obtain ⟨bq, hbq⟩ : ∃ z : Int, Hid (((q.l.getD at' 0).toNat : Int) = z) := ⟨_, rfl⟩
  obtain ⟨bp, hbp⟩ : ∃ z : Int, Hid (((p.l.getD at' 0).toNat : Int) = z) := ⟨_, rfl⟩
  rw [hbq.out, hbp.out] at hby
  have hi := F.hi
  have hj := F.hj
  have H1 : Hid _ := G1
  have H2 : Hid _ := G2
  have H3 : Hid _ := G3
  have H4 : Hid _ := G4
  have H5 : Hid _ := G5
  have H6 : Hid _ := G6
  have HA1 : Hid _ := A1
  have HA2 : Hid _ := A2
  clear G1 G2 G3 G4 G5 G6 A1 A2 F hai hcj
  have qP : ∀ w, (Op.equalIn 10000 23 (.agg p.cs.toArray) (.agg p.cs.toArray)).run Try.prog w = .ok true w := fun w => by rw [eqL]; simp
  have qQ : ∀ w, (Op.equalIn 10000 23 (.agg q.cs.toArray) (.agg p.cs.toArray)).run Try.prog w = .ok false w := fun w => by rw [eqL, hsame]
  have gL := guardL
  clear hsame
  have t1 : True := trivial
  have t2 : True := trivial
  have t3 : True := trivial
  go_enter Try.func5, Try.ntmps5
  go_wp2_with (first
    | (refine at_box 23 54 arrL (by rfl) _ (by rfl) p.l (by rfl) hp ?_; intro g0 u0 a0 z0 r0 b0)
    | (go_at_call 18; refine (works_any _).mono ?_; rintro e u1 ⟨rfl, b1⟩; have rp1 := r0.later b1; have B1 := bnext b0 b1 (Nat.le_refl _); clear r0 b0 b1)
    | (have _t := t1; go_at_call 25; refine (HA1.out _).mono ?_; rintro e w' ⟨rfl, rfl⟩; clear _t t1)
    | (go_at_call 25; refine (HA2.out _).mono ?_; rintro e w' ⟨rfl, rfl⟩)
    | (refine at_getL (by rfl) _ (by rfl) g0 (by rfl) p rp5 ?_)
    | (refine at_getL (by rfl) _ (by rfl) g0 (by rfl) p rp2 ?_)
    | (refine at_getL (by rfl) _ (by rfl) g0 (by rfl) p rp1 ?_)
    | (refine at_getL (by rfl) _ (by rfl) gq (by rfl) q rq7 ?_)
    | (refine at_getL (by rfl) _ (by rfl) gq (by rfl) q rq6 ?_)
    | (have _t := t2; go_at_call 10; refine (H1.out _).mono ?_; rintro e u2 ⟨rfl, b2⟩; clear _t t2; have rp2 := rp1.later b2; have B2 := bnext B1 b2 (Nat.le_refl _); clear rp1 B1 b2)
    | (have _t := t3; go_at_call 12; refine (H2.out _).mono ?_; rintro e u3 ⟨rfl, b3⟩; clear _t)
    | (have _t := t3; refine at_new 23 54 arrL (by rfl) (by rfl) ?_; intro gq u4 a4 z4 r4 b4; clear _t)
    | (have _t := t3; refine at_put 23 54 arrL (by rfl) _ _ (by rfl) gq (by rfl) q.l (by rfl) hq _ r4 (by simp) ?_; intro u5 rq5 s5; clear _t t3
       have rp5 : Row u5 g0 p.l := ((rp2.later b3).later b4).step s5 (by have := rp2.lt; have := b3.size; omega)
       have S5 : Stp (fun x => w.heap.size ≤ x) w u5 := (Stp.of_below (bnext (bnext B2 b3 (Nat.le_refl _)) b4 (Nat.le_refl _)) (fun x => w.heap.size ≤ x)).next s5 (fun x hx => .inl (by subst hx; have := B2.size; have := b3.size; omega))
       clear rp2 B2 r4 b3 b4 s5 a4 z4
       have t4 : True := trivial)
    | (have _t := t4; go_at_call 10; refine (H3.out _).mono ?_; rintro e u6 ⟨rfl, b6⟩; clear _t t4; have rp6 := rp5.later b6; have rq6 := rq5.later b6; have S6 := S5.next (Stp.of_below b6 (fun _ => False)) (fun _ h => h.elim); clear rp5 rq5 S5 b6)
    | (go_at_call 10; refine (H4.out _).mono ?_; rintro e u7 ⟨rfl, b7⟩; have rp7 := rp6.later b7; have rq7 := rq6.later b7; have S7 := S6.next (Stp.of_below b7 (fun _ => False)) (fun _ h => h.elim); clear rp6 rq6 S6 b7)
    | (go_at_call 12; refine (H5.out _).mono ?_; rintro e u8 ⟨rfl, b8⟩)
    | (refine at_new 23 54 arrL (by rfl) (by rfl) ?_; intro gr u9 a9 z9 r9 b9)
    | (refine at_put 23 54 arrL (by rfl) _ _ (by rfl) gr (by rfl) p.l (by rfl) hp _ r9 (by simp) ?_; intro u10 rr10 s10
       have rp10 : Row u10 g0 p.l := ((rp7.later b8).later b9).step s10 (by have := rp7.lt; have := b8.size; omega)
       have rq10 : Row u10 gq q.l := ((rq7.later b8).later b9).step s10 (by have := rq7.lt; have := b8.size; omega)
       have S10 := (S7.next (Stp.of_below (bnext b8 b9 (Nat.le_refl _)) (fun _ => False)) (fun _ h => h.elim)).next s10 (fun x hx => .inl (by subst hx; have := S7.size; have := b8.size; omega))
       clear rp7 rq7 S7 r9 b8 b9 s10 a9 z9)
    | (go_at_call 14; refine (H6.out _).mono ?_; rintro e W ⟨rfl, b11⟩
       have rp := rp10.later b11
       have rq := rq10.later b11
       have rr := rr10.later b11
       have S := S10.next (Stp.of_below b11 (fun _ => False)) (fun _ h => h.elim)
       clear rp10 rq10 rr10 S10 b11))
  clear H1 H2 H3 H4 H5 H6 HA1 HA2
  refine wp_region_held_drew (S := fun u => Below W.heap.size W u) (by kernel_rfl) (Below.refl _ _).drew (fun hHeld => ?_)
  refine wpAnyH_take (i := 0) (oi := { dst := some 74, op := Op.move (Operand.tmp 14), type := 24, pos := _, after := #[], guard := none }) (v := .int .i64 0) rfl (by kernel_rfl) (by kernel_rfl) (by kernel_rfl) (fun _ _ _ h => h) (Or.inl ⟨by rfl, ?_⟩) hHeld ?_
  · intro u hu
    go_simp
  try simp only [Act.put, List.setIfInBounds_toArray, List.set_cons_zero, List.set_cons_succ]
  refine wpAnyH_take (i := 1) (oi := { dst := some 75, op := Op.binOp BinOp.eql 24 (Operand.tmp 74) (Operand.const (Value.int IntKind.i64 0)) 24, type := 4, pos := _, after := #[{ on := 0, ground := Ground.data }], guard := none }) (v := .bool true) rfl (by kernel_rfl) (by kernel_rfl) (by kernel_rfl) (fun _ _ _ h => h) (Or.inl ⟨by rfl, ?_⟩) hHeld ?_
  · intro u hu
    go_simp
  try simp only [Act.put, List.setIfInBounds_toArray, List.set_cons_zero, List.set_cons_succ]
  refine wpAnyH_take (i := 2) (oi := { dst := some 76, op := Op.move (Operand.tmp 75), type := 4, pos := _, after := #[{ on := 1, ground := Ground.data }], guard := none }) (v := .bool true) rfl (by kernel_rfl) (by kernel_rfl) (by kernel_rfl) (fun _ _ _ h => h) (Or.inl ⟨by rfl, ?_⟩) hHeld ?_
  · intro u hu
    go_simp
  try simp only [Act.put, List.setIfInBounds_toArray, List.set_cons_zero, List.set_cons_succ]
  refine wpAnyH_take (i := 3) (oi := { dst := some 77, op := Op.move (Operand.tmp 20), type := 24, pos := _, after := #[{ on := 2, ground := Ground.guard }], guard := some (2, true) }) (v := .int .i64 0) rfl (by kernel_rfl) (by kernel_rfl) (by kernel_rfl) (fun _ _ _ h => h) (Or.inl ⟨by rfl, ?_⟩) hHeld ?_
  · intro u hu
    go_simp
  try simp only [Act.put, List.setIfInBounds_toArray, List.set_cons_zero, List.set_cons_succ]
  refine wpAnyH_take (i := 4) (oi := { dst := some 78, op := Op.binOp BinOp.eql 24 (Operand.tmp 77) (Operand.const (Value.int IntKind.i64 0)) 24, type := 4, pos := _, after := #[{ on := 3, ground := Ground.data }, { on := 2, ground := Ground.guard }], guard := some (2, true) }) (v := .bool true) rfl (by kernel_rfl) (by kernel_rfl) (by kernel_rfl) (fun _ _ _ h => h) (Or.inl ⟨by rfl, ?_⟩) hHeld ?_
  · intro u hu
    go_simp
  try simp only [Act.put, List.setIfInBounds_toArray, List.set_cons_zero, List.set_cons_succ]
  refine wpAnyH_take (i := 5) (oi := { dst := some 79, op := Op.pick (Operand.tmp 76) (Operand.tmp 78) (Operand.const (Value.bool false)), type := 4, pos := _, after := #[{ on := 2, ground := Ground.data }, { on := 4, ground := Ground.data }], guard := none }) (v := .bool true) rfl (by kernel_rfl) (by kernel_rfl) (by kernel_rfl) (fun _ _ _ h => h) (Or.inl ⟨by rfl, ?_⟩) hHeld ?_
  · intro u hu
    go_simp
  try simp only [Act.put, List.setIfInBounds_toArray, List.set_cons_zero, List.set_cons_succ]
  refine wpAnyH_take (i := 6) (oi := { dst := some 80, op := Op.move (Operand.tmp 79), type := 4, pos := _, after := #[{ on := 5, ground := Ground.data }, { on := 2, ground := Ground.chain }], guard := none }) (v := .bool true) rfl (by kernel_rfl) (by kernel_rfl) (by kernel_rfl) (fun _ _ _ h => h) (Or.inl ⟨by rfl, ?_⟩) hHeld ?_
  · intro u hu
    go_simp
  try simp only [Act.put, List.setIfInBounds_toArray, List.set_cons_zero, List.set_cons_succ]
  refine wpAnyH_take (i := 7) (oi := { dst := some 81, op := Op.load 23 (Operand.tmp 19), type := 23, pos := _, after := #[{ on := 6, ground := Ground.guard }], guard := some (6, true) }) (v := .agg p.cs.toArray) rfl (by kernel_rfl) (by kernel_rfl) (by kernel_rfl) (fun _ _ _ h => h)
    (yields_row 23 54 arrL (by rfl) (.tmp 19) rfl gr (by rfl) p.l hp (fun u hu => rr.later hu)) hHeld ?_
  try simp only [Act.put, List.setIfInBounds_toArray, List.set_cons_zero, List.set_cons_succ]
  refine wpAnyH_take (i := 8) (oi := { dst := some 82, op := Op.load 23 (Operand.tmp 4), type := 23, pos := _, after := #[{ on := 6, ground := Ground.guard }], guard := some (6, true) }) (v := .agg p.cs.toArray) rfl (by kernel_rfl) (by kernel_rfl) (by kernel_rfl) (fun _ _ _ h => h)
    (yields_row 23 54 arrL (by rfl) (.tmp 4) rfl g0 (by rfl) p.l hp (fun u hu => rp.later hu)) hHeld ?_
  try simp only [Act.put, List.setIfInBounds_toArray, List.set_cons_zero, List.set_cons_succ]
  refine wpAnyH_take (i := 9) (oi := { dst := some 83, op := Op.binOp BinOp.eql 23 (Operand.tmp 81) (Operand.tmp 82) 23, type := 4, pos := _, after := #[{ on := 7, ground := Ground.data }, { on := 8, ground := Ground.data }, { on := 6, ground := Ground.guard }], guard := some (6, true) }) (v := .bool true) rfl (by kernel_rfl) (by kernel_rfl) (by kernel_rfl) (fun _ _ _ h => h) (Or.inl ⟨by rfl, ?_⟩) hHeld ?_
  · intro u hu
    go_simp
  try simp only [Act.put, List.setIfInBounds_toArray, List.set_cons_zero, List.set_cons_succ]
  refine wpAnyH_take (i := 10) (oi := { dst := some 84, op := Op.pick (Operand.tmp 80) (Operand.tmp 83) (Operand.const (Value.bool false)), type := 4, pos := _, after := #[{ on := 6, ground := Ground.data }, { on := 9, ground := Ground.data }], guard := none }) (v := .bool true) rfl (by kernel_rfl) (by kernel_rfl) (by kernel_rfl) (fun _ _ _ h => h) (Or.inl ⟨by rfl, ?_⟩) hHeld ?_
  · intro u hu
    go_simp
  try simp only [Act.put, List.setIfInBounds_toArray, List.set_cons_zero, List.set_cons_succ]
  refine wpAnyH_take (i := 11) (oi := { dst := some 85, op := Op.move (Operand.tmp 84), type := 4, pos := _, after := #[{ on := 10, ground := Ground.data }, { on := 6, ground := Ground.chain }], guard := none }) (v := .bool true) rfl (by kernel_rfl) (by kernel_rfl) (by kernel_rfl) (fun _ _ _ h => h) (Or.inl ⟨by rfl, ?_⟩) hHeld ?_
  · intro u hu
    go_simp
  try simp only [Act.put, List.setIfInBounds_toArray, List.set_cons_zero, List.set_cons_succ]
  refine wpAnyH_take (i := 12) (oi := { dst := some 86, op := Op.move (Operand.tmp 17), type := 4, pos := _, after := #[{ on := 11, ground := Ground.guard }], guard := some (11, true) }) (v := .bool true) rfl (by kernel_rfl) (by kernel_rfl) (by kernel_rfl) (fun _ _ _ h => h) (Or.inl ⟨by rfl, ?_⟩) hHeld ?_
  · intro u hu
    go_simp
  try simp only [Act.put, List.setIfInBounds_toArray, List.set_cons_zero, List.set_cons_succ]
  refine wpAnyH_take (i := 13) (oi := { dst := some 87, op := Op.move (Operand.tmp 15), type := 4, pos := _, after := #[{ on := 11, ground := Ground.guard }], guard := some (11, true) }) (v := .bool true) rfl (by kernel_rfl) (by kernel_rfl) (by kernel_rfl) (fun _ _ _ h => h) (Or.inl ⟨by rfl, ?_⟩) hHeld ?_
  · intro u hu
    go_simp
  try simp only [Act.put, List.setIfInBounds_toArray, List.set_cons_zero, List.set_cons_succ]
  refine wpAnyH_take (i := 14) (oi := { dst := some 88, op := Op.move (Operand.tmp 87), type := 4, pos := _, after := #[{ on := 13, ground := Ground.data }, { on := 11, ground := Ground.chain }, { on := 11, ground := Ground.guard }], guard := some (11, true) }) (v := .bool true) rfl (by kernel_rfl) (by kernel_rfl) (by kernel_rfl) (fun _ _ _ h => h) (Or.inl ⟨by rfl, ?_⟩) hHeld ?_
  · intro u hu
    go_simp
  try simp only [Act.put, List.setIfInBounds_toArray, List.set_cons_zero, List.set_cons_succ]
  refine wpAnyH_take (i := 15) (oi := { dst := some 89, op := Op.move (Operand.tmp 2), type := 3, pos := _, after := #[{ on := 14, ground := Ground.guard }], guard := some (14, false) }) (v := undef) rfl (by kernel_rfl) (by kernel_rfl) (by kernel_rfl) (fun _ _ _ h => h)
    (Or.inr ⟨by rfl, rfl⟩) hHeld ?_
  try simp only [Act.put, List.setIfInBounds_toArray, List.set_cons_zero, List.set_cons_succ]
  refine wpAnyH_take (i := 16) (oi := { dst := some 90, op := Op.move (Operand.tmp 3), type := 3, pos := _, after := #[{ on := 14, ground := Ground.guard }], guard := some (14, false) }) (v := undef) rfl (by kernel_rfl) (by kernel_rfl) (by kernel_rfl) (fun _ _ _ h => h)
    (Or.inr ⟨by rfl, rfl⟩) hHeld ?_
  try simp only [Act.put, List.setIfInBounds_toArray, List.set_cons_zero, List.set_cons_succ]
  refine wpAnyH_take (i := 17) (oi := { dst := some 91, op := Op.binOp BinOp.eql 3 (Operand.tmp 89) (Operand.tmp 90) 3, type := 4, pos := _, after := #[{ on := 15, ground := Ground.data }, { on := 16, ground := Ground.data }, { on := 14, ground := Ground.guard }], guard := some (14, false) }) (v := undef) rfl (by kernel_rfl) (by kernel_rfl) (by kernel_rfl) (fun _ _ _ h => h)
    (Or.inr ⟨by rfl, rfl⟩) hHeld ?_
  try simp only [Act.put, List.setIfInBounds_toArray, List.set_cons_zero, List.set_cons_succ]
  refine wpAnyH_take (i := 18) (oi := { dst := some 92, op := Op.pick (Operand.tmp 88) (Operand.const (Value.bool true)) (Operand.tmp 91), type := 4, pos := _, after := #[{ on := 14, ground := Ground.data }, { on := 17, ground := Ground.data }, { on := 11, ground := Ground.guard }], guard := some (11, true) }) (v := .bool true) rfl (by kernel_rfl) (by kernel_rfl) (by kernel_rfl) (fun _ _ _ h => h) (Or.inl ⟨by rfl, ?_⟩) hHeld ?_
  · intro u hu
    go_simp
  try simp only [Act.put, List.setIfInBounds_toArray, List.set_cons_zero, List.set_cons_succ]
  refine wpAnyH_take (i := 19) (oi := { dst := some 93, op := Op.binOp BinOp.eql 4 (Operand.tmp 86) (Operand.tmp 92) 4, type := 4, pos := _, after := #[{ on := 12, ground := Ground.data }, { on := 18, ground := Ground.data }, { on := 11, ground := Ground.guard }], guard := some (11, true) }) (v := .bool true) rfl (by kernel_rfl) (by kernel_rfl) (by kernel_rfl) (fun _ _ _ h => h) (Or.inl ⟨by rfl, ?_⟩) hHeld ?_
  · intro u hu
    go_simp
  try simp only [Act.put, List.setIfInBounds_toArray, List.set_cons_zero, List.set_cons_succ]
  refine wpAnyH_take (i := 20) (oi := { dst := some 94, op := Op.pick (Operand.tmp 85) (Operand.tmp 93) (Operand.const (Value.bool false)), type := 4, pos := _, after := #[{ on := 11, ground := Ground.data }, { on := 19, ground := Ground.data }], guard := none }) (v := .bool true) rfl (by kernel_rfl) (by kernel_rfl) (by kernel_rfl) (fun _ _ _ h => h) (Or.inl ⟨by rfl, ?_⟩) hHeld ?_
  · intro u hu
    go_simp
  try simp only [Act.put, List.setIfInBounds_toArray, List.set_cons_zero, List.set_cons_succ]
  refine wpAnyH_take (i := 21) (oi := { dst := some 95, op := Op.move (Operand.tmp 94), type := 4, pos := _, after := #[{ on := 20, ground := Ground.data }, { on := 14, ground := Ground.chain }], guard := none }) (v := .bool true) rfl (by kernel_rfl) (by kernel_rfl) (by kernel_rfl) (fun _ _ _ h => h) (Or.inl ⟨by rfl, ?_⟩) hHeld ?_
  · intro u hu
    go_simp
  try simp only [Act.put, List.setIfInBounds_toArray, List.set_cons_zero, List.set_cons_succ]
  refine wpAnyH_take (i := 22) (oi := { dst := some 96, op := Op.load 23 (Operand.tmp 13), type := 23, pos := _, after := #[{ on := 21, ground := Ground.guard }], guard := some (21, true) }) (v := .agg q.cs.toArray) rfl (by kernel_rfl) (by kernel_rfl) (by kernel_rfl) (fun _ _ _ h => h)
    (yields_row 23 54 arrL (by rfl) (.tmp 13) rfl gq (by rfl) q.l hq (fun u hu => rq.later hu)) hHeld ?_
  try simp only [Act.put, List.setIfInBounds_toArray, List.set_cons_zero, List.set_cons_succ]
  refine wpAnyH_take (i := 23) (oi := { dst := some 97, op := Op.load 23 (Operand.tmp 4), type := 23, pos := _, after := #[{ on := 21, ground := Ground.guard }], guard := some (21, true) }) (v := .agg p.cs.toArray) rfl (by kernel_rfl) (by kernel_rfl) (by kernel_rfl) (fun _ _ _ h => h)
    (yields_row 23 54 arrL (by rfl) (.tmp 4) rfl g0 (by rfl) p.l hp (fun u hu => rp.later hu)) hHeld ?_
  try simp only [Act.put, List.setIfInBounds_toArray, List.set_cons_zero, List.set_cons_succ]
  refine wpAnyH_take (i := 24) (oi := { dst := some 98, op := Op.binOp BinOp.eql 23 (Operand.tmp 96) (Operand.tmp 97) 23, type := 4, pos := _, after := #[{ on := 22, ground := Ground.data }, { on := 23, ground := Ground.data }, { on := 21, ground := Ground.guard }], guard := some (21, true) }) (v := .bool false) rfl (by kernel_rfl) (by kernel_rfl) (by kernel_rfl) (fun _ _ _ h => h) (Or.inl ⟨by rfl, ?_⟩) hHeld ?_
  · intro u hu
    go_simp
  try simp only [Act.put, List.setIfInBounds_toArray, List.set_cons_zero, List.set_cons_succ]
  refine wpAnyH_take (i := 25) (oi := { dst := some 99, op := Op.move (Operand.tmp 11), type := 4, pos := _, after := #[{ on := 21, ground := Ground.guard }], guard := some (21, true) }) (v := .bool false) rfl (by kernel_rfl) (by kernel_rfl) (by kernel_rfl) (fun _ _ _ h => h) (Or.inl ⟨by rfl, ?_⟩) hHeld ?_
  · intro u hu
    go_simp
  try simp only [Act.put, List.setIfInBounds_toArray, List.set_cons_zero, List.set_cons_succ]
  refine wpAnyH_take (i := 26) (oi := { dst := some 100, op := Op.binOp BinOp.eql 4 (Operand.tmp 98) (Operand.tmp 99) 4, type := 4, pos := _, after := #[{ on := 24, ground := Ground.data }, { on := 25, ground := Ground.data }, { on := 21, ground := Ground.guard }], guard := some (21, true) }) (v := .bool true) rfl (by kernel_rfl) (by kernel_rfl) (by kernel_rfl) (fun _ _ _ h => h) (Or.inl ⟨by rfl, ?_⟩) hHeld ?_
  · intro u hu
    go_simp
  try simp only [Act.put, List.setIfInBounds_toArray, List.set_cons_zero, List.set_cons_succ]
  refine wpAnyH_take (i := 27) (oi := { dst := some 101, op := Op.pick (Operand.tmp 95) (Operand.tmp 100) (Operand.const (Value.bool false)), type := 4, pos := _, after := #[{ on := 21, ground := Ground.data }, { on := 26, ground := Ground.data }], guard := none }) (v := .bool true) rfl (by kernel_rfl) (by kernel_rfl) (by kernel_rfl) (fun _ _ _ h => h) (Or.inl ⟨by rfl, ?_⟩) hHeld ?_
  · intro u hu
    go_simp
  try simp only [Act.put, List.setIfInBounds_toArray, List.set_cons_zero, List.set_cons_succ]
  refine wpAnyH_take (i := 28) (oi := { dst := some 102, op := Op.move (Operand.tmp 101), type := 4, pos := _, after := #[{ on := 27, ground := Ground.data }, { on := 21, ground := Ground.chain }], guard := none }) (v := .bool true) rfl (by kernel_rfl) (by kernel_rfl) (by kernel_rfl) (fun _ _ _ h => h) (Or.inl ⟨by rfl, ?_⟩) hHeld ?_
  · intro u hu
    go_simp
  try simp only [Act.put, List.setIfInBounds_toArray, List.set_cons_zero, List.set_cons_succ]
  refine wpAnyH_take (i := 29) (oi := { dst := some 103, op := Op.move (Operand.tmp 11), type := 4, pos := _, after := #[{ on := 28, ground := Ground.guard }], guard := some (28, true) }) (v := .bool false) rfl (by kernel_rfl) (by kernel_rfl) (by kernel_rfl) (fun _ _ _ h => h) (Or.inl ⟨by rfl, ?_⟩) hHeld ?_
  · intro u hu
    go_simp
  try simp only [Act.put, List.setIfInBounds_toArray, List.set_cons_zero, List.set_cons_succ]
  refine wpAnyH_take (i := 30) (oi := { dst := some 104, op := Op.move (Operand.tmp 103), type := 4, pos := _, after := #[{ on := 29, ground := Ground.data }, { on := 28, ground := Ground.chain }, { on := 28, ground := Ground.guard }], guard := some (28, true) }) (v := .bool false) rfl (by kernel_rfl) (by kernel_rfl) (by kernel_rfl) (fun _ _ _ h => h) (Or.inl ⟨by rfl, ?_⟩) hHeld ?_
  · intro u hu
    go_simp
  try simp only [Act.put, List.setIfInBounds_toArray, List.set_cons_zero, List.set_cons_succ]
  refine wpAnyH_take (i := 31) (oi := { dst := some 105, op := Op.move (Operand.tmp 21), type := 3, pos := _, after := #[{ on := 30, ground := Ground.guard }], guard := some (30, false) }) (v := .int .i64 (at' : Int)) rfl (by kernel_rfl) (by kernel_rfl) (by kernel_rfl) (fun _ _ _ h => h) (Or.inl ⟨by rfl, ?_⟩) hHeld ?_
  · intro u hu
    go_simp
  try simp only [Act.put, List.setIfInBounds_toArray, List.set_cons_zero, List.set_cons_succ]
  refine wpAnyH_take (i := 32) (oi := { dst := some 106, op := Op.indexAddr 23 (Operand.tmp 13) (Operand.tmp 105), type := 0, pos := _, after := #[{ on := 31, ground := Ground.data }, { on := 30, ground := Ground.guard }], guard := some (30, false) }) (v := .pointer (some ⟨gq, at', none⟩)) rfl (by kernel_rfl) (by kernel_rfl) (by kernel_rfl) (fun _ _ _ h => h) (Or.inl ⟨by rfl, ?_⟩) hHeld ?_
  · intro u hu
    (have hl : (at' : Int) < 54 := by omega); go_simp
  try simp only [Act.put, List.setIfInBounds_toArray, List.set_cons_zero, List.set_cons_succ]
  refine wpAnyH_take (i := 33) (oi := { dst := some 107, op := Op.load 5 (Operand.tmp 106), type := 5, pos := _, after := #[{ on := 32, ground := Ground.data }, { on := 30, ground := Ground.guard }], guard := some (30, false) }) (v := .int .u8 bq) rfl (by kernel_rfl) (by kernel_rfl) (by kernel_rfl) (fun _ _ _ h => h) (Or.inl ⟨by rfl, ?_⟩) hHeld ?_
  · intro u hu
    (have cq := (rq.later hu).cell at' (by omega)); rw [hbq.out] at cq; go_simp
  try simp only [Act.put, List.setIfInBounds_toArray, List.set_cons_zero, List.set_cons_succ]
  refine wpAnyH_take (i := 34) (oi := { dst := some 108, op := Op.move (Operand.tmp 21), type := 3, pos := _, after := #[{ on := 30, ground := Ground.guard }], guard := some (30, false) }) (v := .int .i64 (at' : Int)) rfl (by kernel_rfl) (by kernel_rfl) (by kernel_rfl) (fun _ _ _ h => h) (Or.inl ⟨by rfl, ?_⟩) hHeld ?_
  · intro u hu
    go_simp
  try simp only [Act.put, List.setIfInBounds_toArray, List.set_cons_zero, List.set_cons_succ]
  refine wpAnyH_take (i := 35) (oi := { dst := some 109, op := Op.indexAddr 23 (Operand.tmp 4) (Operand.tmp 108), type := 0, pos := _, after := #[{ on := 34, ground := Ground.data }, { on := 30, ground := Ground.guard }], guard := some (30, false) }) (v := .pointer (some ⟨g0, at', none⟩)) rfl (by kernel_rfl) (by kernel_rfl) (by kernel_rfl) (fun _ _ _ h => h) (Or.inl ⟨by rfl, ?_⟩) hHeld ?_
  · intro u hu
    (have hl : (at' : Int) < 54 := by omega); go_simp
  try simp only [Act.put, List.setIfInBounds_toArray, List.set_cons_zero, List.set_cons_succ]
  refine wpAnyH_take (i := 36) (oi := { dst := some 110, op := Op.load 5 (Operand.tmp 109), type := 5, pos := _, after := #[{ on := 35, ground := Ground.data }, { on := 30, ground := Ground.guard }], guard := some (30, false) }) (v := .int .u8 bp) rfl (by kernel_rfl) (by kernel_rfl) (by kernel_rfl) (fun _ _ _ h => h) (Or.inl ⟨by rfl, ?_⟩) hHeld ?_
  · intro u hu
    (have cp := (rp.later hu).cell at' (by omega)); rw [hbp.out] at cp; go_simp
  try simp only [Act.put, List.setIfInBounds_toArray, List.set_cons_zero, List.set_cons_succ]
  refine wpAnyH_take (i := 37) (oi := { dst := some 111, op := Op.binOp BinOp.neq 5 (Operand.tmp 107) (Operand.tmp 110) 5, type := 4, pos := _, after := #[{ on := 33, ground := Ground.data }, { on := 36, ground := Ground.data }, { on := 30, ground := Ground.guard }], guard := some (30, false) }) (v := .bool true) rfl (by kernel_rfl) (by kernel_rfl) (by kernel_rfl) (fun _ _ _ h => h) (Or.inl ⟨by rfl, ?_⟩) hHeld ?_
  · intro u hu
    (have hne : ¬ bq = bp := hby.resolve_left (by decide)); go_simp
  try simp only [Act.put, List.setIfInBounds_toArray, List.set_cons_zero, List.set_cons_succ]
  refine wpAnyH_take (i := 38) (oi := { dst := some 112, op := Op.pick (Operand.tmp 104) (Operand.const (Value.bool true)) (Operand.tmp 111), type := 4, pos := _, after := #[{ on := 30, ground := Ground.data }, { on := 37, ground := Ground.data }, { on := 28, ground := Ground.guard }], guard := some (28, true) }) (v := .bool true) rfl (by kernel_rfl) (by kernel_rfl) (by kernel_rfl) (fun _ _ _ h => h) (Or.inl ⟨by rfl, ?_⟩) hHeld ?_
  · intro u hu
    go_simp
  try simp only [Act.put, List.setIfInBounds_toArray, List.set_cons_zero, List.set_cons_succ]
  refine wpAnyH_take (i := 39) (oi := { dst := some 113, op := Op.pick (Operand.tmp 102) (Operand.tmp 112) (Operand.const (Value.bool false)), type := 4, pos := _, after := #[{ on := 28, ground := Ground.data }, { on := 38, ground := Ground.data }], guard := none }) (v := .bool true) rfl (by kernel_rfl) (by kernel_rfl) (by kernel_rfl) (fun _ _ _ h => h) (Or.inl ⟨by rfl, ?_⟩) hHeld ?_
  · intro u hu
    go_simp
  try simp only [Act.put, List.setIfInBounds_toArray, List.set_cons_zero, List.set_cons_succ]
  refine wpAnyH_take (i := 40) (oi := { dst := some 8, op := Op.assign (Operand.tmp 113), type := 4, pos := _, after := #[{ on := 39, ground := Ground.data }, { on := 30, ground := Ground.chain }, { on := 0, ground := Ground.phase }, { on := 1, ground := Ground.phase }, { on := 2, ground := Ground.phase }, { on := 3, ground := Ground.phase }, { on := 4, ground := Ground.phase }, { on := 5, ground := Ground.phase }, { on := 6, ground := Ground.phase }, { on := 7, ground := Ground.phase }, { on := 8, ground := Ground.phase }, { on := 9, ground := Ground.phase }, { on := 10, ground := Ground.phase }, { on := 11, ground := Ground.phase }, { on := 12, ground := Ground.phase }, { on := 13, ground := Ground.phase }, { on := 14, ground := Ground.phase }, { on := 15, ground := Ground.phase }, { on := 16, ground := Ground.phase }, { on := 17, ground := Ground.phase }, { on := 18, ground := Ground.phase }, { on := 19, ground := Ground.phase }, { on := 20, ground := Ground.phase }, { on := 21, ground := Ground.phase }, { on := 22, ground := Ground.phase }, { on := 23, ground := Ground.phase }, { on := 24, ground := Ground.phase }, { on := 25, ground := Ground.phase }, { on := 26, ground := Ground.phase }, { on := 27, ground := Ground.phase }, { on := 28, ground := Ground.phase }, { on := 29, ground := Ground.phase }, { on := 30, ground := Ground.phase }, { on := 31, ground := Ground.phase }, { on := 32, ground := Ground.phase }, { on := 33, ground := Ground.phase }, { on := 34, ground := Ground.phase }, { on := 35, ground := Ground.phase }, { on := 36, ground := Ground.phase }, { on := 37, ground := Ground.phase }, { on := 38, ground := Ground.phase }, { on := 39, ground := Ground.phase }], guard := none }) (v := .bool true) rfl (by kernel_rfl) (by kernel_rfl) (by kernel_rfl) (fun _ _ _ h => h) (Or.inl ⟨by rfl, ?_⟩) hHeld ?_
  · intro u hu
    go_simp
  try simp only [Act.put, List.setIfInBounds_toArray, List.set_cons_zero, List.set_cons_succ]
  refine wpAnyH_done (by kernel_rfl) ?_ _
  go_wp2_with fail
  go_returns
  exact ⟨rfl, (S.next (Stp.of_below hHeld (fun _ => False)) (fun _ h => h.elim)).below (Nat.le_refl _) (fun _ h => h)⟩
set_option maxRecDepth 100000 in
set_option maxHeartbeats 8000000 in
theorem walk_d_ft (p q : Ld) (a c : Int) (i j : Nat) (y d : Bool) (at' : Nat) (w : World) (hai : among a 128 = i) (hcj : among c 128 = j) (F : Facts p q 0 i j true false y d at') :
    Calls Try.prog 5 #[.agg p.cs.toArray, .bool false, .int .i64 a, .int .i64 c] w fun e w' => e = .returned (.bool true) ∧ Below w.heap.size w w' := by
  have hp := p.len
  have hq := q.len
  obtain rfl : y = d := F.fo
  have A1 := among_128 a
  have A2 := among_128 c
  rw [hai] at A1
  rw [hcj] at A2
  have G1 := fun w => taken_any p 0 (i : Int) w (by decide)
  have G2 := fun w => mwith_any p 0 (i : Int) true w (by decide)
  have G3 := fun w => taken_any p 0 (j : Int) w (by decide)
  have G4 := fun w => taken_any q 0 (j : Int) w (by decide)
  have G5 := fun w => mwith_any q 0 (i : Int) true w (by decide)
  have G6 := fun w => byte_any 0 (i : Int) w (by decide)
  rw [F.fw, F.err] at G1
  rw [F.eq, F.err] at G2
  rw [F.fx, F.errj] at G3
  rw [F.fy, F.errj] at G4
  rw [F.back, F.err] at G5
  rw [F.at_is, F.err] at G6
  have hlt := F.at_lt
  have hsame := F.same
  have hby := F.byte
  have hdB : ((i : Int) == (j : Int)) = y := by rcases F.fd with ⟨rfl, e⟩ | ⟨rfl, e⟩ <;> simp [e]
  obtain ⟨bq, hbq⟩ : ∃ z : Int, Hid (((q.l.getD at' 0).toNat : Int) = z) := ⟨_, rfl⟩
  obtain ⟨bp, hbp⟩ : ∃ z : Int, Hid (((p.l.getD at' 0).toNat : Int) = z) := ⟨_, rfl⟩
  rw [hbq.out, hbp.out] at hby
  have hi := F.hi
  have hj := F.hj
  have H1 : Hid _ := G1
  have H2 : Hid _ := G2
  have H3 : Hid _ := G3
  have H4 : Hid _ := G4
  have H5 : Hid _ := G5
  have H6 : Hid _ := G6
  have HA1 : Hid _ := A1
  have HA2 : Hid _ := A2
  clear G1 G2 G3 G4 G5 G6 A1 A2 F hai hcj
  have qP : ∀ w, (Op.equalIn 10000 23 (.agg p.cs.toArray) (.agg p.cs.toArray)).run Try.prog w = .ok true w := fun w => by rw [eqL]; simp
  have qQ : ∀ w, (Op.equalIn 10000 23 (.agg q.cs.toArray) (.agg p.cs.toArray)).run Try.prog w = .ok true w := fun w => by rw [eqL, hsame]
  have gL := guardL
  clear hsame
  have t1 : True := trivial
  have t2 : True := trivial
  have t3 : True := trivial
  go_enter Try.func5, Try.ntmps5
  go_wp2_with (first
    | (refine at_box 23 54 arrL (by rfl) _ (by rfl) p.l (by rfl) hp ?_; intro g0 u0 a0 z0 r0 b0)
    | (go_at_call 18; refine (works_any _).mono ?_; rintro e u1 ⟨rfl, b1⟩; have rp1 := r0.later b1; have B1 := bnext b0 b1 (Nat.le_refl _); clear r0 b0 b1)
    | (have _t := t1; go_at_call 25; refine (HA1.out _).mono ?_; rintro e w' ⟨rfl, rfl⟩; clear _t t1)
    | (go_at_call 25; refine (HA2.out _).mono ?_; rintro e w' ⟨rfl, rfl⟩)
    | (refine at_getL (by rfl) _ (by rfl) g0 (by rfl) p rp5 ?_)
    | (refine at_getL (by rfl) _ (by rfl) g0 (by rfl) p rp2 ?_)
    | (refine at_getL (by rfl) _ (by rfl) g0 (by rfl) p rp1 ?_)
    | (refine at_getL (by rfl) _ (by rfl) gq (by rfl) q rq7 ?_)
    | (refine at_getL (by rfl) _ (by rfl) gq (by rfl) q rq6 ?_)
    | (have _t := t2; go_at_call 10; refine (H1.out _).mono ?_; rintro e u2 ⟨rfl, b2⟩; clear _t t2; have rp2 := rp1.later b2; have B2 := bnext B1 b2 (Nat.le_refl _); clear rp1 B1 b2)
    | (have _t := t3; go_at_call 12; refine (H2.out _).mono ?_; rintro e u3 ⟨rfl, b3⟩; clear _t)
    | (have _t := t3; refine at_new 23 54 arrL (by rfl) (by rfl) ?_; intro gq u4 a4 z4 r4 b4; clear _t)
    | (have _t := t3; refine at_put 23 54 arrL (by rfl) _ _ (by rfl) gq (by rfl) q.l (by rfl) hq _ r4 (by simp) ?_; intro u5 rq5 s5; clear _t t3
       have rp5 : Row u5 g0 p.l := ((rp2.later b3).later b4).step s5 (by have := rp2.lt; have := b3.size; omega)
       have S5 : Stp (fun x => w.heap.size ≤ x) w u5 := (Stp.of_below (bnext (bnext B2 b3 (Nat.le_refl _)) b4 (Nat.le_refl _)) (fun x => w.heap.size ≤ x)).next s5 (fun x hx => .inl (by subst hx; have := B2.size; have := b3.size; omega))
       clear rp2 B2 r4 b3 b4 s5 a4 z4
       have t4 : True := trivial)
    | (have _t := t4; go_at_call 10; refine (H3.out _).mono ?_; rintro e u6 ⟨rfl, b6⟩; clear _t t4; have rp6 := rp5.later b6; have rq6 := rq5.later b6; have S6 := S5.next (Stp.of_below b6 (fun _ => False)) (fun _ h => h.elim); clear rp5 rq5 S5 b6)
    | (go_at_call 10; refine (H4.out _).mono ?_; rintro e u7 ⟨rfl, b7⟩; have rp7 := rp6.later b7; have rq7 := rq6.later b7; have S7 := S6.next (Stp.of_below b7 (fun _ => False)) (fun _ h => h.elim); clear rp6 rq6 S6 b7)
    | (go_at_call 12; refine (H5.out _).mono ?_; rintro e u8 ⟨rfl, b8⟩)
    | (refine at_new 23 54 arrL (by rfl) (by rfl) ?_; intro gr u9 a9 z9 r9 b9)
    | (refine at_put 23 54 arrL (by rfl) _ _ (by rfl) gr (by rfl) p.l (by rfl) hp _ r9 (by simp) ?_; intro u10 rr10 s10
       have rp10 : Row u10 g0 p.l := ((rp7.later b8).later b9).step s10 (by have := rp7.lt; have := b8.size; omega)
       have rq10 : Row u10 gq q.l := ((rq7.later b8).later b9).step s10 (by have := rq7.lt; have := b8.size; omega)
       have S10 := (S7.next (Stp.of_below (bnext b8 b9 (Nat.le_refl _)) (fun _ => False)) (fun _ h => h.elim)).next s10 (fun x hx => .inl (by subst hx; have := S7.size; have := b8.size; omega))
       clear rp7 rq7 S7 r9 b8 b9 s10 a9 z9)
    | (go_at_call 14; refine (H6.out _).mono ?_; rintro e W ⟨rfl, b11⟩
       have rp := rp10.later b11
       have rq := rq10.later b11
       have rr := rr10.later b11
       have S := S10.next (Stp.of_below b11 (fun _ => False)) (fun _ h => h.elim)
       clear rp10 rq10 rr10 S10 b11))
  clear H1 H2 H3 H4 H5 H6 HA1 HA2
  refine wp_region_held_drew (S := fun u => Below W.heap.size W u) (by kernel_rfl) (Below.refl _ _).drew (fun hHeld => ?_)
  refine wpAnyH_take (i := 0) (oi := { dst := some 74, op := Op.move (Operand.tmp 14), type := 24, pos := _, after := #[], guard := none }) (v := .int .i64 0) rfl (by kernel_rfl) (by kernel_rfl) (by kernel_rfl) (fun _ _ _ h => h) (Or.inl ⟨by rfl, ?_⟩) hHeld ?_
  · intro u hu
    go_simp
  try simp only [Act.put, List.setIfInBounds_toArray, List.set_cons_zero, List.set_cons_succ]
  refine wpAnyH_take (i := 1) (oi := { dst := some 75, op := Op.binOp BinOp.eql 24 (Operand.tmp 74) (Operand.const (Value.int IntKind.i64 0)) 24, type := 4, pos := _, after := #[{ on := 0, ground := Ground.data }], guard := none }) (v := .bool true) rfl (by kernel_rfl) (by kernel_rfl) (by kernel_rfl) (fun _ _ _ h => h) (Or.inl ⟨by rfl, ?_⟩) hHeld ?_
  · intro u hu
    go_simp
  try simp only [Act.put, List.setIfInBounds_toArray, List.set_cons_zero, List.set_cons_succ]
  refine wpAnyH_take (i := 2) (oi := { dst := some 76, op := Op.move (Operand.tmp 75), type := 4, pos := _, after := #[{ on := 1, ground := Ground.data }], guard := none }) (v := .bool true) rfl (by kernel_rfl) (by kernel_rfl) (by kernel_rfl) (fun _ _ _ h => h) (Or.inl ⟨by rfl, ?_⟩) hHeld ?_
  · intro u hu
    go_simp
  try simp only [Act.put, List.setIfInBounds_toArray, List.set_cons_zero, List.set_cons_succ]
  refine wpAnyH_take (i := 3) (oi := { dst := some 77, op := Op.move (Operand.tmp 20), type := 24, pos := _, after := #[{ on := 2, ground := Ground.guard }], guard := some (2, true) }) (v := .int .i64 0) rfl (by kernel_rfl) (by kernel_rfl) (by kernel_rfl) (fun _ _ _ h => h) (Or.inl ⟨by rfl, ?_⟩) hHeld ?_
  · intro u hu
    go_simp
  try simp only [Act.put, List.setIfInBounds_toArray, List.set_cons_zero, List.set_cons_succ]
  refine wpAnyH_take (i := 4) (oi := { dst := some 78, op := Op.binOp BinOp.eql 24 (Operand.tmp 77) (Operand.const (Value.int IntKind.i64 0)) 24, type := 4, pos := _, after := #[{ on := 3, ground := Ground.data }, { on := 2, ground := Ground.guard }], guard := some (2, true) }) (v := .bool true) rfl (by kernel_rfl) (by kernel_rfl) (by kernel_rfl) (fun _ _ _ h => h) (Or.inl ⟨by rfl, ?_⟩) hHeld ?_
  · intro u hu
    go_simp
  try simp only [Act.put, List.setIfInBounds_toArray, List.set_cons_zero, List.set_cons_succ]
  refine wpAnyH_take (i := 5) (oi := { dst := some 79, op := Op.pick (Operand.tmp 76) (Operand.tmp 78) (Operand.const (Value.bool false)), type := 4, pos := _, after := #[{ on := 2, ground := Ground.data }, { on := 4, ground := Ground.data }], guard := none }) (v := .bool true) rfl (by kernel_rfl) (by kernel_rfl) (by kernel_rfl) (fun _ _ _ h => h) (Or.inl ⟨by rfl, ?_⟩) hHeld ?_
  · intro u hu
    go_simp
  try simp only [Act.put, List.setIfInBounds_toArray, List.set_cons_zero, List.set_cons_succ]
  refine wpAnyH_take (i := 6) (oi := { dst := some 80, op := Op.move (Operand.tmp 79), type := 4, pos := _, after := #[{ on := 5, ground := Ground.data }, { on := 2, ground := Ground.chain }], guard := none }) (v := .bool true) rfl (by kernel_rfl) (by kernel_rfl) (by kernel_rfl) (fun _ _ _ h => h) (Or.inl ⟨by rfl, ?_⟩) hHeld ?_
  · intro u hu
    go_simp
  try simp only [Act.put, List.setIfInBounds_toArray, List.set_cons_zero, List.set_cons_succ]
  refine wpAnyH_take (i := 7) (oi := { dst := some 81, op := Op.load 23 (Operand.tmp 19), type := 23, pos := _, after := #[{ on := 6, ground := Ground.guard }], guard := some (6, true) }) (v := .agg p.cs.toArray) rfl (by kernel_rfl) (by kernel_rfl) (by kernel_rfl) (fun _ _ _ h => h)
    (yields_row 23 54 arrL (by rfl) (.tmp 19) rfl gr (by rfl) p.l hp (fun u hu => rr.later hu)) hHeld ?_
  try simp only [Act.put, List.setIfInBounds_toArray, List.set_cons_zero, List.set_cons_succ]
  refine wpAnyH_take (i := 8) (oi := { dst := some 82, op := Op.load 23 (Operand.tmp 4), type := 23, pos := _, after := #[{ on := 6, ground := Ground.guard }], guard := some (6, true) }) (v := .agg p.cs.toArray) rfl (by kernel_rfl) (by kernel_rfl) (by kernel_rfl) (fun _ _ _ h => h)
    (yields_row 23 54 arrL (by rfl) (.tmp 4) rfl g0 (by rfl) p.l hp (fun u hu => rp.later hu)) hHeld ?_
  try simp only [Act.put, List.setIfInBounds_toArray, List.set_cons_zero, List.set_cons_succ]
  refine wpAnyH_take (i := 9) (oi := { dst := some 83, op := Op.binOp BinOp.eql 23 (Operand.tmp 81) (Operand.tmp 82) 23, type := 4, pos := _, after := #[{ on := 7, ground := Ground.data }, { on := 8, ground := Ground.data }, { on := 6, ground := Ground.guard }], guard := some (6, true) }) (v := .bool true) rfl (by kernel_rfl) (by kernel_rfl) (by kernel_rfl) (fun _ _ _ h => h) (Or.inl ⟨by rfl, ?_⟩) hHeld ?_
  · intro u hu
    go_simp
  try simp only [Act.put, List.setIfInBounds_toArray, List.set_cons_zero, List.set_cons_succ]
  refine wpAnyH_take (i := 10) (oi := { dst := some 84, op := Op.pick (Operand.tmp 80) (Operand.tmp 83) (Operand.const (Value.bool false)), type := 4, pos := _, after := #[{ on := 6, ground := Ground.data }, { on := 9, ground := Ground.data }], guard := none }) (v := .bool true) rfl (by kernel_rfl) (by kernel_rfl) (by kernel_rfl) (fun _ _ _ h => h) (Or.inl ⟨by rfl, ?_⟩) hHeld ?_
  · intro u hu
    go_simp
  try simp only [Act.put, List.setIfInBounds_toArray, List.set_cons_zero, List.set_cons_succ]
  refine wpAnyH_take (i := 11) (oi := { dst := some 85, op := Op.move (Operand.tmp 84), type := 4, pos := _, after := #[{ on := 10, ground := Ground.data }, { on := 6, ground := Ground.chain }], guard := none }) (v := .bool true) rfl (by kernel_rfl) (by kernel_rfl) (by kernel_rfl) (fun _ _ _ h => h) (Or.inl ⟨by rfl, ?_⟩) hHeld ?_
  · intro u hu
    go_simp
  try simp only [Act.put, List.setIfInBounds_toArray, List.set_cons_zero, List.set_cons_succ]
  refine wpAnyH_take (i := 12) (oi := { dst := some 86, op := Op.move (Operand.tmp 17), type := 4, pos := _, after := #[{ on := 11, ground := Ground.guard }], guard := some (11, true) }) (v := .bool y) rfl (by kernel_rfl) (by kernel_rfl) (by kernel_rfl) (fun _ _ _ h => h) (Or.inl ⟨by rfl, ?_⟩) hHeld ?_
  · intro u hu
    go_simp
  try simp only [Act.put, List.setIfInBounds_toArray, List.set_cons_zero, List.set_cons_succ]
  refine wpAnyH_take (i := 13) (oi := { dst := some 87, op := Op.move (Operand.tmp 15), type := 4, pos := _, after := #[{ on := 11, ground := Ground.guard }], guard := some (11, true) }) (v := .bool false) rfl (by kernel_rfl) (by kernel_rfl) (by kernel_rfl) (fun _ _ _ h => h) (Or.inl ⟨by rfl, ?_⟩) hHeld ?_
  · intro u hu
    go_simp
  try simp only [Act.put, List.setIfInBounds_toArray, List.set_cons_zero, List.set_cons_succ]
  refine wpAnyH_take (i := 14) (oi := { dst := some 88, op := Op.move (Operand.tmp 87), type := 4, pos := _, after := #[{ on := 13, ground := Ground.data }, { on := 11, ground := Ground.chain }, { on := 11, ground := Ground.guard }], guard := some (11, true) }) (v := .bool false) rfl (by kernel_rfl) (by kernel_rfl) (by kernel_rfl) (fun _ _ _ h => h) (Or.inl ⟨by rfl, ?_⟩) hHeld ?_
  · intro u hu
    go_simp
  try simp only [Act.put, List.setIfInBounds_toArray, List.set_cons_zero, List.set_cons_succ]
  refine wpAnyH_take (i := 15) (oi := { dst := some 89, op := Op.move (Operand.tmp 2), type := 3, pos := _, after := #[{ on := 14, ground := Ground.guard }], guard := some (14, false) }) (v := .int .i64 (i : Int)) rfl (by kernel_rfl) (by kernel_rfl) (by kernel_rfl) (fun _ _ _ h => h) (Or.inl ⟨by rfl, ?_⟩) hHeld ?_
  · intro u hu
    go_simp
  try simp only [Act.put, List.setIfInBounds_toArray, List.set_cons_zero, List.set_cons_succ]
  refine wpAnyH_take (i := 16) (oi := { dst := some 90, op := Op.move (Operand.tmp 3), type := 3, pos := _, after := #[{ on := 14, ground := Ground.guard }], guard := some (14, false) }) (v := .int .i64 (j : Int)) rfl (by kernel_rfl) (by kernel_rfl) (by kernel_rfl) (fun _ _ _ h => h) (Or.inl ⟨by rfl, ?_⟩) hHeld ?_
  · intro u hu
    go_simp
  try simp only [Act.put, List.setIfInBounds_toArray, List.set_cons_zero, List.set_cons_succ]
  refine wpAnyH_take (i := 17) (oi := { dst := some 91, op := Op.binOp BinOp.eql 3 (Operand.tmp 89) (Operand.tmp 90) 3, type := 4, pos := _, after := #[{ on := 15, ground := Ground.data }, { on := 16, ground := Ground.data }, { on := 14, ground := Ground.guard }], guard := some (14, false) }) (v := .bool y) rfl (by kernel_rfl) (by kernel_rfl) (by kernel_rfl) (fun _ _ _ h => h) (Or.inl ⟨by rfl, ?_⟩) hHeld ?_
  · intro u hu
    (go_simp; try exact hdB)
  try simp only [Act.put, List.setIfInBounds_toArray, List.set_cons_zero, List.set_cons_succ]
  refine wpAnyH_take (i := 18) (oi := { dst := some 92, op := Op.pick (Operand.tmp 88) (Operand.const (Value.bool true)) (Operand.tmp 91), type := 4, pos := _, after := #[{ on := 14, ground := Ground.data }, { on := 17, ground := Ground.data }, { on := 11, ground := Ground.guard }], guard := some (11, true) }) (v := .bool y) rfl (by kernel_rfl) (by kernel_rfl) (by kernel_rfl) (fun _ _ _ h => h) (Or.inl ⟨by rfl, ?_⟩) hHeld ?_
  · intro u hu
    go_simp
  try simp only [Act.put, List.setIfInBounds_toArray, List.set_cons_zero, List.set_cons_succ]
  refine wpAnyH_take (i := 19) (oi := { dst := some 93, op := Op.binOp BinOp.eql 4 (Operand.tmp 86) (Operand.tmp 92) 4, type := 4, pos := _, after := #[{ on := 12, ground := Ground.data }, { on := 18, ground := Ground.data }, { on := 11, ground := Ground.guard }], guard := some (11, true) }) (v := .bool true) rfl (by kernel_rfl) (by kernel_rfl) (by kernel_rfl) (fun _ _ _ h => h) (Or.inl ⟨by rfl, ?_⟩) hHeld ?_
  · intro u hu
    go_simp
  try simp only [Act.put, List.setIfInBounds_toArray, List.set_cons_zero, List.set_cons_succ]
  refine wpAnyH_take (i := 20) (oi := { dst := some 94, op := Op.pick (Operand.tmp 85) (Operand.tmp 93) (Operand.const (Value.bool false)), type := 4, pos := _, after := #[{ on := 11, ground := Ground.data }, { on := 19, ground := Ground.data }], guard := none }) (v := .bool true) rfl (by kernel_rfl) (by kernel_rfl) (by kernel_rfl) (fun _ _ _ h => h) (Or.inl ⟨by rfl, ?_⟩) hHeld ?_
  · intro u hu
    go_simp
  try simp only [Act.put, List.setIfInBounds_toArray, List.set_cons_zero, List.set_cons_succ]
  refine wpAnyH_take (i := 21) (oi := { dst := some 95, op := Op.move (Operand.tmp 94), type := 4, pos := _, after := #[{ on := 20, ground := Ground.data }, { on := 14, ground := Ground.chain }], guard := none }) (v := .bool true) rfl (by kernel_rfl) (by kernel_rfl) (by kernel_rfl) (fun _ _ _ h => h) (Or.inl ⟨by rfl, ?_⟩) hHeld ?_
  · intro u hu
    go_simp
  try simp only [Act.put, List.setIfInBounds_toArray, List.set_cons_zero, List.set_cons_succ]
  refine wpAnyH_take (i := 22) (oi := { dst := some 96, op := Op.load 23 (Operand.tmp 13), type := 23, pos := _, after := #[{ on := 21, ground := Ground.guard }], guard := some (21, true) }) (v := .agg q.cs.toArray) rfl (by kernel_rfl) (by kernel_rfl) (by kernel_rfl) (fun _ _ _ h => h)
    (yields_row 23 54 arrL (by rfl) (.tmp 13) rfl gq (by rfl) q.l hq (fun u hu => rq.later hu)) hHeld ?_
  try simp only [Act.put, List.setIfInBounds_toArray, List.set_cons_zero, List.set_cons_succ]
  refine wpAnyH_take (i := 23) (oi := { dst := some 97, op := Op.load 23 (Operand.tmp 4), type := 23, pos := _, after := #[{ on := 21, ground := Ground.guard }], guard := some (21, true) }) (v := .agg p.cs.toArray) rfl (by kernel_rfl) (by kernel_rfl) (by kernel_rfl) (fun _ _ _ h => h)
    (yields_row 23 54 arrL (by rfl) (.tmp 4) rfl g0 (by rfl) p.l hp (fun u hu => rp.later hu)) hHeld ?_
  try simp only [Act.put, List.setIfInBounds_toArray, List.set_cons_zero, List.set_cons_succ]
  refine wpAnyH_take (i := 24) (oi := { dst := some 98, op := Op.binOp BinOp.eql 23 (Operand.tmp 96) (Operand.tmp 97) 23, type := 4, pos := _, after := #[{ on := 22, ground := Ground.data }, { on := 23, ground := Ground.data }, { on := 21, ground := Ground.guard }], guard := some (21, true) }) (v := .bool true) rfl (by kernel_rfl) (by kernel_rfl) (by kernel_rfl) (fun _ _ _ h => h) (Or.inl ⟨by rfl, ?_⟩) hHeld ?_
  · intro u hu
    go_simp
  try simp only [Act.put, List.setIfInBounds_toArray, List.set_cons_zero, List.set_cons_succ]
  refine wpAnyH_take (i := 25) (oi := { dst := some 99, op := Op.move (Operand.tmp 11), type := 4, pos := _, after := #[{ on := 21, ground := Ground.guard }], guard := some (21, true) }) (v := .bool true) rfl (by kernel_rfl) (by kernel_rfl) (by kernel_rfl) (fun _ _ _ h => h) (Or.inl ⟨by rfl, ?_⟩) hHeld ?_
  · intro u hu
    go_simp
  try simp only [Act.put, List.setIfInBounds_toArray, List.set_cons_zero, List.set_cons_succ]
  refine wpAnyH_take (i := 26) (oi := { dst := some 100, op := Op.binOp BinOp.eql 4 (Operand.tmp 98) (Operand.tmp 99) 4, type := 4, pos := _, after := #[{ on := 24, ground := Ground.data }, { on := 25, ground := Ground.data }, { on := 21, ground := Ground.guard }], guard := some (21, true) }) (v := .bool true) rfl (by kernel_rfl) (by kernel_rfl) (by kernel_rfl) (fun _ _ _ h => h) (Or.inl ⟨by rfl, ?_⟩) hHeld ?_
  · intro u hu
    go_simp
  try simp only [Act.put, List.setIfInBounds_toArray, List.set_cons_zero, List.set_cons_succ]
  refine wpAnyH_take (i := 27) (oi := { dst := some 101, op := Op.pick (Operand.tmp 95) (Operand.tmp 100) (Operand.const (Value.bool false)), type := 4, pos := _, after := #[{ on := 21, ground := Ground.data }, { on := 26, ground := Ground.data }], guard := none }) (v := .bool true) rfl (by kernel_rfl) (by kernel_rfl) (by kernel_rfl) (fun _ _ _ h => h) (Or.inl ⟨by rfl, ?_⟩) hHeld ?_
  · intro u hu
    go_simp
  try simp only [Act.put, List.setIfInBounds_toArray, List.set_cons_zero, List.set_cons_succ]
  refine wpAnyH_take (i := 28) (oi := { dst := some 102, op := Op.move (Operand.tmp 101), type := 4, pos := _, after := #[{ on := 27, ground := Ground.data }, { on := 21, ground := Ground.chain }], guard := none }) (v := .bool true) rfl (by kernel_rfl) (by kernel_rfl) (by kernel_rfl) (fun _ _ _ h => h) (Or.inl ⟨by rfl, ?_⟩) hHeld ?_
  · intro u hu
    go_simp
  try simp only [Act.put, List.setIfInBounds_toArray, List.set_cons_zero, List.set_cons_succ]
  refine wpAnyH_take (i := 29) (oi := { dst := some 103, op := Op.move (Operand.tmp 11), type := 4, pos := _, after := #[{ on := 28, ground := Ground.guard }], guard := some (28, true) }) (v := .bool true) rfl (by kernel_rfl) (by kernel_rfl) (by kernel_rfl) (fun _ _ _ h => h) (Or.inl ⟨by rfl, ?_⟩) hHeld ?_
  · intro u hu
    go_simp
  try simp only [Act.put, List.setIfInBounds_toArray, List.set_cons_zero, List.set_cons_succ]
  refine wpAnyH_take (i := 30) (oi := { dst := some 104, op := Op.move (Operand.tmp 103), type := 4, pos := _, after := #[{ on := 29, ground := Ground.data }, { on := 28, ground := Ground.chain }, { on := 28, ground := Ground.guard }], guard := some (28, true) }) (v := .bool true) rfl (by kernel_rfl) (by kernel_rfl) (by kernel_rfl) (fun _ _ _ h => h) (Or.inl ⟨by rfl, ?_⟩) hHeld ?_
  · intro u hu
    go_simp
  try simp only [Act.put, List.setIfInBounds_toArray, List.set_cons_zero, List.set_cons_succ]
  refine wpAnyH_take (i := 31) (oi := { dst := some 105, op := Op.move (Operand.tmp 21), type := 3, pos := _, after := #[{ on := 30, ground := Ground.guard }], guard := some (30, false) }) (v := undef) rfl (by kernel_rfl) (by kernel_rfl) (by kernel_rfl) (fun _ _ _ h => h)
    (Or.inr ⟨by rfl, rfl⟩) hHeld ?_
  try simp only [Act.put, List.setIfInBounds_toArray, List.set_cons_zero, List.set_cons_succ]
  refine wpAnyH_take (i := 32) (oi := { dst := some 106, op := Op.indexAddr 23 (Operand.tmp 13) (Operand.tmp 105), type := 0, pos := _, after := #[{ on := 31, ground := Ground.data }, { on := 30, ground := Ground.guard }], guard := some (30, false) }) (v := undef) rfl (by kernel_rfl) (by kernel_rfl) (by kernel_rfl) (fun _ _ _ h => h)
    (Or.inr ⟨by rfl, rfl⟩) hHeld ?_
  try simp only [Act.put, List.setIfInBounds_toArray, List.set_cons_zero, List.set_cons_succ]
  refine wpAnyH_take (i := 33) (oi := { dst := some 107, op := Op.load 5 (Operand.tmp 106), type := 5, pos := _, after := #[{ on := 32, ground := Ground.data }, { on := 30, ground := Ground.guard }], guard := some (30, false) }) (v := undef) rfl (by kernel_rfl) (by kernel_rfl) (by kernel_rfl) (fun _ _ _ h => h)
    (Or.inr ⟨by rfl, rfl⟩) hHeld ?_
  try simp only [Act.put, List.setIfInBounds_toArray, List.set_cons_zero, List.set_cons_succ]
  refine wpAnyH_take (i := 34) (oi := { dst := some 108, op := Op.move (Operand.tmp 21), type := 3, pos := _, after := #[{ on := 30, ground := Ground.guard }], guard := some (30, false) }) (v := undef) rfl (by kernel_rfl) (by kernel_rfl) (by kernel_rfl) (fun _ _ _ h => h)
    (Or.inr ⟨by rfl, rfl⟩) hHeld ?_
  try simp only [Act.put, List.setIfInBounds_toArray, List.set_cons_zero, List.set_cons_succ]
  refine wpAnyH_take (i := 35) (oi := { dst := some 109, op := Op.indexAddr 23 (Operand.tmp 4) (Operand.tmp 108), type := 0, pos := _, after := #[{ on := 34, ground := Ground.data }, { on := 30, ground := Ground.guard }], guard := some (30, false) }) (v := undef) rfl (by kernel_rfl) (by kernel_rfl) (by kernel_rfl) (fun _ _ _ h => h)
    (Or.inr ⟨by rfl, rfl⟩) hHeld ?_
  try simp only [Act.put, List.setIfInBounds_toArray, List.set_cons_zero, List.set_cons_succ]
  refine wpAnyH_take (i := 36) (oi := { dst := some 110, op := Op.load 5 (Operand.tmp 109), type := 5, pos := _, after := #[{ on := 35, ground := Ground.data }, { on := 30, ground := Ground.guard }], guard := some (30, false) }) (v := undef) rfl (by kernel_rfl) (by kernel_rfl) (by kernel_rfl) (fun _ _ _ h => h)
    (Or.inr ⟨by rfl, rfl⟩) hHeld ?_
  try simp only [Act.put, List.setIfInBounds_toArray, List.set_cons_zero, List.set_cons_succ]
  refine wpAnyH_take (i := 37) (oi := { dst := some 111, op := Op.binOp BinOp.neq 5 (Operand.tmp 107) (Operand.tmp 110) 5, type := 4, pos := _, after := #[{ on := 33, ground := Ground.data }, { on := 36, ground := Ground.data }, { on := 30, ground := Ground.guard }], guard := some (30, false) }) (v := undef) rfl (by kernel_rfl) (by kernel_rfl) (by kernel_rfl) (fun _ _ _ h => h)
    (Or.inr ⟨by rfl, rfl⟩) hHeld ?_
  try simp only [Act.put, List.setIfInBounds_toArray, List.set_cons_zero, List.set_cons_succ]
  refine wpAnyH_take (i := 38) (oi := { dst := some 112, op := Op.pick (Operand.tmp 104) (Operand.const (Value.bool true)) (Operand.tmp 111), type := 4, pos := _, after := #[{ on := 30, ground := Ground.data }, { on := 37, ground := Ground.data }, { on := 28, ground := Ground.guard }], guard := some (28, true) }) (v := .bool true) rfl (by kernel_rfl) (by kernel_rfl) (by kernel_rfl) (fun _ _ _ h => h) (Or.inl ⟨by rfl, ?_⟩) hHeld ?_
  · intro u hu
    go_simp
  try simp only [Act.put, List.setIfInBounds_toArray, List.set_cons_zero, List.set_cons_succ]
  refine wpAnyH_take (i := 39) (oi := { dst := some 113, op := Op.pick (Operand.tmp 102) (Operand.tmp 112) (Operand.const (Value.bool false)), type := 4, pos := _, after := #[{ on := 28, ground := Ground.data }, { on := 38, ground := Ground.data }], guard := none }) (v := .bool true) rfl (by kernel_rfl) (by kernel_rfl) (by kernel_rfl) (fun _ _ _ h => h) (Or.inl ⟨by rfl, ?_⟩) hHeld ?_
  · intro u hu
    go_simp
  try simp only [Act.put, List.setIfInBounds_toArray, List.set_cons_zero, List.set_cons_succ]
  refine wpAnyH_take (i := 40) (oi := { dst := some 8, op := Op.assign (Operand.tmp 113), type := 4, pos := _, after := #[{ on := 39, ground := Ground.data }, { on := 30, ground := Ground.chain }, { on := 0, ground := Ground.phase }, { on := 1, ground := Ground.phase }, { on := 2, ground := Ground.phase }, { on := 3, ground := Ground.phase }, { on := 4, ground := Ground.phase }, { on := 5, ground := Ground.phase }, { on := 6, ground := Ground.phase }, { on := 7, ground := Ground.phase }, { on := 8, ground := Ground.phase }, { on := 9, ground := Ground.phase }, { on := 10, ground := Ground.phase }, { on := 11, ground := Ground.phase }, { on := 12, ground := Ground.phase }, { on := 13, ground := Ground.phase }, { on := 14, ground := Ground.phase }, { on := 15, ground := Ground.phase }, { on := 16, ground := Ground.phase }, { on := 17, ground := Ground.phase }, { on := 18, ground := Ground.phase }, { on := 19, ground := Ground.phase }, { on := 20, ground := Ground.phase }, { on := 21, ground := Ground.phase }, { on := 22, ground := Ground.phase }, { on := 23, ground := Ground.phase }, { on := 24, ground := Ground.phase }, { on := 25, ground := Ground.phase }, { on := 26, ground := Ground.phase }, { on := 27, ground := Ground.phase }, { on := 28, ground := Ground.phase }, { on := 29, ground := Ground.phase }, { on := 30, ground := Ground.phase }, { on := 31, ground := Ground.phase }, { on := 32, ground := Ground.phase }, { on := 33, ground := Ground.phase }, { on := 34, ground := Ground.phase }, { on := 35, ground := Ground.phase }, { on := 36, ground := Ground.phase }, { on := 37, ground := Ground.phase }, { on := 38, ground := Ground.phase }, { on := 39, ground := Ground.phase }], guard := none }) (v := .bool true) rfl (by kernel_rfl) (by kernel_rfl) (by kernel_rfl) (fun _ _ _ h => h) (Or.inl ⟨by rfl, ?_⟩) hHeld ?_
  · intro u hu
    go_simp
  try simp only [Act.put, List.setIfInBounds_toArray, List.set_cons_zero, List.set_cons_succ]
  refine wpAnyH_done (by kernel_rfl) ?_ _
  go_wp2_with fail
  go_returns
  exact ⟨rfl, (S.next (Stp.of_below hHeld (fun _ => False)) (fun _ h => h.elim)).below (Nat.le_refl _) (fun _ h => h)⟩
set_option maxRecDepth 100000 in
set_option maxHeartbeats 8000000 in
theorem walk_d_ff (p q : Ld) (a c : Int) (i j : Nat) (y d : Bool) (at' : Nat) (w : World) (hai : among a 128 = i) (hcj : among c 128 = j) (F : Facts p q 0 i j false false y d at') :
    Calls Try.prog 5 #[.agg p.cs.toArray, .bool false, .int .i64 a, .int .i64 c] w fun e w' => e = .returned (.bool true) ∧ Below w.heap.size w w' := by
  have hp := p.len
  have hq := q.len
  obtain rfl : y = d := F.fo
  have A1 := among_128 a
  have A2 := among_128 c
  rw [hai] at A1
  rw [hcj] at A2
  have G1 := fun w => taken_any p 0 (i : Int) w (by decide)
  have G2 := fun w => mwith_any p 0 (i : Int) true w (by decide)
  have G3 := fun w => taken_any p 0 (j : Int) w (by decide)
  have G4 := fun w => taken_any q 0 (j : Int) w (by decide)
  have G5 := fun w => mwith_any q 0 (i : Int) false w (by decide)
  have G6 := fun w => byte_any 0 (i : Int) w (by decide)
  rw [F.fw, F.err] at G1
  rw [F.eq, F.err] at G2
  rw [F.fx, F.errj] at G3
  rw [F.fy, F.errj] at G4
  rw [F.back, F.err] at G5
  rw [F.at_is, F.err] at G6
  have hlt := F.at_lt
  have hsame := F.same
  have hby := F.byte
  have hdB : ((i : Int) == (j : Int)) = y := by rcases F.fd with ⟨rfl, e⟩ | ⟨rfl, e⟩ <;> simp [e]
  obtain ⟨bq, hbq⟩ : ∃ z : Int, Hid (((q.l.getD at' 0).toNat : Int) = z) := ⟨_, rfl⟩
  obtain ⟨bp, hbp⟩ : ∃ z : Int, Hid (((p.l.getD at' 0).toNat : Int) = z) := ⟨_, rfl⟩
  rw [hbq.out, hbp.out] at hby
  have hi := F.hi
  have hj := F.hj
  have H1 : Hid _ := G1
  have H2 : Hid _ := G2
  have H3 : Hid _ := G3
  have H4 : Hid _ := G4
  have H5 : Hid _ := G5
  have H6 : Hid _ := G6
  have HA1 : Hid _ := A1
  have HA2 : Hid _ := A2
  clear G1 G2 G3 G4 G5 G6 A1 A2 F hai hcj
  have qP : ∀ w, (Op.equalIn 10000 23 (.agg p.cs.toArray) (.agg p.cs.toArray)).run Try.prog w = .ok true w := fun w => by rw [eqL]; simp
  have qQ : ∀ w, (Op.equalIn 10000 23 (.agg q.cs.toArray) (.agg p.cs.toArray)).run Try.prog w = .ok false w := fun w => by rw [eqL, hsame]
  have gL := guardL
  clear hsame
  have t1 : True := trivial
  have t2 : True := trivial
  have t3 : True := trivial
  go_enter Try.func5, Try.ntmps5
  go_wp2_with (first
    | (refine at_box 23 54 arrL (by rfl) _ (by rfl) p.l (by rfl) hp ?_; intro g0 u0 a0 z0 r0 b0)
    | (go_at_call 18; refine (works_any _).mono ?_; rintro e u1 ⟨rfl, b1⟩; have rp1 := r0.later b1; have B1 := bnext b0 b1 (Nat.le_refl _); clear r0 b0 b1)
    | (have _t := t1; go_at_call 25; refine (HA1.out _).mono ?_; rintro e w' ⟨rfl, rfl⟩; clear _t t1)
    | (go_at_call 25; refine (HA2.out _).mono ?_; rintro e w' ⟨rfl, rfl⟩)
    | (refine at_getL (by rfl) _ (by rfl) g0 (by rfl) p rp5 ?_)
    | (refine at_getL (by rfl) _ (by rfl) g0 (by rfl) p rp2 ?_)
    | (refine at_getL (by rfl) _ (by rfl) g0 (by rfl) p rp1 ?_)
    | (refine at_getL (by rfl) _ (by rfl) gq (by rfl) q rq7 ?_)
    | (refine at_getL (by rfl) _ (by rfl) gq (by rfl) q rq6 ?_)
    | (have _t := t2; go_at_call 10; refine (H1.out _).mono ?_; rintro e u2 ⟨rfl, b2⟩; clear _t t2; have rp2 := rp1.later b2; have B2 := bnext B1 b2 (Nat.le_refl _); clear rp1 B1 b2)
    | (have _t := t3; go_at_call 12; refine (H2.out _).mono ?_; rintro e u3 ⟨rfl, b3⟩; clear _t)
    | (have _t := t3; refine at_new 23 54 arrL (by rfl) (by rfl) ?_; intro gq u4 a4 z4 r4 b4; clear _t)
    | (have _t := t3; refine at_put 23 54 arrL (by rfl) _ _ (by rfl) gq (by rfl) q.l (by rfl) hq _ r4 (by simp) ?_; intro u5 rq5 s5; clear _t t3
       have rp5 : Row u5 g0 p.l := ((rp2.later b3).later b4).step s5 (by have := rp2.lt; have := b3.size; omega)
       have S5 : Stp (fun x => w.heap.size ≤ x) w u5 := (Stp.of_below (bnext (bnext B2 b3 (Nat.le_refl _)) b4 (Nat.le_refl _)) (fun x => w.heap.size ≤ x)).next s5 (fun x hx => .inl (by subst hx; have := B2.size; have := b3.size; omega))
       clear rp2 B2 r4 b3 b4 s5 a4 z4
       have t4 : True := trivial)
    | (have _t := t4; go_at_call 10; refine (H3.out _).mono ?_; rintro e u6 ⟨rfl, b6⟩; clear _t t4; have rp6 := rp5.later b6; have rq6 := rq5.later b6; have S6 := S5.next (Stp.of_below b6 (fun _ => False)) (fun _ h => h.elim); clear rp5 rq5 S5 b6)
    | (go_at_call 10; refine (H4.out _).mono ?_; rintro e u7 ⟨rfl, b7⟩; have rp7 := rp6.later b7; have rq7 := rq6.later b7; have S7 := S6.next (Stp.of_below b7 (fun _ => False)) (fun _ h => h.elim); clear rp6 rq6 S6 b7)
    | (go_at_call 12; refine (H5.out _).mono ?_; rintro e u8 ⟨rfl, b8⟩)
    | (refine at_new 23 54 arrL (by rfl) (by rfl) ?_; intro gr u9 a9 z9 r9 b9)
    | (refine at_put 23 54 arrL (by rfl) _ _ (by rfl) gr (by rfl) p.l (by rfl) hp _ r9 (by simp) ?_; intro u10 rr10 s10
       have rp10 : Row u10 g0 p.l := ((rp7.later b8).later b9).step s10 (by have := rp7.lt; have := b8.size; omega)
       have rq10 : Row u10 gq q.l := ((rq7.later b8).later b9).step s10 (by have := rq7.lt; have := b8.size; omega)
       have S10 := (S7.next (Stp.of_below (bnext b8 b9 (Nat.le_refl _)) (fun _ => False)) (fun _ h => h.elim)).next s10 (fun x hx => .inl (by subst hx; have := S7.size; have := b8.size; omega))
       clear rp7 rq7 S7 r9 b8 b9 s10 a9 z9)
    | (go_at_call 14; refine (H6.out _).mono ?_; rintro e W ⟨rfl, b11⟩
       have rp := rp10.later b11
       have rq := rq10.later b11
       have rr := rr10.later b11
       have S := S10.next (Stp.of_below b11 (fun _ => False)) (fun _ h => h.elim)
       clear rp10 rq10 rr10 S10 b11))
  clear H1 H2 H3 H4 H5 H6 HA1 HA2
  refine wp_region_held_drew (S := fun u => Below W.heap.size W u) (by kernel_rfl) (Below.refl _ _).drew (fun hHeld => ?_)
  refine wpAnyH_take (i := 0) (oi := { dst := some 74, op := Op.move (Operand.tmp 14), type := 24, pos := _, after := #[], guard := none }) (v := .int .i64 0) rfl (by kernel_rfl) (by kernel_rfl) (by kernel_rfl) (fun _ _ _ h => h) (Or.inl ⟨by rfl, ?_⟩) hHeld ?_
  · intro u hu
    go_simp
  try simp only [Act.put, List.setIfInBounds_toArray, List.set_cons_zero, List.set_cons_succ]
  refine wpAnyH_take (i := 1) (oi := { dst := some 75, op := Op.binOp BinOp.eql 24 (Operand.tmp 74) (Operand.const (Value.int IntKind.i64 0)) 24, type := 4, pos := _, after := #[{ on := 0, ground := Ground.data }], guard := none }) (v := .bool true) rfl (by kernel_rfl) (by kernel_rfl) (by kernel_rfl) (fun _ _ _ h => h) (Or.inl ⟨by rfl, ?_⟩) hHeld ?_
  · intro u hu
    go_simp
  try simp only [Act.put, List.setIfInBounds_toArray, List.set_cons_zero, List.set_cons_succ]
  refine wpAnyH_take (i := 2) (oi := { dst := some 76, op := Op.move (Operand.tmp 75), type := 4, pos := _, after := #[{ on := 1, ground := Ground.data }], guard := none }) (v := .bool true) rfl (by kernel_rfl) (by kernel_rfl) (by kernel_rfl) (fun _ _ _ h => h) (Or.inl ⟨by rfl, ?_⟩) hHeld ?_
  · intro u hu
    go_simp
  try simp only [Act.put, List.setIfInBounds_toArray, List.set_cons_zero, List.set_cons_succ]
  refine wpAnyH_take (i := 3) (oi := { dst := some 77, op := Op.move (Operand.tmp 20), type := 24, pos := _, after := #[{ on := 2, ground := Ground.guard }], guard := some (2, true) }) (v := .int .i64 0) rfl (by kernel_rfl) (by kernel_rfl) (by kernel_rfl) (fun _ _ _ h => h) (Or.inl ⟨by rfl, ?_⟩) hHeld ?_
  · intro u hu
    go_simp
  try simp only [Act.put, List.setIfInBounds_toArray, List.set_cons_zero, List.set_cons_succ]
  refine wpAnyH_take (i := 4) (oi := { dst := some 78, op := Op.binOp BinOp.eql 24 (Operand.tmp 77) (Operand.const (Value.int IntKind.i64 0)) 24, type := 4, pos := _, after := #[{ on := 3, ground := Ground.data }, { on := 2, ground := Ground.guard }], guard := some (2, true) }) (v := .bool true) rfl (by kernel_rfl) (by kernel_rfl) (by kernel_rfl) (fun _ _ _ h => h) (Or.inl ⟨by rfl, ?_⟩) hHeld ?_
  · intro u hu
    go_simp
  try simp only [Act.put, List.setIfInBounds_toArray, List.set_cons_zero, List.set_cons_succ]
  refine wpAnyH_take (i := 5) (oi := { dst := some 79, op := Op.pick (Operand.tmp 76) (Operand.tmp 78) (Operand.const (Value.bool false)), type := 4, pos := _, after := #[{ on := 2, ground := Ground.data }, { on := 4, ground := Ground.data }], guard := none }) (v := .bool true) rfl (by kernel_rfl) (by kernel_rfl) (by kernel_rfl) (fun _ _ _ h => h) (Or.inl ⟨by rfl, ?_⟩) hHeld ?_
  · intro u hu
    go_simp
  try simp only [Act.put, List.setIfInBounds_toArray, List.set_cons_zero, List.set_cons_succ]
  refine wpAnyH_take (i := 6) (oi := { dst := some 80, op := Op.move (Operand.tmp 79), type := 4, pos := _, after := #[{ on := 5, ground := Ground.data }, { on := 2, ground := Ground.chain }], guard := none }) (v := .bool true) rfl (by kernel_rfl) (by kernel_rfl) (by kernel_rfl) (fun _ _ _ h => h) (Or.inl ⟨by rfl, ?_⟩) hHeld ?_
  · intro u hu
    go_simp
  try simp only [Act.put, List.setIfInBounds_toArray, List.set_cons_zero, List.set_cons_succ]
  refine wpAnyH_take (i := 7) (oi := { dst := some 81, op := Op.load 23 (Operand.tmp 19), type := 23, pos := _, after := #[{ on := 6, ground := Ground.guard }], guard := some (6, true) }) (v := .agg p.cs.toArray) rfl (by kernel_rfl) (by kernel_rfl) (by kernel_rfl) (fun _ _ _ h => h)
    (yields_row 23 54 arrL (by rfl) (.tmp 19) rfl gr (by rfl) p.l hp (fun u hu => rr.later hu)) hHeld ?_
  try simp only [Act.put, List.setIfInBounds_toArray, List.set_cons_zero, List.set_cons_succ]
  refine wpAnyH_take (i := 8) (oi := { dst := some 82, op := Op.load 23 (Operand.tmp 4), type := 23, pos := _, after := #[{ on := 6, ground := Ground.guard }], guard := some (6, true) }) (v := .agg p.cs.toArray) rfl (by kernel_rfl) (by kernel_rfl) (by kernel_rfl) (fun _ _ _ h => h)
    (yields_row 23 54 arrL (by rfl) (.tmp 4) rfl g0 (by rfl) p.l hp (fun u hu => rp.later hu)) hHeld ?_
  try simp only [Act.put, List.setIfInBounds_toArray, List.set_cons_zero, List.set_cons_succ]
  refine wpAnyH_take (i := 9) (oi := { dst := some 83, op := Op.binOp BinOp.eql 23 (Operand.tmp 81) (Operand.tmp 82) 23, type := 4, pos := _, after := #[{ on := 7, ground := Ground.data }, { on := 8, ground := Ground.data }, { on := 6, ground := Ground.guard }], guard := some (6, true) }) (v := .bool true) rfl (by kernel_rfl) (by kernel_rfl) (by kernel_rfl) (fun _ _ _ h => h) (Or.inl ⟨by rfl, ?_⟩) hHeld ?_
  · intro u hu
    go_simp
  try simp only [Act.put, List.setIfInBounds_toArray, List.set_cons_zero, List.set_cons_succ]
  refine wpAnyH_take (i := 10) (oi := { dst := some 84, op := Op.pick (Operand.tmp 80) (Operand.tmp 83) (Operand.const (Value.bool false)), type := 4, pos := _, after := #[{ on := 6, ground := Ground.data }, { on := 9, ground := Ground.data }], guard := none }) (v := .bool true) rfl (by kernel_rfl) (by kernel_rfl) (by kernel_rfl) (fun _ _ _ h => h) (Or.inl ⟨by rfl, ?_⟩) hHeld ?_
  · intro u hu
    go_simp
  try simp only [Act.put, List.setIfInBounds_toArray, List.set_cons_zero, List.set_cons_succ]
  refine wpAnyH_take (i := 11) (oi := { dst := some 85, op := Op.move (Operand.tmp 84), type := 4, pos := _, after := #[{ on := 10, ground := Ground.data }, { on := 6, ground := Ground.chain }], guard := none }) (v := .bool true) rfl (by kernel_rfl) (by kernel_rfl) (by kernel_rfl) (fun _ _ _ h => h) (Or.inl ⟨by rfl, ?_⟩) hHeld ?_
  · intro u hu
    go_simp
  try simp only [Act.put, List.setIfInBounds_toArray, List.set_cons_zero, List.set_cons_succ]
  refine wpAnyH_take (i := 12) (oi := { dst := some 86, op := Op.move (Operand.tmp 17), type := 4, pos := _, after := #[{ on := 11, ground := Ground.guard }], guard := some (11, true) }) (v := .bool y) rfl (by kernel_rfl) (by kernel_rfl) (by kernel_rfl) (fun _ _ _ h => h) (Or.inl ⟨by rfl, ?_⟩) hHeld ?_
  · intro u hu
    go_simp
  try simp only [Act.put, List.setIfInBounds_toArray, List.set_cons_zero, List.set_cons_succ]
  refine wpAnyH_take (i := 13) (oi := { dst := some 87, op := Op.move (Operand.tmp 15), type := 4, pos := _, after := #[{ on := 11, ground := Ground.guard }], guard := some (11, true) }) (v := .bool false) rfl (by kernel_rfl) (by kernel_rfl) (by kernel_rfl) (fun _ _ _ h => h) (Or.inl ⟨by rfl, ?_⟩) hHeld ?_
  · intro u hu
    go_simp
  try simp only [Act.put, List.setIfInBounds_toArray, List.set_cons_zero, List.set_cons_succ]
  refine wpAnyH_take (i := 14) (oi := { dst := some 88, op := Op.move (Operand.tmp 87), type := 4, pos := _, after := #[{ on := 13, ground := Ground.data }, { on := 11, ground := Ground.chain }, { on := 11, ground := Ground.guard }], guard := some (11, true) }) (v := .bool false) rfl (by kernel_rfl) (by kernel_rfl) (by kernel_rfl) (fun _ _ _ h => h) (Or.inl ⟨by rfl, ?_⟩) hHeld ?_
  · intro u hu
    go_simp
  try simp only [Act.put, List.setIfInBounds_toArray, List.set_cons_zero, List.set_cons_succ]
  refine wpAnyH_take (i := 15) (oi := { dst := some 89, op := Op.move (Operand.tmp 2), type := 3, pos := _, after := #[{ on := 14, ground := Ground.guard }], guard := some (14, false) }) (v := .int .i64 (i : Int)) rfl (by kernel_rfl) (by kernel_rfl) (by kernel_rfl) (fun _ _ _ h => h) (Or.inl ⟨by rfl, ?_⟩) hHeld ?_
  · intro u hu
    go_simp
  try simp only [Act.put, List.setIfInBounds_toArray, List.set_cons_zero, List.set_cons_succ]
  refine wpAnyH_take (i := 16) (oi := { dst := some 90, op := Op.move (Operand.tmp 3), type := 3, pos := _, after := #[{ on := 14, ground := Ground.guard }], guard := some (14, false) }) (v := .int .i64 (j : Int)) rfl (by kernel_rfl) (by kernel_rfl) (by kernel_rfl) (fun _ _ _ h => h) (Or.inl ⟨by rfl, ?_⟩) hHeld ?_
  · intro u hu
    go_simp
  try simp only [Act.put, List.setIfInBounds_toArray, List.set_cons_zero, List.set_cons_succ]
  refine wpAnyH_take (i := 17) (oi := { dst := some 91, op := Op.binOp BinOp.eql 3 (Operand.tmp 89) (Operand.tmp 90) 3, type := 4, pos := _, after := #[{ on := 15, ground := Ground.data }, { on := 16, ground := Ground.data }, { on := 14, ground := Ground.guard }], guard := some (14, false) }) (v := .bool y) rfl (by kernel_rfl) (by kernel_rfl) (by kernel_rfl) (fun _ _ _ h => h) (Or.inl ⟨by rfl, ?_⟩) hHeld ?_
  · intro u hu
    (go_simp; try exact hdB)
  try simp only [Act.put, List.setIfInBounds_toArray, List.set_cons_zero, List.set_cons_succ]
  refine wpAnyH_take (i := 18) (oi := { dst := some 92, op := Op.pick (Operand.tmp 88) (Operand.const (Value.bool true)) (Operand.tmp 91), type := 4, pos := _, after := #[{ on := 14, ground := Ground.data }, { on := 17, ground := Ground.data }, { on := 11, ground := Ground.guard }], guard := some (11, true) }) (v := .bool y) rfl (by kernel_rfl) (by kernel_rfl) (by kernel_rfl) (fun _ _ _ h => h) (Or.inl ⟨by rfl, ?_⟩) hHeld ?_
  · intro u hu
    go_simp
  try simp only [Act.put, List.setIfInBounds_toArray, List.set_cons_zero, List.set_cons_succ]
  refine wpAnyH_take (i := 19) (oi := { dst := some 93, op := Op.binOp BinOp.eql 4 (Operand.tmp 86) (Operand.tmp 92) 4, type := 4, pos := _, after := #[{ on := 12, ground := Ground.data }, { on := 18, ground := Ground.data }, { on := 11, ground := Ground.guard }], guard := some (11, true) }) (v := .bool true) rfl (by kernel_rfl) (by kernel_rfl) (by kernel_rfl) (fun _ _ _ h => h) (Or.inl ⟨by rfl, ?_⟩) hHeld ?_
  · intro u hu
    go_simp
  try simp only [Act.put, List.setIfInBounds_toArray, List.set_cons_zero, List.set_cons_succ]
  refine wpAnyH_take (i := 20) (oi := { dst := some 94, op := Op.pick (Operand.tmp 85) (Operand.tmp 93) (Operand.const (Value.bool false)), type := 4, pos := _, after := #[{ on := 11, ground := Ground.data }, { on := 19, ground := Ground.data }], guard := none }) (v := .bool true) rfl (by kernel_rfl) (by kernel_rfl) (by kernel_rfl) (fun _ _ _ h => h) (Or.inl ⟨by rfl, ?_⟩) hHeld ?_
  · intro u hu
    go_simp
  try simp only [Act.put, List.setIfInBounds_toArray, List.set_cons_zero, List.set_cons_succ]
  refine wpAnyH_take (i := 21) (oi := { dst := some 95, op := Op.move (Operand.tmp 94), type := 4, pos := _, after := #[{ on := 20, ground := Ground.data }, { on := 14, ground := Ground.chain }], guard := none }) (v := .bool true) rfl (by kernel_rfl) (by kernel_rfl) (by kernel_rfl) (fun _ _ _ h => h) (Or.inl ⟨by rfl, ?_⟩) hHeld ?_
  · intro u hu
    go_simp
  try simp only [Act.put, List.setIfInBounds_toArray, List.set_cons_zero, List.set_cons_succ]
  refine wpAnyH_take (i := 22) (oi := { dst := some 96, op := Op.load 23 (Operand.tmp 13), type := 23, pos := _, after := #[{ on := 21, ground := Ground.guard }], guard := some (21, true) }) (v := .agg q.cs.toArray) rfl (by kernel_rfl) (by kernel_rfl) (by kernel_rfl) (fun _ _ _ h => h)
    (yields_row 23 54 arrL (by rfl) (.tmp 13) rfl gq (by rfl) q.l hq (fun u hu => rq.later hu)) hHeld ?_
  try simp only [Act.put, List.setIfInBounds_toArray, List.set_cons_zero, List.set_cons_succ]
  refine wpAnyH_take (i := 23) (oi := { dst := some 97, op := Op.load 23 (Operand.tmp 4), type := 23, pos := _, after := #[{ on := 21, ground := Ground.guard }], guard := some (21, true) }) (v := .agg p.cs.toArray) rfl (by kernel_rfl) (by kernel_rfl) (by kernel_rfl) (fun _ _ _ h => h)
    (yields_row 23 54 arrL (by rfl) (.tmp 4) rfl g0 (by rfl) p.l hp (fun u hu => rp.later hu)) hHeld ?_
  try simp only [Act.put, List.setIfInBounds_toArray, List.set_cons_zero, List.set_cons_succ]
  refine wpAnyH_take (i := 24) (oi := { dst := some 98, op := Op.binOp BinOp.eql 23 (Operand.tmp 96) (Operand.tmp 97) 23, type := 4, pos := _, after := #[{ on := 22, ground := Ground.data }, { on := 23, ground := Ground.data }, { on := 21, ground := Ground.guard }], guard := some (21, true) }) (v := .bool false) rfl (by kernel_rfl) (by kernel_rfl) (by kernel_rfl) (fun _ _ _ h => h) (Or.inl ⟨by rfl, ?_⟩) hHeld ?_
  · intro u hu
    go_simp
  try simp only [Act.put, List.setIfInBounds_toArray, List.set_cons_zero, List.set_cons_succ]
  refine wpAnyH_take (i := 25) (oi := { dst := some 99, op := Op.move (Operand.tmp 11), type := 4, pos := _, after := #[{ on := 21, ground := Ground.guard }], guard := some (21, true) }) (v := .bool false) rfl (by kernel_rfl) (by kernel_rfl) (by kernel_rfl) (fun _ _ _ h => h) (Or.inl ⟨by rfl, ?_⟩) hHeld ?_
  · intro u hu
    go_simp
  try simp only [Act.put, List.setIfInBounds_toArray, List.set_cons_zero, List.set_cons_succ]
  refine wpAnyH_take (i := 26) (oi := { dst := some 100, op := Op.binOp BinOp.eql 4 (Operand.tmp 98) (Operand.tmp 99) 4, type := 4, pos := _, after := #[{ on := 24, ground := Ground.data }, { on := 25, ground := Ground.data }, { on := 21, ground := Ground.guard }], guard := some (21, true) }) (v := .bool true) rfl (by kernel_rfl) (by kernel_rfl) (by kernel_rfl) (fun _ _ _ h => h) (Or.inl ⟨by rfl, ?_⟩) hHeld ?_
  · intro u hu
    go_simp
  try simp only [Act.put, List.setIfInBounds_toArray, List.set_cons_zero, List.set_cons_succ]
  refine wpAnyH_take (i := 27) (oi := { dst := some 101, op := Op.pick (Operand.tmp 95) (Operand.tmp 100) (Operand.const (Value.bool false)), type := 4, pos := _, after := #[{ on := 21, ground := Ground.data }, { on := 26, ground := Ground.data }], guard := none }) (v := .bool true) rfl (by kernel_rfl) (by kernel_rfl) (by kernel_rfl) (fun _ _ _ h => h) (Or.inl ⟨by rfl, ?_⟩) hHeld ?_
  · intro u hu
    go_simp
  try simp only [Act.put, List.setIfInBounds_toArray, List.set_cons_zero, List.set_cons_succ]
  refine wpAnyH_take (i := 28) (oi := { dst := some 102, op := Op.move (Operand.tmp 101), type := 4, pos := _, after := #[{ on := 27, ground := Ground.data }, { on := 21, ground := Ground.chain }], guard := none }) (v := .bool true) rfl (by kernel_rfl) (by kernel_rfl) (by kernel_rfl) (fun _ _ _ h => h) (Or.inl ⟨by rfl, ?_⟩) hHeld ?_
  · intro u hu
    go_simp
  try simp only [Act.put, List.setIfInBounds_toArray, List.set_cons_zero, List.set_cons_succ]
  refine wpAnyH_take (i := 29) (oi := { dst := some 103, op := Op.move (Operand.tmp 11), type := 4, pos := _, after := #[{ on := 28, ground := Ground.guard }], guard := some (28, true) }) (v := .bool false) rfl (by kernel_rfl) (by kernel_rfl) (by kernel_rfl) (fun _ _ _ h => h) (Or.inl ⟨by rfl, ?_⟩) hHeld ?_
  · intro u hu
    go_simp
  try simp only [Act.put, List.setIfInBounds_toArray, List.set_cons_zero, List.set_cons_succ]
  refine wpAnyH_take (i := 30) (oi := { dst := some 104, op := Op.move (Operand.tmp 103), type := 4, pos := _, after := #[{ on := 29, ground := Ground.data }, { on := 28, ground := Ground.chain }, { on := 28, ground := Ground.guard }], guard := some (28, true) }) (v := .bool false) rfl (by kernel_rfl) (by kernel_rfl) (by kernel_rfl) (fun _ _ _ h => h) (Or.inl ⟨by rfl, ?_⟩) hHeld ?_
  · intro u hu
    go_simp
  try simp only [Act.put, List.setIfInBounds_toArray, List.set_cons_zero, List.set_cons_succ]
  refine wpAnyH_take (i := 31) (oi := { dst := some 105, op := Op.move (Operand.tmp 21), type := 3, pos := _, after := #[{ on := 30, ground := Ground.guard }], guard := some (30, false) }) (v := .int .i64 (at' : Int)) rfl (by kernel_rfl) (by kernel_rfl) (by kernel_rfl) (fun _ _ _ h => h) (Or.inl ⟨by rfl, ?_⟩) hHeld ?_
  · intro u hu
    go_simp
  try simp only [Act.put, List.setIfInBounds_toArray, List.set_cons_zero, List.set_cons_succ]
  refine wpAnyH_take (i := 32) (oi := { dst := some 106, op := Op.indexAddr 23 (Operand.tmp 13) (Operand.tmp 105), type := 0, pos := _, after := #[{ on := 31, ground := Ground.data }, { on := 30, ground := Ground.guard }], guard := some (30, false) }) (v := .pointer (some ⟨gq, at', none⟩)) rfl (by kernel_rfl) (by kernel_rfl) (by kernel_rfl) (fun _ _ _ h => h) (Or.inl ⟨by rfl, ?_⟩) hHeld ?_
  · intro u hu
    (have hl : (at' : Int) < 54 := by omega); go_simp
  try simp only [Act.put, List.setIfInBounds_toArray, List.set_cons_zero, List.set_cons_succ]
  refine wpAnyH_take (i := 33) (oi := { dst := some 107, op := Op.load 5 (Operand.tmp 106), type := 5, pos := _, after := #[{ on := 32, ground := Ground.data }, { on := 30, ground := Ground.guard }], guard := some (30, false) }) (v := .int .u8 bq) rfl (by kernel_rfl) (by kernel_rfl) (by kernel_rfl) (fun _ _ _ h => h) (Or.inl ⟨by rfl, ?_⟩) hHeld ?_
  · intro u hu
    (have cq := (rq.later hu).cell at' (by omega)); rw [hbq.out] at cq; go_simp
  try simp only [Act.put, List.setIfInBounds_toArray, List.set_cons_zero, List.set_cons_succ]
  refine wpAnyH_take (i := 34) (oi := { dst := some 108, op := Op.move (Operand.tmp 21), type := 3, pos := _, after := #[{ on := 30, ground := Ground.guard }], guard := some (30, false) }) (v := .int .i64 (at' : Int)) rfl (by kernel_rfl) (by kernel_rfl) (by kernel_rfl) (fun _ _ _ h => h) (Or.inl ⟨by rfl, ?_⟩) hHeld ?_
  · intro u hu
    go_simp
  try simp only [Act.put, List.setIfInBounds_toArray, List.set_cons_zero, List.set_cons_succ]
  refine wpAnyH_take (i := 35) (oi := { dst := some 109, op := Op.indexAddr 23 (Operand.tmp 4) (Operand.tmp 108), type := 0, pos := _, after := #[{ on := 34, ground := Ground.data }, { on := 30, ground := Ground.guard }], guard := some (30, false) }) (v := .pointer (some ⟨g0, at', none⟩)) rfl (by kernel_rfl) (by kernel_rfl) (by kernel_rfl) (fun _ _ _ h => h) (Or.inl ⟨by rfl, ?_⟩) hHeld ?_
  · intro u hu
    (have hl : (at' : Int) < 54 := by omega); go_simp
  try simp only [Act.put, List.setIfInBounds_toArray, List.set_cons_zero, List.set_cons_succ]
  refine wpAnyH_take (i := 36) (oi := { dst := some 110, op := Op.load 5 (Operand.tmp 109), type := 5, pos := _, after := #[{ on := 35, ground := Ground.data }, { on := 30, ground := Ground.guard }], guard := some (30, false) }) (v := .int .u8 bp) rfl (by kernel_rfl) (by kernel_rfl) (by kernel_rfl) (fun _ _ _ h => h) (Or.inl ⟨by rfl, ?_⟩) hHeld ?_
  · intro u hu
    (have cp := (rp.later hu).cell at' (by omega)); rw [hbp.out] at cp; go_simp
  try simp only [Act.put, List.setIfInBounds_toArray, List.set_cons_zero, List.set_cons_succ]
  refine wpAnyH_take (i := 37) (oi := { dst := some 111, op := Op.binOp BinOp.neq 5 (Operand.tmp 107) (Operand.tmp 110) 5, type := 4, pos := _, after := #[{ on := 33, ground := Ground.data }, { on := 36, ground := Ground.data }, { on := 30, ground := Ground.guard }], guard := some (30, false) }) (v := .bool true) rfl (by kernel_rfl) (by kernel_rfl) (by kernel_rfl) (fun _ _ _ h => h) (Or.inl ⟨by rfl, ?_⟩) hHeld ?_
  · intro u hu
    (have hne : ¬ bq = bp := hby.resolve_left (by decide)); go_simp
  try simp only [Act.put, List.setIfInBounds_toArray, List.set_cons_zero, List.set_cons_succ]
  refine wpAnyH_take (i := 38) (oi := { dst := some 112, op := Op.pick (Operand.tmp 104) (Operand.const (Value.bool true)) (Operand.tmp 111), type := 4, pos := _, after := #[{ on := 30, ground := Ground.data }, { on := 37, ground := Ground.data }, { on := 28, ground := Ground.guard }], guard := some (28, true) }) (v := .bool true) rfl (by kernel_rfl) (by kernel_rfl) (by kernel_rfl) (fun _ _ _ h => h) (Or.inl ⟨by rfl, ?_⟩) hHeld ?_
  · intro u hu
    go_simp
  try simp only [Act.put, List.setIfInBounds_toArray, List.set_cons_zero, List.set_cons_succ]
  refine wpAnyH_take (i := 39) (oi := { dst := some 113, op := Op.pick (Operand.tmp 102) (Operand.tmp 112) (Operand.const (Value.bool false)), type := 4, pos := _, after := #[{ on := 28, ground := Ground.data }, { on := 38, ground := Ground.data }], guard := none }) (v := .bool true) rfl (by kernel_rfl) (by kernel_rfl) (by kernel_rfl) (fun _ _ _ h => h) (Or.inl ⟨by rfl, ?_⟩) hHeld ?_
  · intro u hu
    go_simp
  try simp only [Act.put, List.setIfInBounds_toArray, List.set_cons_zero, List.set_cons_succ]
  refine wpAnyH_take (i := 40) (oi := { dst := some 8, op := Op.assign (Operand.tmp 113), type := 4, pos := _, after := #[{ on := 39, ground := Ground.data }, { on := 30, ground := Ground.chain }, { on := 0, ground := Ground.phase }, { on := 1, ground := Ground.phase }, { on := 2, ground := Ground.phase }, { on := 3, ground := Ground.phase }, { on := 4, ground := Ground.phase }, { on := 5, ground := Ground.phase }, { on := 6, ground := Ground.phase }, { on := 7, ground := Ground.phase }, { on := 8, ground := Ground.phase }, { on := 9, ground := Ground.phase }, { on := 10, ground := Ground.phase }, { on := 11, ground := Ground.phase }, { on := 12, ground := Ground.phase }, { on := 13, ground := Ground.phase }, { on := 14, ground := Ground.phase }, { on := 15, ground := Ground.phase }, { on := 16, ground := Ground.phase }, { on := 17, ground := Ground.phase }, { on := 18, ground := Ground.phase }, { on := 19, ground := Ground.phase }, { on := 20, ground := Ground.phase }, { on := 21, ground := Ground.phase }, { on := 22, ground := Ground.phase }, { on := 23, ground := Ground.phase }, { on := 24, ground := Ground.phase }, { on := 25, ground := Ground.phase }, { on := 26, ground := Ground.phase }, { on := 27, ground := Ground.phase }, { on := 28, ground := Ground.phase }, { on := 29, ground := Ground.phase }, { on := 30, ground := Ground.phase }, { on := 31, ground := Ground.phase }, { on := 32, ground := Ground.phase }, { on := 33, ground := Ground.phase }, { on := 34, ground := Ground.phase }, { on := 35, ground := Ground.phase }, { on := 36, ground := Ground.phase }, { on := 37, ground := Ground.phase }, { on := 38, ground := Ground.phase }, { on := 39, ground := Ground.phase }], guard := none }) (v := .bool true) rfl (by kernel_rfl) (by kernel_rfl) (by kernel_rfl) (fun _ _ _ h => h) (Or.inl ⟨by rfl, ?_⟩) hHeld ?_
  · intro u hu
    go_simp
  try simp only [Act.put, List.setIfInBounds_toArray, List.set_cons_zero, List.set_cons_succ]
  refine wpAnyH_done (by kernel_rfl) ?_ _
  go_wp2_with fail
  go_returns
  exact ⟨rfl, (S.next (Stp.of_below hHeld (fun _ => False)) (fun _ h => h.elim)).below (Nat.le_refl _) (fun _ h => h)⟩
set_option maxRecDepth 100000 in
set_option maxHeartbeats 8000000 in
theorem walk_i_tt (p q : Ld) (a c : Int) (i j : Nat) (y d : Bool) (at' : Nat) (w : World) (hai : among a 24 = i) (hcj : among c 24 = j) (F : Facts p q 4 i j true true y d at') :
    Calls Try.prog 5 #[.agg p.cs.toArray, .bool true, .int .i64 a, .int .i64 c] w fun e w' => e = .returned (.bool true) ∧ Below w.heap.size w w' := by
  have hp := p.len
  have hq := q.len
  obtain rfl : y = true := F.fo
  have A1 := among_24 a
  have A2 := among_24 c
  rw [hai] at A1
  rw [hcj] at A2
  have G1 := fun w => taken_any p 4 (i : Int) w (by decide)
  have G2 := fun w => mwith_any p 4 (i : Int) true w (by decide)
  have G3 := fun w => taken_any p 4 (j : Int) w (by decide)
  have G4 := fun w => taken_any q 4 (j : Int) w (by decide)
  have G5 := fun w => mwith_any q 4 (i : Int) true w (by decide)
  have G6 := fun w => byte_any 4 (i : Int) w (by decide)
  rw [F.fw, F.err] at G1
  rw [F.eq, F.err] at G2
  rw [F.fx, F.errj] at G3
  rw [F.fy, F.errj] at G4
  rw [F.back, F.err] at G5
  rw [F.at_is, F.err] at G6
  have hlt := F.at_lt
  have hsame := F.same
  have hby := F.byte
  have hdB : ((i : Int) == (j : Int)) = d := by rcases F.fd with ⟨rfl, e⟩ | ⟨rfl, e⟩ <;> simp [e]
  obtain ⟨bq, hbq⟩ : ∃ z : Int, Hid (((q.l.getD at' 0).toNat : Int) = z) := ⟨_, rfl⟩
  obtain ⟨bp, hbp⟩ : ∃ z : Int, Hid (((p.l.getD at' 0).toNat : Int) = z) := ⟨_, rfl⟩
  rw [hbq.out, hbp.out] at hby
  have hi := F.hi
  have hj := F.hj
  have H1 : Hid _ := G1
  have H2 : Hid _ := G2
  have H3 : Hid _ := G3
  have H4 : Hid _ := G4
  have H5 : Hid _ := G5
  have H6 : Hid _ := G6
  have HA1 : Hid _ := A1
  have HA2 : Hid _ := A2
  clear G1 G2 G3 G4 G5 G6 A1 A2 F hai hcj
  have qP : ∀ w, (Op.equalIn 10000 23 (.agg p.cs.toArray) (.agg p.cs.toArray)).run Try.prog w = .ok true w := fun w => by rw [eqL]; simp
  have qQ : ∀ w, (Op.equalIn 10000 23 (.agg q.cs.toArray) (.agg p.cs.toArray)).run Try.prog w = .ok true w := fun w => by rw [eqL, hsame]
  have gL := guardL
  clear hsame
  have t1 : True := trivial
  have t2 : True := trivial
  have t3 : True := trivial
  go_enter Try.func5, Try.ntmps5
  go_wp2_with (first
    | (refine at_box 23 54 arrL (by rfl) _ (by rfl) p.l (by rfl) hp ?_; intro g0 u0 a0 z0 r0 b0)
    | (go_at_call 18; refine (works_any _).mono ?_; rintro e u1 ⟨rfl, b1⟩; have rp1 := r0.later b1; have B1 := bnext b0 b1 (Nat.le_refl _); clear r0 b0 b1)
    | (have _t := t1; go_at_call 25; refine (HA1.out _).mono ?_; rintro e w' ⟨rfl, rfl⟩; clear _t t1)
    | (go_at_call 25; refine (HA2.out _).mono ?_; rintro e w' ⟨rfl, rfl⟩)
    | (refine at_getL (by rfl) _ (by rfl) g0 (by rfl) p rp5 ?_)
    | (refine at_getL (by rfl) _ (by rfl) g0 (by rfl) p rp2 ?_)
    | (refine at_getL (by rfl) _ (by rfl) g0 (by rfl) p rp1 ?_)
    | (refine at_getL (by rfl) _ (by rfl) gq (by rfl) q rq7 ?_)
    | (refine at_getL (by rfl) _ (by rfl) gq (by rfl) q rq6 ?_)
    | (have _t := t2; go_at_call 10; refine (H1.out _).mono ?_; rintro e u2 ⟨rfl, b2⟩; clear _t t2; have rp2 := rp1.later b2; have B2 := bnext B1 b2 (Nat.le_refl _); clear rp1 B1 b2)
    | (have _t := t3; go_at_call 12; refine (H2.out _).mono ?_; rintro e u3 ⟨rfl, b3⟩; clear _t)
    | (have _t := t3; refine at_new 23 54 arrL (by rfl) (by rfl) ?_; intro gq u4 a4 z4 r4 b4; clear _t)
    | (have _t := t3; refine at_put 23 54 arrL (by rfl) _ _ (by rfl) gq (by rfl) q.l (by rfl) hq _ r4 (by simp) ?_; intro u5 rq5 s5; clear _t t3
       have rp5 : Row u5 g0 p.l := ((rp2.later b3).later b4).step s5 (by have := rp2.lt; have := b3.size; omega)
       have S5 : Stp (fun x => w.heap.size ≤ x) w u5 := (Stp.of_below (bnext (bnext B2 b3 (Nat.le_refl _)) b4 (Nat.le_refl _)) (fun x => w.heap.size ≤ x)).next s5 (fun x hx => .inl (by subst hx; have := B2.size; have := b3.size; omega))
       clear rp2 B2 r4 b3 b4 s5 a4 z4
       have t4 : True := trivial)
    | (have _t := t4; go_at_call 10; refine (H3.out _).mono ?_; rintro e u6 ⟨rfl, b6⟩; clear _t t4; have rp6 := rp5.later b6; have rq6 := rq5.later b6; have S6 := S5.next (Stp.of_below b6 (fun _ => False)) (fun _ h => h.elim); clear rp5 rq5 S5 b6)
    | (go_at_call 10; refine (H4.out _).mono ?_; rintro e u7 ⟨rfl, b7⟩; have rp7 := rp6.later b7; have rq7 := rq6.later b7; have S7 := S6.next (Stp.of_below b7 (fun _ => False)) (fun _ h => h.elim); clear rp6 rq6 S6 b7)
    | (go_at_call 12; refine (H5.out _).mono ?_; rintro e u8 ⟨rfl, b8⟩)
    | (refine at_new 23 54 arrL (by rfl) (by rfl) ?_; intro gr u9 a9 z9 r9 b9)
    | (refine at_put 23 54 arrL (by rfl) _ _ (by rfl) gr (by rfl) p.l (by rfl) hp _ r9 (by simp) ?_; intro u10 rr10 s10
       have rp10 : Row u10 g0 p.l := ((rp7.later b8).later b9).step s10 (by have := rp7.lt; have := b8.size; omega)
       have rq10 : Row u10 gq q.l := ((rq7.later b8).later b9).step s10 (by have := rq7.lt; have := b8.size; omega)
       have S10 := (S7.next (Stp.of_below (bnext b8 b9 (Nat.le_refl _)) (fun _ => False)) (fun _ h => h.elim)).next s10 (fun x hx => .inl (by subst hx; have := S7.size; have := b8.size; omega))
       clear rp7 rq7 S7 r9 b8 b9 s10 a9 z9)
    | (go_at_call 14; refine (H6.out _).mono ?_; rintro e W ⟨rfl, b11⟩
       have rp := rp10.later b11
       have rq := rq10.later b11
       have rr := rr10.later b11
       have S := S10.next (Stp.of_below b11 (fun _ => False)) (fun _ h => h.elim)
       clear rp10 rq10 rr10 S10 b11))
  clear H1 H2 H3 H4 H5 H6 HA1 HA2
  refine wp_region_held_drew (S := fun u => Below W.heap.size W u) (by kernel_rfl) (Below.refl _ _).drew (fun hHeld => ?_)
  refine wpAnyH_take (i := 0) (oi := { dst := some 74, op := Op.move (Operand.tmp 14), type := 24, pos := _, after := #[], guard := none }) (v := .int .i64 0) rfl (by kernel_rfl) (by kernel_rfl) (by kernel_rfl) (fun _ _ _ h => h) (Or.inl ⟨by rfl, ?_⟩) hHeld ?_
  · intro u hu
    go_simp
  try simp only [Act.put, List.setIfInBounds_toArray, List.set_cons_zero, List.set_cons_succ]
  refine wpAnyH_take (i := 1) (oi := { dst := some 75, op := Op.binOp BinOp.eql 24 (Operand.tmp 74) (Operand.const (Value.int IntKind.i64 0)) 24, type := 4, pos := _, after := #[{ on := 0, ground := Ground.data }], guard := none }) (v := .bool true) rfl (by kernel_rfl) (by kernel_rfl) (by kernel_rfl) (fun _ _ _ h => h) (Or.inl ⟨by rfl, ?_⟩) hHeld ?_
  · intro u hu
    go_simp
  try simp only [Act.put, List.setIfInBounds_toArray, List.set_cons_zero, List.set_cons_succ]
  refine wpAnyH_take (i := 2) (oi := { dst := some 76, op := Op.move (Operand.tmp 75), type := 4, pos := _, after := #[{ on := 1, ground := Ground.data }], guard := none }) (v := .bool true) rfl (by kernel_rfl) (by kernel_rfl) (by kernel_rfl) (fun _ _ _ h => h) (Or.inl ⟨by rfl, ?_⟩) hHeld ?_
  · intro u hu
    go_simp
  try simp only [Act.put, List.setIfInBounds_toArray, List.set_cons_zero, List.set_cons_succ]
  refine wpAnyH_take (i := 3) (oi := { dst := some 77, op := Op.move (Operand.tmp 20), type := 24, pos := _, after := #[{ on := 2, ground := Ground.guard }], guard := some (2, true) }) (v := .int .i64 0) rfl (by kernel_rfl) (by kernel_rfl) (by kernel_rfl) (fun _ _ _ h => h) (Or.inl ⟨by rfl, ?_⟩) hHeld ?_
  · intro u hu
    go_simp
  try simp only [Act.put, List.setIfInBounds_toArray, List.set_cons_zero, List.set_cons_succ]
  refine wpAnyH_take (i := 4) (oi := { dst := some 78, op := Op.binOp BinOp.eql 24 (Operand.tmp 77) (Operand.const (Value.int IntKind.i64 0)) 24, type := 4, pos := _, after := #[{ on := 3, ground := Ground.data }, { on := 2, ground := Ground.guard }], guard := some (2, true) }) (v := .bool true) rfl (by kernel_rfl) (by kernel_rfl) (by kernel_rfl) (fun _ _ _ h => h) (Or.inl ⟨by rfl, ?_⟩) hHeld ?_
  · intro u hu
    go_simp
  try simp only [Act.put, List.setIfInBounds_toArray, List.set_cons_zero, List.set_cons_succ]
  refine wpAnyH_take (i := 5) (oi := { dst := some 79, op := Op.pick (Operand.tmp 76) (Operand.tmp 78) (Operand.const (Value.bool false)), type := 4, pos := _, after := #[{ on := 2, ground := Ground.data }, { on := 4, ground := Ground.data }], guard := none }) (v := .bool true) rfl (by kernel_rfl) (by kernel_rfl) (by kernel_rfl) (fun _ _ _ h => h) (Or.inl ⟨by rfl, ?_⟩) hHeld ?_
  · intro u hu
    go_simp
  try simp only [Act.put, List.setIfInBounds_toArray, List.set_cons_zero, List.set_cons_succ]
  refine wpAnyH_take (i := 6) (oi := { dst := some 80, op := Op.move (Operand.tmp 79), type := 4, pos := _, after := #[{ on := 5, ground := Ground.data }, { on := 2, ground := Ground.chain }], guard := none }) (v := .bool true) rfl (by kernel_rfl) (by kernel_rfl) (by kernel_rfl) (fun _ _ _ h => h) (Or.inl ⟨by rfl, ?_⟩) hHeld ?_
  · intro u hu
    go_simp
  try simp only [Act.put, List.setIfInBounds_toArray, List.set_cons_zero, List.set_cons_succ]
  refine wpAnyH_take (i := 7) (oi := { dst := some 81, op := Op.load 23 (Operand.tmp 19), type := 23, pos := _, after := #[{ on := 6, ground := Ground.guard }], guard := some (6, true) }) (v := .agg p.cs.toArray) rfl (by kernel_rfl) (by kernel_rfl) (by kernel_rfl) (fun _ _ _ h => h)
    (yields_row 23 54 arrL (by rfl) (.tmp 19) rfl gr (by rfl) p.l hp (fun u hu => rr.later hu)) hHeld ?_
  try simp only [Act.put, List.setIfInBounds_toArray, List.set_cons_zero, List.set_cons_succ]
  refine wpAnyH_take (i := 8) (oi := { dst := some 82, op := Op.load 23 (Operand.tmp 4), type := 23, pos := _, after := #[{ on := 6, ground := Ground.guard }], guard := some (6, true) }) (v := .agg p.cs.toArray) rfl (by kernel_rfl) (by kernel_rfl) (by kernel_rfl) (fun _ _ _ h => h)
    (yields_row 23 54 arrL (by rfl) (.tmp 4) rfl g0 (by rfl) p.l hp (fun u hu => rp.later hu)) hHeld ?_
  try simp only [Act.put, List.setIfInBounds_toArray, List.set_cons_zero, List.set_cons_succ]
  refine wpAnyH_take (i := 9) (oi := { dst := some 83, op := Op.binOp BinOp.eql 23 (Operand.tmp 81) (Operand.tmp 82) 23, type := 4, pos := _, after := #[{ on := 7, ground := Ground.data }, { on := 8, ground := Ground.data }, { on := 6, ground := Ground.guard }], guard := some (6, true) }) (v := .bool true) rfl (by kernel_rfl) (by kernel_rfl) (by kernel_rfl) (fun _ _ _ h => h) (Or.inl ⟨by rfl, ?_⟩) hHeld ?_
  · intro u hu
    go_simp
  try simp only [Act.put, List.setIfInBounds_toArray, List.set_cons_zero, List.set_cons_succ]
  refine wpAnyH_take (i := 10) (oi := { dst := some 84, op := Op.pick (Operand.tmp 80) (Operand.tmp 83) (Operand.const (Value.bool false)), type := 4, pos := _, after := #[{ on := 6, ground := Ground.data }, { on := 9, ground := Ground.data }], guard := none }) (v := .bool true) rfl (by kernel_rfl) (by kernel_rfl) (by kernel_rfl) (fun _ _ _ h => h) (Or.inl ⟨by rfl, ?_⟩) hHeld ?_
  · intro u hu
    go_simp
  try simp only [Act.put, List.setIfInBounds_toArray, List.set_cons_zero, List.set_cons_succ]
  refine wpAnyH_take (i := 11) (oi := { dst := some 85, op := Op.move (Operand.tmp 84), type := 4, pos := _, after := #[{ on := 10, ground := Ground.data }, { on := 6, ground := Ground.chain }], guard := none }) (v := .bool true) rfl (by kernel_rfl) (by kernel_rfl) (by kernel_rfl) (fun _ _ _ h => h) (Or.inl ⟨by rfl, ?_⟩) hHeld ?_
  · intro u hu
    go_simp
  try simp only [Act.put, List.setIfInBounds_toArray, List.set_cons_zero, List.set_cons_succ]
  refine wpAnyH_take (i := 12) (oi := { dst := some 86, op := Op.move (Operand.tmp 17), type := 4, pos := _, after := #[{ on := 11, ground := Ground.guard }], guard := some (11, true) }) (v := .bool true) rfl (by kernel_rfl) (by kernel_rfl) (by kernel_rfl) (fun _ _ _ h => h) (Or.inl ⟨by rfl, ?_⟩) hHeld ?_
  · intro u hu
    go_simp
  try simp only [Act.put, List.setIfInBounds_toArray, List.set_cons_zero, List.set_cons_succ]
  refine wpAnyH_take (i := 13) (oi := { dst := some 87, op := Op.move (Operand.tmp 15), type := 4, pos := _, after := #[{ on := 11, ground := Ground.guard }], guard := some (11, true) }) (v := .bool true) rfl (by kernel_rfl) (by kernel_rfl) (by kernel_rfl) (fun _ _ _ h => h) (Or.inl ⟨by rfl, ?_⟩) hHeld ?_
  · intro u hu
    go_simp
  try simp only [Act.put, List.setIfInBounds_toArray, List.set_cons_zero, List.set_cons_succ]
  refine wpAnyH_take (i := 14) (oi := { dst := some 88, op := Op.move (Operand.tmp 87), type := 4, pos := _, after := #[{ on := 13, ground := Ground.data }, { on := 11, ground := Ground.chain }, { on := 11, ground := Ground.guard }], guard := some (11, true) }) (v := .bool true) rfl (by kernel_rfl) (by kernel_rfl) (by kernel_rfl) (fun _ _ _ h => h) (Or.inl ⟨by rfl, ?_⟩) hHeld ?_
  · intro u hu
    go_simp
  try simp only [Act.put, List.setIfInBounds_toArray, List.set_cons_zero, List.set_cons_succ]
  refine wpAnyH_take (i := 15) (oi := { dst := some 89, op := Op.move (Operand.tmp 2), type := 3, pos := _, after := #[{ on := 14, ground := Ground.guard }], guard := some (14, false) }) (v := undef) rfl (by kernel_rfl) (by kernel_rfl) (by kernel_rfl) (fun _ _ _ h => h)
    (Or.inr ⟨by rfl, rfl⟩) hHeld ?_
  try simp only [Act.put, List.setIfInBounds_toArray, List.set_cons_zero, List.set_cons_succ]
  refine wpAnyH_take (i := 16) (oi := { dst := some 90, op := Op.move (Operand.tmp 3), type := 3, pos := _, after := #[{ on := 14, ground := Ground.guard }], guard := some (14, false) }) (v := undef) rfl (by kernel_rfl) (by kernel_rfl) (by kernel_rfl) (fun _ _ _ h => h)
    (Or.inr ⟨by rfl, rfl⟩) hHeld ?_
  try simp only [Act.put, List.setIfInBounds_toArray, List.set_cons_zero, List.set_cons_succ]
  refine wpAnyH_take (i := 17) (oi := { dst := some 91, op := Op.binOp BinOp.eql 3 (Operand.tmp 89) (Operand.tmp 90) 3, type := 4, pos := _, after := #[{ on := 15, ground := Ground.data }, { on := 16, ground := Ground.data }, { on := 14, ground := Ground.guard }], guard := some (14, false) }) (v := undef) rfl (by kernel_rfl) (by kernel_rfl) (by kernel_rfl) (fun _ _ _ h => h)
    (Or.inr ⟨by rfl, rfl⟩) hHeld ?_
  try simp only [Act.put, List.setIfInBounds_toArray, List.set_cons_zero, List.set_cons_succ]
  refine wpAnyH_take (i := 18) (oi := { dst := some 92, op := Op.pick (Operand.tmp 88) (Operand.const (Value.bool true)) (Operand.tmp 91), type := 4, pos := _, after := #[{ on := 14, ground := Ground.data }, { on := 17, ground := Ground.data }, { on := 11, ground := Ground.guard }], guard := some (11, true) }) (v := .bool true) rfl (by kernel_rfl) (by kernel_rfl) (by kernel_rfl) (fun _ _ _ h => h) (Or.inl ⟨by rfl, ?_⟩) hHeld ?_
  · intro u hu
    go_simp
  try simp only [Act.put, List.setIfInBounds_toArray, List.set_cons_zero, List.set_cons_succ]
  refine wpAnyH_take (i := 19) (oi := { dst := some 93, op := Op.binOp BinOp.eql 4 (Operand.tmp 86) (Operand.tmp 92) 4, type := 4, pos := _, after := #[{ on := 12, ground := Ground.data }, { on := 18, ground := Ground.data }, { on := 11, ground := Ground.guard }], guard := some (11, true) }) (v := .bool true) rfl (by kernel_rfl) (by kernel_rfl) (by kernel_rfl) (fun _ _ _ h => h) (Or.inl ⟨by rfl, ?_⟩) hHeld ?_
  · intro u hu
    go_simp
  try simp only [Act.put, List.setIfInBounds_toArray, List.set_cons_zero, List.set_cons_succ]
  refine wpAnyH_take (i := 20) (oi := { dst := some 94, op := Op.pick (Operand.tmp 85) (Operand.tmp 93) (Operand.const (Value.bool false)), type := 4, pos := _, after := #[{ on := 11, ground := Ground.data }, { on := 19, ground := Ground.data }], guard := none }) (v := .bool true) rfl (by kernel_rfl) (by kernel_rfl) (by kernel_rfl) (fun _ _ _ h => h) (Or.inl ⟨by rfl, ?_⟩) hHeld ?_
  · intro u hu
    go_simp
  try simp only [Act.put, List.setIfInBounds_toArray, List.set_cons_zero, List.set_cons_succ]
  refine wpAnyH_take (i := 21) (oi := { dst := some 95, op := Op.move (Operand.tmp 94), type := 4, pos := _, after := #[{ on := 20, ground := Ground.data }, { on := 14, ground := Ground.chain }], guard := none }) (v := .bool true) rfl (by kernel_rfl) (by kernel_rfl) (by kernel_rfl) (fun _ _ _ h => h) (Or.inl ⟨by rfl, ?_⟩) hHeld ?_
  · intro u hu
    go_simp
  try simp only [Act.put, List.setIfInBounds_toArray, List.set_cons_zero, List.set_cons_succ]
  refine wpAnyH_take (i := 22) (oi := { dst := some 96, op := Op.load 23 (Operand.tmp 13), type := 23, pos := _, after := #[{ on := 21, ground := Ground.guard }], guard := some (21, true) }) (v := .agg q.cs.toArray) rfl (by kernel_rfl) (by kernel_rfl) (by kernel_rfl) (fun _ _ _ h => h)
    (yields_row 23 54 arrL (by rfl) (.tmp 13) rfl gq (by rfl) q.l hq (fun u hu => rq.later hu)) hHeld ?_
  try simp only [Act.put, List.setIfInBounds_toArray, List.set_cons_zero, List.set_cons_succ]
  refine wpAnyH_take (i := 23) (oi := { dst := some 97, op := Op.load 23 (Operand.tmp 4), type := 23, pos := _, after := #[{ on := 21, ground := Ground.guard }], guard := some (21, true) }) (v := .agg p.cs.toArray) rfl (by kernel_rfl) (by kernel_rfl) (by kernel_rfl) (fun _ _ _ h => h)
    (yields_row 23 54 arrL (by rfl) (.tmp 4) rfl g0 (by rfl) p.l hp (fun u hu => rp.later hu)) hHeld ?_
  try simp only [Act.put, List.setIfInBounds_toArray, List.set_cons_zero, List.set_cons_succ]
  refine wpAnyH_take (i := 24) (oi := { dst := some 98, op := Op.binOp BinOp.eql 23 (Operand.tmp 96) (Operand.tmp 97) 23, type := 4, pos := _, after := #[{ on := 22, ground := Ground.data }, { on := 23, ground := Ground.data }, { on := 21, ground := Ground.guard }], guard := some (21, true) }) (v := .bool true) rfl (by kernel_rfl) (by kernel_rfl) (by kernel_rfl) (fun _ _ _ h => h) (Or.inl ⟨by rfl, ?_⟩) hHeld ?_
  · intro u hu
    go_simp
  try simp only [Act.put, List.setIfInBounds_toArray, List.set_cons_zero, List.set_cons_succ]
  refine wpAnyH_take (i := 25) (oi := { dst := some 99, op := Op.move (Operand.tmp 11), type := 4, pos := _, after := #[{ on := 21, ground := Ground.guard }], guard := some (21, true) }) (v := .bool true) rfl (by kernel_rfl) (by kernel_rfl) (by kernel_rfl) (fun _ _ _ h => h) (Or.inl ⟨by rfl, ?_⟩) hHeld ?_
  · intro u hu
    go_simp
  try simp only [Act.put, List.setIfInBounds_toArray, List.set_cons_zero, List.set_cons_succ]
  refine wpAnyH_take (i := 26) (oi := { dst := some 100, op := Op.binOp BinOp.eql 4 (Operand.tmp 98) (Operand.tmp 99) 4, type := 4, pos := _, after := #[{ on := 24, ground := Ground.data }, { on := 25, ground := Ground.data }, { on := 21, ground := Ground.guard }], guard := some (21, true) }) (v := .bool true) rfl (by kernel_rfl) (by kernel_rfl) (by kernel_rfl) (fun _ _ _ h => h) (Or.inl ⟨by rfl, ?_⟩) hHeld ?_
  · intro u hu
    go_simp
  try simp only [Act.put, List.setIfInBounds_toArray, List.set_cons_zero, List.set_cons_succ]
  refine wpAnyH_take (i := 27) (oi := { dst := some 101, op := Op.pick (Operand.tmp 95) (Operand.tmp 100) (Operand.const (Value.bool false)), type := 4, pos := _, after := #[{ on := 21, ground := Ground.data }, { on := 26, ground := Ground.data }], guard := none }) (v := .bool true) rfl (by kernel_rfl) (by kernel_rfl) (by kernel_rfl) (fun _ _ _ h => h) (Or.inl ⟨by rfl, ?_⟩) hHeld ?_
  · intro u hu
    go_simp
  try simp only [Act.put, List.setIfInBounds_toArray, List.set_cons_zero, List.set_cons_succ]
  refine wpAnyH_take (i := 28) (oi := { dst := some 102, op := Op.move (Operand.tmp 101), type := 4, pos := _, after := #[{ on := 27, ground := Ground.data }, { on := 21, ground := Ground.chain }], guard := none }) (v := .bool true) rfl (by kernel_rfl) (by kernel_rfl) (by kernel_rfl) (fun _ _ _ h => h) (Or.inl ⟨by rfl, ?_⟩) hHeld ?_
  · intro u hu
    go_simp
  try simp only [Act.put, List.setIfInBounds_toArray, List.set_cons_zero, List.set_cons_succ]
  refine wpAnyH_take (i := 29) (oi := { dst := some 103, op := Op.move (Operand.tmp 11), type := 4, pos := _, after := #[{ on := 28, ground := Ground.guard }], guard := some (28, true) }) (v := .bool true) rfl (by kernel_rfl) (by kernel_rfl) (by kernel_rfl) (fun _ _ _ h => h) (Or.inl ⟨by rfl, ?_⟩) hHeld ?_
  · intro u hu
    go_simp
  try simp only [Act.put, List.setIfInBounds_toArray, List.set_cons_zero, List.set_cons_succ]
  refine wpAnyH_take (i := 30) (oi := { dst := some 104, op := Op.move (Operand.tmp 103), type := 4, pos := _, after := #[{ on := 29, ground := Ground.data }, { on := 28, ground := Ground.chain }, { on := 28, ground := Ground.guard }], guard := some (28, true) }) (v := .bool true) rfl (by kernel_rfl) (by kernel_rfl) (by kernel_rfl) (fun _ _ _ h => h) (Or.inl ⟨by rfl, ?_⟩) hHeld ?_
  · intro u hu
    go_simp
  try simp only [Act.put, List.setIfInBounds_toArray, List.set_cons_zero, List.set_cons_succ]
  refine wpAnyH_take (i := 31) (oi := { dst := some 105, op := Op.move (Operand.tmp 21), type := 3, pos := _, after := #[{ on := 30, ground := Ground.guard }], guard := some (30, false) }) (v := undef) rfl (by kernel_rfl) (by kernel_rfl) (by kernel_rfl) (fun _ _ _ h => h)
    (Or.inr ⟨by rfl, rfl⟩) hHeld ?_
  try simp only [Act.put, List.setIfInBounds_toArray, List.set_cons_zero, List.set_cons_succ]
  refine wpAnyH_take (i := 32) (oi := { dst := some 106, op := Op.indexAddr 23 (Operand.tmp 13) (Operand.tmp 105), type := 0, pos := _, after := #[{ on := 31, ground := Ground.data }, { on := 30, ground := Ground.guard }], guard := some (30, false) }) (v := undef) rfl (by kernel_rfl) (by kernel_rfl) (by kernel_rfl) (fun _ _ _ h => h)
    (Or.inr ⟨by rfl, rfl⟩) hHeld ?_
  try simp only [Act.put, List.setIfInBounds_toArray, List.set_cons_zero, List.set_cons_succ]
  refine wpAnyH_take (i := 33) (oi := { dst := some 107, op := Op.load 5 (Operand.tmp 106), type := 5, pos := _, after := #[{ on := 32, ground := Ground.data }, { on := 30, ground := Ground.guard }], guard := some (30, false) }) (v := undef) rfl (by kernel_rfl) (by kernel_rfl) (by kernel_rfl) (fun _ _ _ h => h)
    (Or.inr ⟨by rfl, rfl⟩) hHeld ?_
  try simp only [Act.put, List.setIfInBounds_toArray, List.set_cons_zero, List.set_cons_succ]
  refine wpAnyH_take (i := 34) (oi := { dst := some 108, op := Op.move (Operand.tmp 21), type := 3, pos := _, after := #[{ on := 30, ground := Ground.guard }], guard := some (30, false) }) (v := undef) rfl (by kernel_rfl) (by kernel_rfl) (by kernel_rfl) (fun _ _ _ h => h)
    (Or.inr ⟨by rfl, rfl⟩) hHeld ?_
  try simp only [Act.put, List.setIfInBounds_toArray, List.set_cons_zero, List.set_cons_succ]
  refine wpAnyH_take (i := 35) (oi := { dst := some 109, op := Op.indexAddr 23 (Operand.tmp 4) (Operand.tmp 108), type := 0, pos := _, after := #[{ on := 34, ground := Ground.data }, { on := 30, ground := Ground.guard }], guard := some (30, false) }) (v := undef) rfl (by kernel_rfl) (by kernel_rfl) (by kernel_rfl) (fun _ _ _ h => h)
    (Or.inr ⟨by rfl, rfl⟩) hHeld ?_
  try simp only [Act.put, List.setIfInBounds_toArray, List.set_cons_zero, List.set_cons_succ]
  refine wpAnyH_take (i := 36) (oi := { dst := some 110, op := Op.load 5 (Operand.tmp 109), type := 5, pos := _, after := #[{ on := 35, ground := Ground.data }, { on := 30, ground := Ground.guard }], guard := some (30, false) }) (v := undef) rfl (by kernel_rfl) (by kernel_rfl) (by kernel_rfl) (fun _ _ _ h => h)
    (Or.inr ⟨by rfl, rfl⟩) hHeld ?_
  try simp only [Act.put, List.setIfInBounds_toArray, List.set_cons_zero, List.set_cons_succ]
  refine wpAnyH_take (i := 37) (oi := { dst := some 111, op := Op.binOp BinOp.neq 5 (Operand.tmp 107) (Operand.tmp 110) 5, type := 4, pos := _, after := #[{ on := 33, ground := Ground.data }, { on := 36, ground := Ground.data }, { on := 30, ground := Ground.guard }], guard := some (30, false) }) (v := undef) rfl (by kernel_rfl) (by kernel_rfl) (by kernel_rfl) (fun _ _ _ h => h)
    (Or.inr ⟨by rfl, rfl⟩) hHeld ?_
  try simp only [Act.put, List.setIfInBounds_toArray, List.set_cons_zero, List.set_cons_succ]
  refine wpAnyH_take (i := 38) (oi := { dst := some 112, op := Op.pick (Operand.tmp 104) (Operand.const (Value.bool true)) (Operand.tmp 111), type := 4, pos := _, after := #[{ on := 30, ground := Ground.data }, { on := 37, ground := Ground.data }, { on := 28, ground := Ground.guard }], guard := some (28, true) }) (v := .bool true) rfl (by kernel_rfl) (by kernel_rfl) (by kernel_rfl) (fun _ _ _ h => h) (Or.inl ⟨by rfl, ?_⟩) hHeld ?_
  · intro u hu
    go_simp
  try simp only [Act.put, List.setIfInBounds_toArray, List.set_cons_zero, List.set_cons_succ]
  refine wpAnyH_take (i := 39) (oi := { dst := some 113, op := Op.pick (Operand.tmp 102) (Operand.tmp 112) (Operand.const (Value.bool false)), type := 4, pos := _, after := #[{ on := 28, ground := Ground.data }, { on := 38, ground := Ground.data }], guard := none }) (v := .bool true) rfl (by kernel_rfl) (by kernel_rfl) (by kernel_rfl) (fun _ _ _ h => h) (Or.inl ⟨by rfl, ?_⟩) hHeld ?_
  · intro u hu
    go_simp
  try simp only [Act.put, List.setIfInBounds_toArray, List.set_cons_zero, List.set_cons_succ]
  refine wpAnyH_take (i := 40) (oi := { dst := some 8, op := Op.assign (Operand.tmp 113), type := 4, pos := _, after := #[{ on := 39, ground := Ground.data }, { on := 30, ground := Ground.chain }, { on := 0, ground := Ground.phase }, { on := 1, ground := Ground.phase }, { on := 2, ground := Ground.phase }, { on := 3, ground := Ground.phase }, { on := 4, ground := Ground.phase }, { on := 5, ground := Ground.phase }, { on := 6, ground := Ground.phase }, { on := 7, ground := Ground.phase }, { on := 8, ground := Ground.phase }, { on := 9, ground := Ground.phase }, { on := 10, ground := Ground.phase }, { on := 11, ground := Ground.phase }, { on := 12, ground := Ground.phase }, { on := 13, ground := Ground.phase }, { on := 14, ground := Ground.phase }, { on := 15, ground := Ground.phase }, { on := 16, ground := Ground.phase }, { on := 17, ground := Ground.phase }, { on := 18, ground := Ground.phase }, { on := 19, ground := Ground.phase }, { on := 20, ground := Ground.phase }, { on := 21, ground := Ground.phase }, { on := 22, ground := Ground.phase }, { on := 23, ground := Ground.phase }, { on := 24, ground := Ground.phase }, { on := 25, ground := Ground.phase }, { on := 26, ground := Ground.phase }, { on := 27, ground := Ground.phase }, { on := 28, ground := Ground.phase }, { on := 29, ground := Ground.phase }, { on := 30, ground := Ground.phase }, { on := 31, ground := Ground.phase }, { on := 32, ground := Ground.phase }, { on := 33, ground := Ground.phase }, { on := 34, ground := Ground.phase }, { on := 35, ground := Ground.phase }, { on := 36, ground := Ground.phase }, { on := 37, ground := Ground.phase }, { on := 38, ground := Ground.phase }, { on := 39, ground := Ground.phase }], guard := none }) (v := .bool true) rfl (by kernel_rfl) (by kernel_rfl) (by kernel_rfl) (fun _ _ _ h => h) (Or.inl ⟨by rfl, ?_⟩) hHeld ?_
  · intro u hu
    go_simp
  try simp only [Act.put, List.setIfInBounds_toArray, List.set_cons_zero, List.set_cons_succ]
  refine wpAnyH_done (by kernel_rfl) ?_ _
  go_wp2_with fail
  go_returns
  exact ⟨rfl, (S.next (Stp.of_below hHeld (fun _ => False)) (fun _ h => h.elim)).below (Nat.le_refl _) (fun _ h => h)⟩
set_option maxRecDepth 100000 in
set_option maxHeartbeats 8000000 in
theorem walk_i_tf (p q : Ld) (a c : Int) (i j : Nat) (y d : Bool) (at' : Nat) (w : World) (hai : among a 24 = i) (hcj : among c 24 = j) (F : Facts p q 4 i j false true y d at') :
    Calls Try.prog 5 #[.agg p.cs.toArray, .bool true, .int .i64 a, .int .i64 c] w fun e w' => e = .returned (.bool true) ∧ Below w.heap.size w w' := by
  have hp := p.len
  have hq := q.len
  obtain rfl : y = true := F.fo
  have A1 := among_24 a
  have A2 := among_24 c
  rw [hai] at A1
  rw [hcj] at A2
  have G1 := fun w => taken_any p 4 (i : Int) w (by decide)
  have G2 := fun w => mwith_any p 4 (i : Int) true w (by decide)
  have G3 := fun w => taken_any p 4 (j : Int) w (by decide)
  have G4 := fun w => taken_any q 4 (j : Int) w (by decide)
  have G5 := fun w => mwith_any q 4 (i : Int) false w (by decide)
  have G6 := fun w => byte_any 4 (i : Int) w (by decide)
  rw [F.fw, F.err] at G1
  rw [F.eq, F.err] at G2
  rw [F.fx, F.errj] at G3
  rw [F.fy, F.errj] at G4
  rw [F.back, F.err] at G5
  rw [F.at_is, F.err] at G6
  have hlt := F.at_lt
  have hsame := F.same
  have hby := F.byte
  have hdB : ((i : Int) == (j : Int)) = d := by rcases F.fd with ⟨rfl, e⟩ | ⟨rfl, e⟩ <;> simp [e]
  obtain ⟨bq, hbq⟩ : ∃ z : Int, Hid (((q.l.getD at' 0).toNat : Int) = z) := ⟨_, rfl⟩
  obtain ⟨bp, hbp⟩ : ∃ z : Int, Hid (((p.l.getD at' 0).toNat : Int) = z) := ⟨_, rfl⟩
  rw [hbq.out, hbp.out] at hby
  have hi := F.hi
  have hj := F.hj
  have H1 : Hid _ := G1
  have H2 : Hid _ := G2
  have H3 : Hid _ := G3
  have H4 : Hid _ := G4
  have H5 : Hid _ := G5
  have H6 : Hid _ := G6
  have HA1 : Hid _ := A1
  have HA2 : Hid _ := A2
  clear G1 G2 G3 G4 G5 G6 A1 A2 F hai hcj
  have qP : ∀ w, (Op.equalIn 10000 23 (.agg p.cs.toArray) (.agg p.cs.toArray)).run Try.prog w = .ok true w := fun w => by rw [eqL]; simp
  have qQ : ∀ w, (Op.equalIn 10000 23 (.agg q.cs.toArray) (.agg p.cs.toArray)).run Try.prog w = .ok false w := fun w => by rw [eqL, hsame]
  have gL := guardL
  clear hsame
  have t1 : True := trivial
  have t2 : True := trivial
  have t3 : True := trivial
  go_enter Try.func5, Try.ntmps5
  go_wp2_with (first
    | (refine at_box 23 54 arrL (by rfl) _ (by rfl) p.l (by rfl) hp ?_; intro g0 u0 a0 z0 r0 b0)
    | (go_at_call 18; refine (works_any _).mono ?_; rintro e u1 ⟨rfl, b1⟩; have rp1 := r0.later b1; have B1 := bnext b0 b1 (Nat.le_refl _); clear r0 b0 b1)
    | (have _t := t1; go_at_call 25; refine (HA1.out _).mono ?_; rintro e w' ⟨rfl, rfl⟩; clear _t t1)
    | (go_at_call 25; refine (HA2.out _).mono ?_; rintro e w' ⟨rfl, rfl⟩)
    | (refine at_getL (by rfl) _ (by rfl) g0 (by rfl) p rp5 ?_)
    | (refine at_getL (by rfl) _ (by rfl) g0 (by rfl) p rp2 ?_)
    | (refine at_getL (by rfl) _ (by rfl) g0 (by rfl) p rp1 ?_)
    | (refine at_getL (by rfl) _ (by rfl) gq (by rfl) q rq7 ?_)
    | (refine at_getL (by rfl) _ (by rfl) gq (by rfl) q rq6 ?_)
    | (have _t := t2; go_at_call 10; refine (H1.out _).mono ?_; rintro e u2 ⟨rfl, b2⟩; clear _t t2; have rp2 := rp1.later b2; have B2 := bnext B1 b2 (Nat.le_refl _); clear rp1 B1 b2)
    | (have _t := t3; go_at_call 12; refine (H2.out _).mono ?_; rintro e u3 ⟨rfl, b3⟩; clear _t)
    | (have _t := t3; refine at_new 23 54 arrL (by rfl) (by rfl) ?_; intro gq u4 a4 z4 r4 b4; clear _t)
    | (have _t := t3; refine at_put 23 54 arrL (by rfl) _ _ (by rfl) gq (by rfl) q.l (by rfl) hq _ r4 (by simp) ?_; intro u5 rq5 s5; clear _t t3
       have rp5 : Row u5 g0 p.l := ((rp2.later b3).later b4).step s5 (by have := rp2.lt; have := b3.size; omega)
       have S5 : Stp (fun x => w.heap.size ≤ x) w u5 := (Stp.of_below (bnext (bnext B2 b3 (Nat.le_refl _)) b4 (Nat.le_refl _)) (fun x => w.heap.size ≤ x)).next s5 (fun x hx => .inl (by subst hx; have := B2.size; have := b3.size; omega))
       clear rp2 B2 r4 b3 b4 s5 a4 z4
       have t4 : True := trivial)
    | (have _t := t4; go_at_call 10; refine (H3.out _).mono ?_; rintro e u6 ⟨rfl, b6⟩; clear _t t4; have rp6 := rp5.later b6; have rq6 := rq5.later b6; have S6 := S5.next (Stp.of_below b6 (fun _ => False)) (fun _ h => h.elim); clear rp5 rq5 S5 b6)
    | (go_at_call 10; refine (H4.out _).mono ?_; rintro e u7 ⟨rfl, b7⟩; have rp7 := rp6.later b7; have rq7 := rq6.later b7; have S7 := S6.next (Stp.of_below b7 (fun _ => False)) (fun _ h => h.elim); clear rp6 rq6 S6 b7)
    | (go_at_call 12; refine (H5.out _).mono ?_; rintro e u8 ⟨rfl, b8⟩)
    | (refine at_new 23 54 arrL (by rfl) (by rfl) ?_; intro gr u9 a9 z9 r9 b9)
    | (refine at_put 23 54 arrL (by rfl) _ _ (by rfl) gr (by rfl) p.l (by rfl) hp _ r9 (by simp) ?_; intro u10 rr10 s10
       have rp10 : Row u10 g0 p.l := ((rp7.later b8).later b9).step s10 (by have := rp7.lt; have := b8.size; omega)
       have rq10 : Row u10 gq q.l := ((rq7.later b8).later b9).step s10 (by have := rq7.lt; have := b8.size; omega)
       have S10 := (S7.next (Stp.of_below (bnext b8 b9 (Nat.le_refl _)) (fun _ => False)) (fun _ h => h.elim)).next s10 (fun x hx => .inl (by subst hx; have := S7.size; have := b8.size; omega))
       clear rp7 rq7 S7 r9 b8 b9 s10 a9 z9)
    | (go_at_call 14; refine (H6.out _).mono ?_; rintro e W ⟨rfl, b11⟩
       have rp := rp10.later b11
       have rq := rq10.later b11
       have rr := rr10.later b11
       have S := S10.next (Stp.of_below b11 (fun _ => False)) (fun _ h => h.elim)
       clear rp10 rq10 rr10 S10 b11))
  clear H1 H2 H3 H4 H5 H6 HA1 HA2
  refine wp_region_held_drew (S := fun u => Below W.heap.size W u) (by kernel_rfl) (Below.refl _ _).drew (fun hHeld => ?_)
  refine wpAnyH_take (i := 0) (oi := { dst := some 74, op := Op.move (Operand.tmp 14), type := 24, pos := _, after := #[], guard := none }) (v := .int .i64 0) rfl (by kernel_rfl) (by kernel_rfl) (by kernel_rfl) (fun _ _ _ h => h) (Or.inl ⟨by rfl, ?_⟩) hHeld ?_
  · intro u hu
    go_simp
  try simp only [Act.put, List.setIfInBounds_toArray, List.set_cons_zero, List.set_cons_succ]
  refine wpAnyH_take (i := 1) (oi := { dst := some 75, op := Op.binOp BinOp.eql 24 (Operand.tmp 74) (Operand.const (Value.int IntKind.i64 0)) 24, type := 4, pos := _, after := #[{ on := 0, ground := Ground.data }], guard := none }) (v := .bool true) rfl (by kernel_rfl) (by kernel_rfl) (by kernel_rfl) (fun _ _ _ h => h) (Or.inl ⟨by rfl, ?_⟩) hHeld ?_
  · intro u hu
    go_simp
  try simp only [Act.put, List.setIfInBounds_toArray, List.set_cons_zero, List.set_cons_succ]
  refine wpAnyH_take (i := 2) (oi := { dst := some 76, op := Op.move (Operand.tmp 75), type := 4, pos := _, after := #[{ on := 1, ground := Ground.data }], guard := none }) (v := .bool true) rfl (by kernel_rfl) (by kernel_rfl) (by kernel_rfl) (fun _ _ _ h => h) (Or.inl ⟨by rfl, ?_⟩) hHeld ?_
  · intro u hu
    go_simp
  try simp only [Act.put, List.setIfInBounds_toArray, List.set_cons_zero, List.set_cons_succ]
  refine wpAnyH_take (i := 3) (oi := { dst := some 77, op := Op.move (Operand.tmp 20), type := 24, pos := _, after := #[{ on := 2, ground := Ground.guard }], guard := some (2, true) }) (v := .int .i64 0) rfl (by kernel_rfl) (by kernel_rfl) (by kernel_rfl) (fun _ _ _ h => h) (Or.inl ⟨by rfl, ?_⟩) hHeld ?_
  · intro u hu
    go_simp
  try simp only [Act.put, List.setIfInBounds_toArray, List.set_cons_zero, List.set_cons_succ]
  refine wpAnyH_take (i := 4) (oi := { dst := some 78, op := Op.binOp BinOp.eql 24 (Operand.tmp 77) (Operand.const (Value.int IntKind.i64 0)) 24, type := 4, pos := _, after := #[{ on := 3, ground := Ground.data }, { on := 2, ground := Ground.guard }], guard := some (2, true) }) (v := .bool true) rfl (by kernel_rfl) (by kernel_rfl) (by kernel_rfl) (fun _ _ _ h => h) (Or.inl ⟨by rfl, ?_⟩) hHeld ?_
  · intro u hu
    go_simp
  try simp only [Act.put, List.setIfInBounds_toArray, List.set_cons_zero, List.set_cons_succ]
  refine wpAnyH_take (i := 5) (oi := { dst := some 79, op := Op.pick (Operand.tmp 76) (Operand.tmp 78) (Operand.const (Value.bool false)), type := 4, pos := _, after := #[{ on := 2, ground := Ground.data }, { on := 4, ground := Ground.data }], guard := none }) (v := .bool true) rfl (by kernel_rfl) (by kernel_rfl) (by kernel_rfl) (fun _ _ _ h => h) (Or.inl ⟨by rfl, ?_⟩) hHeld ?_
  · intro u hu
    go_simp
  try simp only [Act.put, List.setIfInBounds_toArray, List.set_cons_zero, List.set_cons_succ]
  refine wpAnyH_take (i := 6) (oi := { dst := some 80, op := Op.move (Operand.tmp 79), type := 4, pos := _, after := #[{ on := 5, ground := Ground.data }, { on := 2, ground := Ground.chain }], guard := none }) (v := .bool true) rfl (by kernel_rfl) (by kernel_rfl) (by kernel_rfl) (fun _ _ _ h => h) (Or.inl ⟨by rfl, ?_⟩) hHeld ?_
  · intro u hu
    go_simp
  try simp only [Act.put, List.setIfInBounds_toArray, List.set_cons_zero, List.set_cons_succ]
  refine wpAnyH_take (i := 7) (oi := { dst := some 81, op := Op.load 23 (Operand.tmp 19), type := 23, pos := _, after := #[{ on := 6, ground := Ground.guard }], guard := some (6, true) }) (v := .agg p.cs.toArray) rfl (by kernel_rfl) (by kernel_rfl) (by kernel_rfl) (fun _ _ _ h => h)
    (yields_row 23 54 arrL (by rfl) (.tmp 19) rfl gr (by rfl) p.l hp (fun u hu => rr.later hu)) hHeld ?_
  try simp only [Act.put, List.setIfInBounds_toArray, List.set_cons_zero, List.set_cons_succ]
  refine wpAnyH_take (i := 8) (oi := { dst := some 82, op := Op.load 23 (Operand.tmp 4), type := 23, pos := _, after := #[{ on := 6, ground := Ground.guard }], guard := some (6, true) }) (v := .agg p.cs.toArray) rfl (by kernel_rfl) (by kernel_rfl) (by kernel_rfl) (fun _ _ _ h => h)
    (yields_row 23 54 arrL (by rfl) (.tmp 4) rfl g0 (by rfl) p.l hp (fun u hu => rp.later hu)) hHeld ?_
  try simp only [Act.put, List.setIfInBounds_toArray, List.set_cons_zero, List.set_cons_succ]
  refine wpAnyH_take (i := 9) (oi := { dst := some 83, op := Op.binOp BinOp.eql 23 (Operand.tmp 81) (Operand.tmp 82) 23, type := 4, pos := _, after := #[{ on := 7, ground := Ground.data }, { on := 8, ground := Ground.data }, { on := 6, ground := Ground.guard }], guard := some (6, true) }) (v := .bool true) rfl (by kernel_rfl) (by kernel_rfl) (by kernel_rfl) (fun _ _ _ h => h) (Or.inl ⟨by rfl, ?_⟩) hHeld ?_
  · intro u hu
    go_simp
  try simp only [Act.put, List.setIfInBounds_toArray, List.set_cons_zero, List.set_cons_succ]
  refine wpAnyH_take (i := 10) (oi := { dst := some 84, op := Op.pick (Operand.tmp 80) (Operand.tmp 83) (Operand.const (Value.bool false)), type := 4, pos := _, after := #[{ on := 6, ground := Ground.data }, { on := 9, ground := Ground.data }], guard := none }) (v := .bool true) rfl (by kernel_rfl) (by kernel_rfl) (by kernel_rfl) (fun _ _ _ h => h) (Or.inl ⟨by rfl, ?_⟩) hHeld ?_
  · intro u hu
    go_simp
  try simp only [Act.put, List.setIfInBounds_toArray, List.set_cons_zero, List.set_cons_succ]
  refine wpAnyH_take (i := 11) (oi := { dst := some 85, op := Op.move (Operand.tmp 84), type := 4, pos := _, after := #[{ on := 10, ground := Ground.data }, { on := 6, ground := Ground.chain }], guard := none }) (v := .bool true) rfl (by kernel_rfl) (by kernel_rfl) (by kernel_rfl) (fun _ _ _ h => h) (Or.inl ⟨by rfl, ?_⟩) hHeld ?_
  · intro u hu
    go_simp
  try simp only [Act.put, List.setIfInBounds_toArray, List.set_cons_zero, List.set_cons_succ]
  refine wpAnyH_take (i := 12) (oi := { dst := some 86, op := Op.move (Operand.tmp 17), type := 4, pos := _, after := #[{ on := 11, ground := Ground.guard }], guard := some (11, true) }) (v := .bool true) rfl (by kernel_rfl) (by kernel_rfl) (by kernel_rfl) (fun _ _ _ h => h) (Or.inl ⟨by rfl, ?_⟩) hHeld ?_
  · intro u hu
    go_simp
  try simp only [Act.put, List.setIfInBounds_toArray, List.set_cons_zero, List.set_cons_succ]
  refine wpAnyH_take (i := 13) (oi := { dst := some 87, op := Op.move (Operand.tmp 15), type := 4, pos := _, after := #[{ on := 11, ground := Ground.guard }], guard := some (11, true) }) (v := .bool true) rfl (by kernel_rfl) (by kernel_rfl) (by kernel_rfl) (fun _ _ _ h => h) (Or.inl ⟨by rfl, ?_⟩) hHeld ?_
  · intro u hu
    go_simp
  try simp only [Act.put, List.setIfInBounds_toArray, List.set_cons_zero, List.set_cons_succ]
  refine wpAnyH_take (i := 14) (oi := { dst := some 88, op := Op.move (Operand.tmp 87), type := 4, pos := _, after := #[{ on := 13, ground := Ground.data }, { on := 11, ground := Ground.chain }, { on := 11, ground := Ground.guard }], guard := some (11, true) }) (v := .bool true) rfl (by kernel_rfl) (by kernel_rfl) (by kernel_rfl) (fun _ _ _ h => h) (Or.inl ⟨by rfl, ?_⟩) hHeld ?_
  · intro u hu
    go_simp
  try simp only [Act.put, List.setIfInBounds_toArray, List.set_cons_zero, List.set_cons_succ]
  refine wpAnyH_take (i := 15) (oi := { dst := some 89, op := Op.move (Operand.tmp 2), type := 3, pos := _, after := #[{ on := 14, ground := Ground.guard }], guard := some (14, false) }) (v := undef) rfl (by kernel_rfl) (by kernel_rfl) (by kernel_rfl) (fun _ _ _ h => h)
    (Or.inr ⟨by rfl, rfl⟩) hHeld ?_
  try simp only [Act.put, List.setIfInBounds_toArray, List.set_cons_zero, List.set_cons_succ]
  refine wpAnyH_take (i := 16) (oi := { dst := some 90, op := Op.move (Operand.tmp 3), type := 3, pos := _, after := #[{ on := 14, ground := Ground.guard }], guard := some (14, false) }) (v := undef) rfl (by kernel_rfl) (by kernel_rfl) (by kernel_rfl) (fun _ _ _ h => h)
    (Or.inr ⟨by rfl, rfl⟩) hHeld ?_
  try simp only [Act.put, List.setIfInBounds_toArray, List.set_cons_zero, List.set_cons_succ]
  refine wpAnyH_take (i := 17) (oi := { dst := some 91, op := Op.binOp BinOp.eql 3 (Operand.tmp 89) (Operand.tmp 90) 3, type := 4, pos := _, after := #[{ on := 15, ground := Ground.data }, { on := 16, ground := Ground.data }, { on := 14, ground := Ground.guard }], guard := some (14, false) }) (v := undef) rfl (by kernel_rfl) (by kernel_rfl) (by kernel_rfl) (fun _ _ _ h => h)
    (Or.inr ⟨by rfl, rfl⟩) hHeld ?_
  try simp only [Act.put, List.setIfInBounds_toArray, List.set_cons_zero, List.set_cons_succ]
  refine wpAnyH_take (i := 18) (oi := { dst := some 92, op := Op.pick (Operand.tmp 88) (Operand.const (Value.bool true)) (Operand.tmp 91), type := 4, pos := _, after := #[{ on := 14, ground := Ground.data }, { on := 17, ground := Ground.data }, { on := 11, ground := Ground.guard }], guard := some (11, true) }) (v := .bool true) rfl (by kernel_rfl) (by kernel_rfl) (by kernel_rfl) (fun _ _ _ h => h) (Or.inl ⟨by rfl, ?_⟩) hHeld ?_
  · intro u hu
    go_simp
  try simp only [Act.put, List.setIfInBounds_toArray, List.set_cons_zero, List.set_cons_succ]
  refine wpAnyH_take (i := 19) (oi := { dst := some 93, op := Op.binOp BinOp.eql 4 (Operand.tmp 86) (Operand.tmp 92) 4, type := 4, pos := _, after := #[{ on := 12, ground := Ground.data }, { on := 18, ground := Ground.data }, { on := 11, ground := Ground.guard }], guard := some (11, true) }) (v := .bool true) rfl (by kernel_rfl) (by kernel_rfl) (by kernel_rfl) (fun _ _ _ h => h) (Or.inl ⟨by rfl, ?_⟩) hHeld ?_
  · intro u hu
    go_simp
  try simp only [Act.put, List.setIfInBounds_toArray, List.set_cons_zero, List.set_cons_succ]
  refine wpAnyH_take (i := 20) (oi := { dst := some 94, op := Op.pick (Operand.tmp 85) (Operand.tmp 93) (Operand.const (Value.bool false)), type := 4, pos := _, after := #[{ on := 11, ground := Ground.data }, { on := 19, ground := Ground.data }], guard := none }) (v := .bool true) rfl (by kernel_rfl) (by kernel_rfl) (by kernel_rfl) (fun _ _ _ h => h) (Or.inl ⟨by rfl, ?_⟩) hHeld ?_
  · intro u hu
    go_simp
  try simp only [Act.put, List.setIfInBounds_toArray, List.set_cons_zero, List.set_cons_succ]
  refine wpAnyH_take (i := 21) (oi := { dst := some 95, op := Op.move (Operand.tmp 94), type := 4, pos := _, after := #[{ on := 20, ground := Ground.data }, { on := 14, ground := Ground.chain }], guard := none }) (v := .bool true) rfl (by kernel_rfl) (by kernel_rfl) (by kernel_rfl) (fun _ _ _ h => h) (Or.inl ⟨by rfl, ?_⟩) hHeld ?_
  · intro u hu
    go_simp
  try simp only [Act.put, List.setIfInBounds_toArray, List.set_cons_zero, List.set_cons_succ]
  refine wpAnyH_take (i := 22) (oi := { dst := some 96, op := Op.load 23 (Operand.tmp 13), type := 23, pos := _, after := #[{ on := 21, ground := Ground.guard }], guard := some (21, true) }) (v := .agg q.cs.toArray) rfl (by kernel_rfl) (by kernel_rfl) (by kernel_rfl) (fun _ _ _ h => h)
    (yields_row 23 54 arrL (by rfl) (.tmp 13) rfl gq (by rfl) q.l hq (fun u hu => rq.later hu)) hHeld ?_
  try simp only [Act.put, List.setIfInBounds_toArray, List.set_cons_zero, List.set_cons_succ]
  refine wpAnyH_take (i := 23) (oi := { dst := some 97, op := Op.load 23 (Operand.tmp 4), type := 23, pos := _, after := #[{ on := 21, ground := Ground.guard }], guard := some (21, true) }) (v := .agg p.cs.toArray) rfl (by kernel_rfl) (by kernel_rfl) (by kernel_rfl) (fun _ _ _ h => h)
    (yields_row 23 54 arrL (by rfl) (.tmp 4) rfl g0 (by rfl) p.l hp (fun u hu => rp.later hu)) hHeld ?_
  try simp only [Act.put, List.setIfInBounds_toArray, List.set_cons_zero, List.set_cons_succ]
  refine wpAnyH_take (i := 24) (oi := { dst := some 98, op := Op.binOp BinOp.eql 23 (Operand.tmp 96) (Operand.tmp 97) 23, type := 4, pos := _, after := #[{ on := 22, ground := Ground.data }, { on := 23, ground := Ground.data }, { on := 21, ground := Ground.guard }], guard := some (21, true) }) (v := .bool false) rfl (by kernel_rfl) (by kernel_rfl) (by kernel_rfl) (fun _ _ _ h => h) (Or.inl ⟨by rfl, ?_⟩) hHeld ?_
  · intro u hu
    go_simp
  try simp only [Act.put, List.setIfInBounds_toArray, List.set_cons_zero, List.set_cons_succ]
  refine wpAnyH_take (i := 25) (oi := { dst := some 99, op := Op.move (Operand.tmp 11), type := 4, pos := _, after := #[{ on := 21, ground := Ground.guard }], guard := some (21, true) }) (v := .bool false) rfl (by kernel_rfl) (by kernel_rfl) (by kernel_rfl) (fun _ _ _ h => h) (Or.inl ⟨by rfl, ?_⟩) hHeld ?_
  · intro u hu
    go_simp
  try simp only [Act.put, List.setIfInBounds_toArray, List.set_cons_zero, List.set_cons_succ]
  refine wpAnyH_take (i := 26) (oi := { dst := some 100, op := Op.binOp BinOp.eql 4 (Operand.tmp 98) (Operand.tmp 99) 4, type := 4, pos := _, after := #[{ on := 24, ground := Ground.data }, { on := 25, ground := Ground.data }, { on := 21, ground := Ground.guard }], guard := some (21, true) }) (v := .bool true) rfl (by kernel_rfl) (by kernel_rfl) (by kernel_rfl) (fun _ _ _ h => h) (Or.inl ⟨by rfl, ?_⟩) hHeld ?_
  · intro u hu
    go_simp
  try simp only [Act.put, List.setIfInBounds_toArray, List.set_cons_zero, List.set_cons_succ]
  refine wpAnyH_take (i := 27) (oi := { dst := some 101, op := Op.pick (Operand.tmp 95) (Operand.tmp 100) (Operand.const (Value.bool false)), type := 4, pos := _, after := #[{ on := 21, ground := Ground.data }, { on := 26, ground := Ground.data }], guard := none }) (v := .bool true) rfl (by kernel_rfl) (by kernel_rfl) (by kernel_rfl) (fun _ _ _ h => h) (Or.inl ⟨by rfl, ?_⟩) hHeld ?_
  · intro u hu
    go_simp
  try simp only [Act.put, List.setIfInBounds_toArray, List.set_cons_zero, List.set_cons_succ]
  refine wpAnyH_take (i := 28) (oi := { dst := some 102, op := Op.move (Operand.tmp 101), type := 4, pos := _, after := #[{ on := 27, ground := Ground.data }, { on := 21, ground := Ground.chain }], guard := none }) (v := .bool true) rfl (by kernel_rfl) (by kernel_rfl) (by kernel_rfl) (fun _ _ _ h => h) (Or.inl ⟨by rfl, ?_⟩) hHeld ?_
  · intro u hu
    go_simp
  try simp only [Act.put, List.setIfInBounds_toArray, List.set_cons_zero, List.set_cons_succ]
  refine wpAnyH_take (i := 29) (oi := { dst := some 103, op := Op.move (Operand.tmp 11), type := 4, pos := _, after := #[{ on := 28, ground := Ground.guard }], guard := some (28, true) }) (v := .bool false) rfl (by kernel_rfl) (by kernel_rfl) (by kernel_rfl) (fun _ _ _ h => h) (Or.inl ⟨by rfl, ?_⟩) hHeld ?_
  · intro u hu
    go_simp
  try simp only [Act.put, List.setIfInBounds_toArray, List.set_cons_zero, List.set_cons_succ]
  refine wpAnyH_take (i := 30) (oi := { dst := some 104, op := Op.move (Operand.tmp 103), type := 4, pos := _, after := #[{ on := 29, ground := Ground.data }, { on := 28, ground := Ground.chain }, { on := 28, ground := Ground.guard }], guard := some (28, true) }) (v := .bool false) rfl (by kernel_rfl) (by kernel_rfl) (by kernel_rfl) (fun _ _ _ h => h) (Or.inl ⟨by rfl, ?_⟩) hHeld ?_
  · intro u hu
    go_simp
  try simp only [Act.put, List.setIfInBounds_toArray, List.set_cons_zero, List.set_cons_succ]
  refine wpAnyH_take (i := 31) (oi := { dst := some 105, op := Op.move (Operand.tmp 21), type := 3, pos := _, after := #[{ on := 30, ground := Ground.guard }], guard := some (30, false) }) (v := .int .i64 (at' : Int)) rfl (by kernel_rfl) (by kernel_rfl) (by kernel_rfl) (fun _ _ _ h => h) (Or.inl ⟨by rfl, ?_⟩) hHeld ?_
  · intro u hu
    go_simp
  try simp only [Act.put, List.setIfInBounds_toArray, List.set_cons_zero, List.set_cons_succ]
  refine wpAnyH_take (i := 32) (oi := { dst := some 106, op := Op.indexAddr 23 (Operand.tmp 13) (Operand.tmp 105), type := 0, pos := _, after := #[{ on := 31, ground := Ground.data }, { on := 30, ground := Ground.guard }], guard := some (30, false) }) (v := .pointer (some ⟨gq, at', none⟩)) rfl (by kernel_rfl) (by kernel_rfl) (by kernel_rfl) (fun _ _ _ h => h) (Or.inl ⟨by rfl, ?_⟩) hHeld ?_
  · intro u hu
    (have hl : (at' : Int) < 54 := by omega); go_simp
  try simp only [Act.put, List.setIfInBounds_toArray, List.set_cons_zero, List.set_cons_succ]
  refine wpAnyH_take (i := 33) (oi := { dst := some 107, op := Op.load 5 (Operand.tmp 106), type := 5, pos := _, after := #[{ on := 32, ground := Ground.data }, { on := 30, ground := Ground.guard }], guard := some (30, false) }) (v := .int .u8 bq) rfl (by kernel_rfl) (by kernel_rfl) (by kernel_rfl) (fun _ _ _ h => h) (Or.inl ⟨by rfl, ?_⟩) hHeld ?_
  · intro u hu
    (have cq := (rq.later hu).cell at' (by omega)); rw [hbq.out] at cq; go_simp
  try simp only [Act.put, List.setIfInBounds_toArray, List.set_cons_zero, List.set_cons_succ]
  refine wpAnyH_take (i := 34) (oi := { dst := some 108, op := Op.move (Operand.tmp 21), type := 3, pos := _, after := #[{ on := 30, ground := Ground.guard }], guard := some (30, false) }) (v := .int .i64 (at' : Int)) rfl (by kernel_rfl) (by kernel_rfl) (by kernel_rfl) (fun _ _ _ h => h) (Or.inl ⟨by rfl, ?_⟩) hHeld ?_
  · intro u hu
    go_simp
  try simp only [Act.put, List.setIfInBounds_toArray, List.set_cons_zero, List.set_cons_succ]
  refine wpAnyH_take (i := 35) (oi := { dst := some 109, op := Op.indexAddr 23 (Operand.tmp 4) (Operand.tmp 108), type := 0, pos := _, after := #[{ on := 34, ground := Ground.data }, { on := 30, ground := Ground.guard }], guard := some (30, false) }) (v := .pointer (some ⟨g0, at', none⟩)) rfl (by kernel_rfl) (by kernel_rfl) (by kernel_rfl) (fun _ _ _ h => h) (Or.inl ⟨by rfl, ?_⟩) hHeld ?_
  · intro u hu
    (have hl : (at' : Int) < 54 := by omega); go_simp
  try simp only [Act.put, List.setIfInBounds_toArray, List.set_cons_zero, List.set_cons_succ]
  refine wpAnyH_take (i := 36) (oi := { dst := some 110, op := Op.load 5 (Operand.tmp 109), type := 5, pos := _, after := #[{ on := 35, ground := Ground.data }, { on := 30, ground := Ground.guard }], guard := some (30, false) }) (v := .int .u8 bp) rfl (by kernel_rfl) (by kernel_rfl) (by kernel_rfl) (fun _ _ _ h => h) (Or.inl ⟨by rfl, ?_⟩) hHeld ?_
  · intro u hu
    (have cp := (rp.later hu).cell at' (by omega)); rw [hbp.out] at cp; go_simp
  try simp only [Act.put, List.setIfInBounds_toArray, List.set_cons_zero, List.set_cons_succ]
  refine wpAnyH_take (i := 37) (oi := { dst := some 111, op := Op.binOp BinOp.neq 5 (Operand.tmp 107) (Operand.tmp 110) 5, type := 4, pos := _, after := #[{ on := 33, ground := Ground.data }, { on := 36, ground := Ground.data }, { on := 30, ground := Ground.guard }], guard := some (30, false) }) (v := .bool true) rfl (by kernel_rfl) (by kernel_rfl) (by kernel_rfl) (fun _ _ _ h => h) (Or.inl ⟨by rfl, ?_⟩) hHeld ?_
  · intro u hu
    (have hne : ¬ bq = bp := hby.resolve_left (by decide)); go_simp
  try simp only [Act.put, List.setIfInBounds_toArray, List.set_cons_zero, List.set_cons_succ]
  refine wpAnyH_take (i := 38) (oi := { dst := some 112, op := Op.pick (Operand.tmp 104) (Operand.const (Value.bool true)) (Operand.tmp 111), type := 4, pos := _, after := #[{ on := 30, ground := Ground.data }, { on := 37, ground := Ground.data }, { on := 28, ground := Ground.guard }], guard := some (28, true) }) (v := .bool true) rfl (by kernel_rfl) (by kernel_rfl) (by kernel_rfl) (fun _ _ _ h => h) (Or.inl ⟨by rfl, ?_⟩) hHeld ?_
  · intro u hu
    go_simp
  try simp only [Act.put, List.setIfInBounds_toArray, List.set_cons_zero, List.set_cons_succ]
  refine wpAnyH_take (i := 39) (oi := { dst := some 113, op := Op.pick (Operand.tmp 102) (Operand.tmp 112) (Operand.const (Value.bool false)), type := 4, pos := _, after := #[{ on := 28, ground := Ground.data }, { on := 38, ground := Ground.data }], guard := none }) (v := .bool true) rfl (by kernel_rfl) (by kernel_rfl) (by kernel_rfl) (fun _ _ _ h => h) (Or.inl ⟨by rfl, ?_⟩) hHeld ?_
  · intro u hu
    go_simp
  try simp only [Act.put, List.setIfInBounds_toArray, List.set_cons_zero, List.set_cons_succ]
  refine wpAnyH_take (i := 40) (oi := { dst := some 8, op := Op.assign (Operand.tmp 113), type := 4, pos := _, after := #[{ on := 39, ground := Ground.data }, { on := 30, ground := Ground.chain }, { on := 0, ground := Ground.phase }, { on := 1, ground := Ground.phase }, { on := 2, ground := Ground.phase }, { on := 3, ground := Ground.phase }, { on := 4, ground := Ground.phase }, { on := 5, ground := Ground.phase }, { on := 6, ground := Ground.phase }, { on := 7, ground := Ground.phase }, { on := 8, ground := Ground.phase }, { on := 9, ground := Ground.phase }, { on := 10, ground := Ground.phase }, { on := 11, ground := Ground.phase }, { on := 12, ground := Ground.phase }, { on := 13, ground := Ground.phase }, { on := 14, ground := Ground.phase }, { on := 15, ground := Ground.phase }, { on := 16, ground := Ground.phase }, { on := 17, ground := Ground.phase }, { on := 18, ground := Ground.phase }, { on := 19, ground := Ground.phase }, { on := 20, ground := Ground.phase }, { on := 21, ground := Ground.phase }, { on := 22, ground := Ground.phase }, { on := 23, ground := Ground.phase }, { on := 24, ground := Ground.phase }, { on := 25, ground := Ground.phase }, { on := 26, ground := Ground.phase }, { on := 27, ground := Ground.phase }, { on := 28, ground := Ground.phase }, { on := 29, ground := Ground.phase }, { on := 30, ground := Ground.phase }, { on := 31, ground := Ground.phase }, { on := 32, ground := Ground.phase }, { on := 33, ground := Ground.phase }, { on := 34, ground := Ground.phase }, { on := 35, ground := Ground.phase }, { on := 36, ground := Ground.phase }, { on := 37, ground := Ground.phase }, { on := 38, ground := Ground.phase }, { on := 39, ground := Ground.phase }], guard := none }) (v := .bool true) rfl (by kernel_rfl) (by kernel_rfl) (by kernel_rfl) (fun _ _ _ h => h) (Or.inl ⟨by rfl, ?_⟩) hHeld ?_
  · intro u hu
    go_simp
  try simp only [Act.put, List.setIfInBounds_toArray, List.set_cons_zero, List.set_cons_succ]
  refine wpAnyH_done (by kernel_rfl) ?_ _
  go_wp2_with fail
  go_returns
  exact ⟨rfl, (S.next (Stp.of_below hHeld (fun _ => False)) (fun _ h => h.elim)).below (Nat.le_refl _) (fun _ h => h)⟩
set_option maxRecDepth 100000 in
set_option maxHeartbeats 8000000 in
theorem walk_i_ft (p q : Ld) (a c : Int) (i j : Nat) (y d : Bool) (at' : Nat) (w : World) (hai : among a 24 = i) (hcj : among c 24 = j) (F : Facts p q 4 i j true false y d at') :
    Calls Try.prog 5 #[.agg p.cs.toArray, .bool true, .int .i64 a, .int .i64 c] w fun e w' => e = .returned (.bool true) ∧ Below w.heap.size w w' := by
  have hp := p.len
  have hq := q.len
  obtain rfl : y = d := F.fo
  have A1 := among_24 a
  have A2 := among_24 c
  rw [hai] at A1
  rw [hcj] at A2
  have G1 := fun w => taken_any p 4 (i : Int) w (by decide)
  have G2 := fun w => mwith_any p 4 (i : Int) true w (by decide)
  have G3 := fun w => taken_any p 4 (j : Int) w (by decide)
  have G4 := fun w => taken_any q 4 (j : Int) w (by decide)
  have G5 := fun w => mwith_any q 4 (i : Int) true w (by decide)
  have G6 := fun w => byte_any 4 (i : Int) w (by decide)
  rw [F.fw, F.err] at G1
  rw [F.eq, F.err] at G2
  rw [F.fx, F.errj] at G3
  rw [F.fy, F.errj] at G4
  rw [F.back, F.err] at G5
  rw [F.at_is, F.err] at G6
  have hlt := F.at_lt
  have hsame := F.same
  have hby := F.byte
  have hdB : ((i : Int) == (j : Int)) = y := by rcases F.fd with ⟨rfl, e⟩ | ⟨rfl, e⟩ <;> simp [e]
  obtain ⟨bq, hbq⟩ : ∃ z : Int, Hid (((q.l.getD at' 0).toNat : Int) = z) := ⟨_, rfl⟩
  obtain ⟨bp, hbp⟩ : ∃ z : Int, Hid (((p.l.getD at' 0).toNat : Int) = z) := ⟨_, rfl⟩
  rw [hbq.out, hbp.out] at hby
  have hi := F.hi
  have hj := F.hj
  have H1 : Hid _ := G1
  have H2 : Hid _ := G2
  have H3 : Hid _ := G3
  have H4 : Hid _ := G4
  have H5 : Hid _ := G5
  have H6 : Hid _ := G6
  have HA1 : Hid _ := A1
  have HA2 : Hid _ := A2
  clear G1 G2 G3 G4 G5 G6 A1 A2 F hai hcj
  have qP : ∀ w, (Op.equalIn 10000 23 (.agg p.cs.toArray) (.agg p.cs.toArray)).run Try.prog w = .ok true w := fun w => by rw [eqL]; simp
  have qQ : ∀ w, (Op.equalIn 10000 23 (.agg q.cs.toArray) (.agg p.cs.toArray)).run Try.prog w = .ok true w := fun w => by rw [eqL, hsame]
  have gL := guardL
  clear hsame
  have t1 : True := trivial
  have t2 : True := trivial
  have t3 : True := trivial
  go_enter Try.func5, Try.ntmps5
  go_wp2_with (first
    | (refine at_box 23 54 arrL (by rfl) _ (by rfl) p.l (by rfl) hp ?_; intro g0 u0 a0 z0 r0 b0)
    | (go_at_call 18; refine (works_any _).mono ?_; rintro e u1 ⟨rfl, b1⟩; have rp1 := r0.later b1; have B1 := bnext b0 b1 (Nat.le_refl _); clear r0 b0 b1)
    | (have _t := t1; go_at_call 25; refine (HA1.out _).mono ?_; rintro e w' ⟨rfl, rfl⟩; clear _t t1)
    | (go_at_call 25; refine (HA2.out _).mono ?_; rintro e w' ⟨rfl, rfl⟩)
    | (refine at_getL (by rfl) _ (by rfl) g0 (by rfl) p rp5 ?_)
    | (refine at_getL (by rfl) _ (by rfl) g0 (by rfl) p rp2 ?_)
    | (refine at_getL (by rfl) _ (by rfl) g0 (by rfl) p rp1 ?_)
    | (refine at_getL (by rfl) _ (by rfl) gq (by rfl) q rq7 ?_)
    | (refine at_getL (by rfl) _ (by rfl) gq (by rfl) q rq6 ?_)
    | (have _t := t2; go_at_call 10; refine (H1.out _).mono ?_; rintro e u2 ⟨rfl, b2⟩; clear _t t2; have rp2 := rp1.later b2; have B2 := bnext B1 b2 (Nat.le_refl _); clear rp1 B1 b2)
    | (have _t := t3; go_at_call 12; refine (H2.out _).mono ?_; rintro e u3 ⟨rfl, b3⟩; clear _t)
    | (have _t := t3; refine at_new 23 54 arrL (by rfl) (by rfl) ?_; intro gq u4 a4 z4 r4 b4; clear _t)
    | (have _t := t3; refine at_put 23 54 arrL (by rfl) _ _ (by rfl) gq (by rfl) q.l (by rfl) hq _ r4 (by simp) ?_; intro u5 rq5 s5; clear _t t3
       have rp5 : Row u5 g0 p.l := ((rp2.later b3).later b4).step s5 (by have := rp2.lt; have := b3.size; omega)
       have S5 : Stp (fun x => w.heap.size ≤ x) w u5 := (Stp.of_below (bnext (bnext B2 b3 (Nat.le_refl _)) b4 (Nat.le_refl _)) (fun x => w.heap.size ≤ x)).next s5 (fun x hx => .inl (by subst hx; have := B2.size; have := b3.size; omega))
       clear rp2 B2 r4 b3 b4 s5 a4 z4
       have t4 : True := trivial)
    | (have _t := t4; go_at_call 10; refine (H3.out _).mono ?_; rintro e u6 ⟨rfl, b6⟩; clear _t t4; have rp6 := rp5.later b6; have rq6 := rq5.later b6; have S6 := S5.next (Stp.of_below b6 (fun _ => False)) (fun _ h => h.elim); clear rp5 rq5 S5 b6)
    | (go_at_call 10; refine (H4.out _).mono ?_; rintro e u7 ⟨rfl, b7⟩; have rp7 := rp6.later b7; have rq7 := rq6.later b7; have S7 := S6.next (Stp.of_below b7 (fun _ => False)) (fun _ h => h.elim); clear rp6 rq6 S6 b7)
    | (go_at_call 12; refine (H5.out _).mono ?_; rintro e u8 ⟨rfl, b8⟩)
    | (refine at_new 23 54 arrL (by rfl) (by rfl) ?_; intro gr u9 a9 z9 r9 b9)
    | (refine at_put 23 54 arrL (by rfl) _ _ (by rfl) gr (by rfl) p.l (by rfl) hp _ r9 (by simp) ?_; intro u10 rr10 s10
       have rp10 : Row u10 g0 p.l := ((rp7.later b8).later b9).step s10 (by have := rp7.lt; have := b8.size; omega)
       have rq10 : Row u10 gq q.l := ((rq7.later b8).later b9).step s10 (by have := rq7.lt; have := b8.size; omega)
       have S10 := (S7.next (Stp.of_below (bnext b8 b9 (Nat.le_refl _)) (fun _ => False)) (fun _ h => h.elim)).next s10 (fun x hx => .inl (by subst hx; have := S7.size; have := b8.size; omega))
       clear rp7 rq7 S7 r9 b8 b9 s10 a9 z9)
    | (go_at_call 14; refine (H6.out _).mono ?_; rintro e W ⟨rfl, b11⟩
       have rp := rp10.later b11
       have rq := rq10.later b11
       have rr := rr10.later b11
       have S := S10.next (Stp.of_below b11 (fun _ => False)) (fun _ h => h.elim)
       clear rp10 rq10 rr10 S10 b11))
  clear H1 H2 H3 H4 H5 H6 HA1 HA2
  refine wp_region_held_drew (S := fun u => Below W.heap.size W u) (by kernel_rfl) (Below.refl _ _).drew (fun hHeld => ?_)
  refine wpAnyH_take (i := 0) (oi := { dst := some 74, op := Op.move (Operand.tmp 14), type := 24, pos := _, after := #[], guard := none }) (v := .int .i64 0) rfl (by kernel_rfl) (by kernel_rfl) (by kernel_rfl) (fun _ _ _ h => h) (Or.inl ⟨by rfl, ?_⟩) hHeld ?_
  · intro u hu
    go_simp
  try simp only [Act.put, List.setIfInBounds_toArray, List.set_cons_zero, List.set_cons_succ]
  refine wpAnyH_take (i := 1) (oi := { dst := some 75, op := Op.binOp BinOp.eql 24 (Operand.tmp 74) (Operand.const (Value.int IntKind.i64 0)) 24, type := 4, pos := _, after := #[{ on := 0, ground := Ground.data }], guard := none }) (v := .bool true) rfl (by kernel_rfl) (by kernel_rfl) (by kernel_rfl) (fun _ _ _ h => h) (Or.inl ⟨by rfl, ?_⟩) hHeld ?_
  · intro u hu
    go_simp
  try simp only [Act.put, List.setIfInBounds_toArray, List.set_cons_zero, List.set_cons_succ]
  refine wpAnyH_take (i := 2) (oi := { dst := some 76, op := Op.move (Operand.tmp 75), type := 4, pos := _, after := #[{ on := 1, ground := Ground.data }], guard := none }) (v := .bool true) rfl (by kernel_rfl) (by kernel_rfl) (by kernel_rfl) (fun _ _ _ h => h) (Or.inl ⟨by rfl, ?_⟩) hHeld ?_
  · intro u hu
    go_simp
  try simp only [Act.put, List.setIfInBounds_toArray, List.set_cons_zero, List.set_cons_succ]
  refine wpAnyH_take (i := 3) (oi := { dst := some 77, op := Op.move (Operand.tmp 20), type := 24, pos := _, after := #[{ on := 2, ground := Ground.guard }], guard := some (2, true) }) (v := .int .i64 0) rfl (by kernel_rfl) (by kernel_rfl) (by kernel_rfl) (fun _ _ _ h => h) (Or.inl ⟨by rfl, ?_⟩) hHeld ?_
  · intro u hu
    go_simp
  try simp only [Act.put, List.setIfInBounds_toArray, List.set_cons_zero, List.set_cons_succ]
  refine wpAnyH_take (i := 4) (oi := { dst := some 78, op := Op.binOp BinOp.eql 24 (Operand.tmp 77) (Operand.const (Value.int IntKind.i64 0)) 24, type := 4, pos := _, after := #[{ on := 3, ground := Ground.data }, { on := 2, ground := Ground.guard }], guard := some (2, true) }) (v := .bool true) rfl (by kernel_rfl) (by kernel_rfl) (by kernel_rfl) (fun _ _ _ h => h) (Or.inl ⟨by rfl, ?_⟩) hHeld ?_
  · intro u hu
    go_simp
  try simp only [Act.put, List.setIfInBounds_toArray, List.set_cons_zero, List.set_cons_succ]
  refine wpAnyH_take (i := 5) (oi := { dst := some 79, op := Op.pick (Operand.tmp 76) (Operand.tmp 78) (Operand.const (Value.bool false)), type := 4, pos := _, after := #[{ on := 2, ground := Ground.data }, { on := 4, ground := Ground.data }], guard := none }) (v := .bool true) rfl (by kernel_rfl) (by kernel_rfl) (by kernel_rfl) (fun _ _ _ h => h) (Or.inl ⟨by rfl, ?_⟩) hHeld ?_
  · intro u hu
    go_simp
  try simp only [Act.put, List.setIfInBounds_toArray, List.set_cons_zero, List.set_cons_succ]
  refine wpAnyH_take (i := 6) (oi := { dst := some 80, op := Op.move (Operand.tmp 79), type := 4, pos := _, after := #[{ on := 5, ground := Ground.data }, { on := 2, ground := Ground.chain }], guard := none }) (v := .bool true) rfl (by kernel_rfl) (by kernel_rfl) (by kernel_rfl) (fun _ _ _ h => h) (Or.inl ⟨by rfl, ?_⟩) hHeld ?_
  · intro u hu
    go_simp
  try simp only [Act.put, List.setIfInBounds_toArray, List.set_cons_zero, List.set_cons_succ]
  refine wpAnyH_take (i := 7) (oi := { dst := some 81, op := Op.load 23 (Operand.tmp 19), type := 23, pos := _, after := #[{ on := 6, ground := Ground.guard }], guard := some (6, true) }) (v := .agg p.cs.toArray) rfl (by kernel_rfl) (by kernel_rfl) (by kernel_rfl) (fun _ _ _ h => h)
    (yields_row 23 54 arrL (by rfl) (.tmp 19) rfl gr (by rfl) p.l hp (fun u hu => rr.later hu)) hHeld ?_
  try simp only [Act.put, List.setIfInBounds_toArray, List.set_cons_zero, List.set_cons_succ]
  refine wpAnyH_take (i := 8) (oi := { dst := some 82, op := Op.load 23 (Operand.tmp 4), type := 23, pos := _, after := #[{ on := 6, ground := Ground.guard }], guard := some (6, true) }) (v := .agg p.cs.toArray) rfl (by kernel_rfl) (by kernel_rfl) (by kernel_rfl) (fun _ _ _ h => h)
    (yields_row 23 54 arrL (by rfl) (.tmp 4) rfl g0 (by rfl) p.l hp (fun u hu => rp.later hu)) hHeld ?_
  try simp only [Act.put, List.setIfInBounds_toArray, List.set_cons_zero, List.set_cons_succ]
  refine wpAnyH_take (i := 9) (oi := { dst := some 83, op := Op.binOp BinOp.eql 23 (Operand.tmp 81) (Operand.tmp 82) 23, type := 4, pos := _, after := #[{ on := 7, ground := Ground.data }, { on := 8, ground := Ground.data }, { on := 6, ground := Ground.guard }], guard := some (6, true) }) (v := .bool true) rfl (by kernel_rfl) (by kernel_rfl) (by kernel_rfl) (fun _ _ _ h => h) (Or.inl ⟨by rfl, ?_⟩) hHeld ?_
  · intro u hu
    go_simp
  try simp only [Act.put, List.setIfInBounds_toArray, List.set_cons_zero, List.set_cons_succ]
  refine wpAnyH_take (i := 10) (oi := { dst := some 84, op := Op.pick (Operand.tmp 80) (Operand.tmp 83) (Operand.const (Value.bool false)), type := 4, pos := _, after := #[{ on := 6, ground := Ground.data }, { on := 9, ground := Ground.data }], guard := none }) (v := .bool true) rfl (by kernel_rfl) (by kernel_rfl) (by kernel_rfl) (fun _ _ _ h => h) (Or.inl ⟨by rfl, ?_⟩) hHeld ?_
  · intro u hu
    go_simp
  try simp only [Act.put, List.setIfInBounds_toArray, List.set_cons_zero, List.set_cons_succ]
  refine wpAnyH_take (i := 11) (oi := { dst := some 85, op := Op.move (Operand.tmp 84), type := 4, pos := _, after := #[{ on := 10, ground := Ground.data }, { on := 6, ground := Ground.chain }], guard := none }) (v := .bool true) rfl (by kernel_rfl) (by kernel_rfl) (by kernel_rfl) (fun _ _ _ h => h) (Or.inl ⟨by rfl, ?_⟩) hHeld ?_
  · intro u hu
    go_simp
  try simp only [Act.put, List.setIfInBounds_toArray, List.set_cons_zero, List.set_cons_succ]
  refine wpAnyH_take (i := 12) (oi := { dst := some 86, op := Op.move (Operand.tmp 17), type := 4, pos := _, after := #[{ on := 11, ground := Ground.guard }], guard := some (11, true) }) (v := .bool y) rfl (by kernel_rfl) (by kernel_rfl) (by kernel_rfl) (fun _ _ _ h => h) (Or.inl ⟨by rfl, ?_⟩) hHeld ?_
  · intro u hu
    go_simp
  try simp only [Act.put, List.setIfInBounds_toArray, List.set_cons_zero, List.set_cons_succ]
  refine wpAnyH_take (i := 13) (oi := { dst := some 87, op := Op.move (Operand.tmp 15), type := 4, pos := _, after := #[{ on := 11, ground := Ground.guard }], guard := some (11, true) }) (v := .bool false) rfl (by kernel_rfl) (by kernel_rfl) (by kernel_rfl) (fun _ _ _ h => h) (Or.inl ⟨by rfl, ?_⟩) hHeld ?_
  · intro u hu
    go_simp
  try simp only [Act.put, List.setIfInBounds_toArray, List.set_cons_zero, List.set_cons_succ]
  refine wpAnyH_take (i := 14) (oi := { dst := some 88, op := Op.move (Operand.tmp 87), type := 4, pos := _, after := #[{ on := 13, ground := Ground.data }, { on := 11, ground := Ground.chain }, { on := 11, ground := Ground.guard }], guard := some (11, true) }) (v := .bool false) rfl (by kernel_rfl) (by kernel_rfl) (by kernel_rfl) (fun _ _ _ h => h) (Or.inl ⟨by rfl, ?_⟩) hHeld ?_
  · intro u hu
    go_simp
  try simp only [Act.put, List.setIfInBounds_toArray, List.set_cons_zero, List.set_cons_succ]
  refine wpAnyH_take (i := 15) (oi := { dst := some 89, op := Op.move (Operand.tmp 2), type := 3, pos := _, after := #[{ on := 14, ground := Ground.guard }], guard := some (14, false) }) (v := .int .i64 (i : Int)) rfl (by kernel_rfl) (by kernel_rfl) (by kernel_rfl) (fun _ _ _ h => h) (Or.inl ⟨by rfl, ?_⟩) hHeld ?_
  · intro u hu
    go_simp
  try simp only [Act.put, List.setIfInBounds_toArray, List.set_cons_zero, List.set_cons_succ]
  refine wpAnyH_take (i := 16) (oi := { dst := some 90, op := Op.move (Operand.tmp 3), type := 3, pos := _, after := #[{ on := 14, ground := Ground.guard }], guard := some (14, false) }) (v := .int .i64 (j : Int)) rfl (by kernel_rfl) (by kernel_rfl) (by kernel_rfl) (fun _ _ _ h => h) (Or.inl ⟨by rfl, ?_⟩) hHeld ?_
  · intro u hu
    go_simp
  try simp only [Act.put, List.setIfInBounds_toArray, List.set_cons_zero, List.set_cons_succ]
  refine wpAnyH_take (i := 17) (oi := { dst := some 91, op := Op.binOp BinOp.eql 3 (Operand.tmp 89) (Operand.tmp 90) 3, type := 4, pos := _, after := #[{ on := 15, ground := Ground.data }, { on := 16, ground := Ground.data }, { on := 14, ground := Ground.guard }], guard := some (14, false) }) (v := .bool y) rfl (by kernel_rfl) (by kernel_rfl) (by kernel_rfl) (fun _ _ _ h => h) (Or.inl ⟨by rfl, ?_⟩) hHeld ?_
  · intro u hu
    (go_simp; try exact hdB)
  try simp only [Act.put, List.setIfInBounds_toArray, List.set_cons_zero, List.set_cons_succ]
  refine wpAnyH_take (i := 18) (oi := { dst := some 92, op := Op.pick (Operand.tmp 88) (Operand.const (Value.bool true)) (Operand.tmp 91), type := 4, pos := _, after := #[{ on := 14, ground := Ground.data }, { on := 17, ground := Ground.data }, { on := 11, ground := Ground.guard }], guard := some (11, true) }) (v := .bool y) rfl (by kernel_rfl) (by kernel_rfl) (by kernel_rfl) (fun _ _ _ h => h) (Or.inl ⟨by rfl, ?_⟩) hHeld ?_
  · intro u hu
    go_simp
  try simp only [Act.put, List.setIfInBounds_toArray, List.set_cons_zero, List.set_cons_succ]
  refine wpAnyH_take (i := 19) (oi := { dst := some 93, op := Op.binOp BinOp.eql 4 (Operand.tmp 86) (Operand.tmp 92) 4, type := 4, pos := _, after := #[{ on := 12, ground := Ground.data }, { on := 18, ground := Ground.data }, { on := 11, ground := Ground.guard }], guard := some (11, true) }) (v := .bool true) rfl (by kernel_rfl) (by kernel_rfl) (by kernel_rfl) (fun _ _ _ h => h) (Or.inl ⟨by rfl, ?_⟩) hHeld ?_
  · intro u hu
    go_simp
  try simp only [Act.put, List.setIfInBounds_toArray, List.set_cons_zero, List.set_cons_succ]
  refine wpAnyH_take (i := 20) (oi := { dst := some 94, op := Op.pick (Operand.tmp 85) (Operand.tmp 93) (Operand.const (Value.bool false)), type := 4, pos := _, after := #[{ on := 11, ground := Ground.data }, { on := 19, ground := Ground.data }], guard := none }) (v := .bool true) rfl (by kernel_rfl) (by kernel_rfl) (by kernel_rfl) (fun _ _ _ h => h) (Or.inl ⟨by rfl, ?_⟩) hHeld ?_
  · intro u hu
    go_simp
  try simp only [Act.put, List.setIfInBounds_toArray, List.set_cons_zero, List.set_cons_succ]
  refine wpAnyH_take (i := 21) (oi := { dst := some 95, op := Op.move (Operand.tmp 94), type := 4, pos := _, after := #[{ on := 20, ground := Ground.data }, { on := 14, ground := Ground.chain }], guard := none }) (v := .bool true) rfl (by kernel_rfl) (by kernel_rfl) (by kernel_rfl) (fun _ _ _ h => h) (Or.inl ⟨by rfl, ?_⟩) hHeld ?_
  · intro u hu
    go_simp
  try simp only [Act.put, List.setIfInBounds_toArray, List.set_cons_zero, List.set_cons_succ]
  refine wpAnyH_take (i := 22) (oi := { dst := some 96, op := Op.load 23 (Operand.tmp 13), type := 23, pos := _, after := #[{ on := 21, ground := Ground.guard }], guard := some (21, true) }) (v := .agg q.cs.toArray) rfl (by kernel_rfl) (by kernel_rfl) (by kernel_rfl) (fun _ _ _ h => h)
    (yields_row 23 54 arrL (by rfl) (.tmp 13) rfl gq (by rfl) q.l hq (fun u hu => rq.later hu)) hHeld ?_
  try simp only [Act.put, List.setIfInBounds_toArray, List.set_cons_zero, List.set_cons_succ]
  refine wpAnyH_take (i := 23) (oi := { dst := some 97, op := Op.load 23 (Operand.tmp 4), type := 23, pos := _, after := #[{ on := 21, ground := Ground.guard }], guard := some (21, true) }) (v := .agg p.cs.toArray) rfl (by kernel_rfl) (by kernel_rfl) (by kernel_rfl) (fun _ _ _ h => h)
    (yields_row 23 54 arrL (by rfl) (.tmp 4) rfl g0 (by rfl) p.l hp (fun u hu => rp.later hu)) hHeld ?_
  try simp only [Act.put, List.setIfInBounds_toArray, List.set_cons_zero, List.set_cons_succ]
  refine wpAnyH_take (i := 24) (oi := { dst := some 98, op := Op.binOp BinOp.eql 23 (Operand.tmp 96) (Operand.tmp 97) 23, type := 4, pos := _, after := #[{ on := 22, ground := Ground.data }, { on := 23, ground := Ground.data }, { on := 21, ground := Ground.guard }], guard := some (21, true) }) (v := .bool true) rfl (by kernel_rfl) (by kernel_rfl) (by kernel_rfl) (fun _ _ _ h => h) (Or.inl ⟨by rfl, ?_⟩) hHeld ?_
  · intro u hu
    go_simp
  try simp only [Act.put, List.setIfInBounds_toArray, List.set_cons_zero, List.set_cons_succ]
  refine wpAnyH_take (i := 25) (oi := { dst := some 99, op := Op.move (Operand.tmp 11), type := 4, pos := _, after := #[{ on := 21, ground := Ground.guard }], guard := some (21, true) }) (v := .bool true) rfl (by kernel_rfl) (by kernel_rfl) (by kernel_rfl) (fun _ _ _ h => h) (Or.inl ⟨by rfl, ?_⟩) hHeld ?_
  · intro u hu
    go_simp
  try simp only [Act.put, List.setIfInBounds_toArray, List.set_cons_zero, List.set_cons_succ]
  refine wpAnyH_take (i := 26) (oi := { dst := some 100, op := Op.binOp BinOp.eql 4 (Operand.tmp 98) (Operand.tmp 99) 4, type := 4, pos := _, after := #[{ on := 24, ground := Ground.data }, { on := 25, ground := Ground.data }, { on := 21, ground := Ground.guard }], guard := some (21, true) }) (v := .bool true) rfl (by kernel_rfl) (by kernel_rfl) (by kernel_rfl) (fun _ _ _ h => h) (Or.inl ⟨by rfl, ?_⟩) hHeld ?_
  · intro u hu
    go_simp
  try simp only [Act.put, List.setIfInBounds_toArray, List.set_cons_zero, List.set_cons_succ]
  refine wpAnyH_take (i := 27) (oi := { dst := some 101, op := Op.pick (Operand.tmp 95) (Operand.tmp 100) (Operand.const (Value.bool false)), type := 4, pos := _, after := #[{ on := 21, ground := Ground.data }, { on := 26, ground := Ground.data }], guard := none }) (v := .bool true) rfl (by kernel_rfl) (by kernel_rfl) (by kernel_rfl) (fun _ _ _ h => h) (Or.inl ⟨by rfl, ?_⟩) hHeld ?_
  · intro u hu
    go_simp
  try simp only [Act.put, List.setIfInBounds_toArray, List.set_cons_zero, List.set_cons_succ]
  refine wpAnyH_take (i := 28) (oi := { dst := some 102, op := Op.move (Operand.tmp 101), type := 4, pos := _, after := #[{ on := 27, ground := Ground.data }, { on := 21, ground := Ground.chain }], guard := none }) (v := .bool true) rfl (by kernel_rfl) (by kernel_rfl) (by kernel_rfl) (fun _ _ _ h => h) (Or.inl ⟨by rfl, ?_⟩) hHeld ?_
  · intro u hu
    go_simp
  try simp only [Act.put, List.setIfInBounds_toArray, List.set_cons_zero, List.set_cons_succ]
  refine wpAnyH_take (i := 29) (oi := { dst := some 103, op := Op.move (Operand.tmp 11), type := 4, pos := _, after := #[{ on := 28, ground := Ground.guard }], guard := some (28, true) }) (v := .bool true) rfl (by kernel_rfl) (by kernel_rfl) (by kernel_rfl) (fun _ _ _ h => h) (Or.inl ⟨by rfl, ?_⟩) hHeld ?_
  · intro u hu
    go_simp
  try simp only [Act.put, List.setIfInBounds_toArray, List.set_cons_zero, List.set_cons_succ]
  refine wpAnyH_take (i := 30) (oi := { dst := some 104, op := Op.move (Operand.tmp 103), type := 4, pos := _, after := #[{ on := 29, ground := Ground.data }, { on := 28, ground := Ground.chain }, { on := 28, ground := Ground.guard }], guard := some (28, true) }) (v := .bool true) rfl (by kernel_rfl) (by kernel_rfl) (by kernel_rfl) (fun _ _ _ h => h) (Or.inl ⟨by rfl, ?_⟩) hHeld ?_
  · intro u hu
    go_simp
  try simp only [Act.put, List.setIfInBounds_toArray, List.set_cons_zero, List.set_cons_succ]
  refine wpAnyH_take (i := 31) (oi := { dst := some 105, op := Op.move (Operand.tmp 21), type := 3, pos := _, after := #[{ on := 30, ground := Ground.guard }], guard := some (30, false) }) (v := undef) rfl (by kernel_rfl) (by kernel_rfl) (by kernel_rfl) (fun _ _ _ h => h)
    (Or.inr ⟨by rfl, rfl⟩) hHeld ?_
  try simp only [Act.put, List.setIfInBounds_toArray, List.set_cons_zero, List.set_cons_succ]
  refine wpAnyH_take (i := 32) (oi := { dst := some 106, op := Op.indexAddr 23 (Operand.tmp 13) (Operand.tmp 105), type := 0, pos := _, after := #[{ on := 31, ground := Ground.data }, { on := 30, ground := Ground.guard }], guard := some (30, false) }) (v := undef) rfl (by kernel_rfl) (by kernel_rfl) (by kernel_rfl) (fun _ _ _ h => h)
    (Or.inr ⟨by rfl, rfl⟩) hHeld ?_
  try simp only [Act.put, List.setIfInBounds_toArray, List.set_cons_zero, List.set_cons_succ]
  refine wpAnyH_take (i := 33) (oi := { dst := some 107, op := Op.load 5 (Operand.tmp 106), type := 5, pos := _, after := #[{ on := 32, ground := Ground.data }, { on := 30, ground := Ground.guard }], guard := some (30, false) }) (v := undef) rfl (by kernel_rfl) (by kernel_rfl) (by kernel_rfl) (fun _ _ _ h => h)
    (Or.inr ⟨by rfl, rfl⟩) hHeld ?_
  try simp only [Act.put, List.setIfInBounds_toArray, List.set_cons_zero, List.set_cons_succ]
  refine wpAnyH_take (i := 34) (oi := { dst := some 108, op := Op.move (Operand.tmp 21), type := 3, pos := _, after := #[{ on := 30, ground := Ground.guard }], guard := some (30, false) }) (v := undef) rfl (by kernel_rfl) (by kernel_rfl) (by kernel_rfl) (fun _ _ _ h => h)
    (Or.inr ⟨by rfl, rfl⟩) hHeld ?_
  try simp only [Act.put, List.setIfInBounds_toArray, List.set_cons_zero, List.set_cons_succ]
  refine wpAnyH_take (i := 35) (oi := { dst := some 109, op := Op.indexAddr 23 (Operand.tmp 4) (Operand.tmp 108), type := 0, pos := _, after := #[{ on := 34, ground := Ground.data }, { on := 30, ground := Ground.guard }], guard := some (30, false) }) (v := undef) rfl (by kernel_rfl) (by kernel_rfl) (by kernel_rfl) (fun _ _ _ h => h)
    (Or.inr ⟨by rfl, rfl⟩) hHeld ?_
  try simp only [Act.put, List.setIfInBounds_toArray, List.set_cons_zero, List.set_cons_succ]
  refine wpAnyH_take (i := 36) (oi := { dst := some 110, op := Op.load 5 (Operand.tmp 109), type := 5, pos := _, after := #[{ on := 35, ground := Ground.data }, { on := 30, ground := Ground.guard }], guard := some (30, false) }) (v := undef) rfl (by kernel_rfl) (by kernel_rfl) (by kernel_rfl) (fun _ _ _ h => h)
    (Or.inr ⟨by rfl, rfl⟩) hHeld ?_
  try simp only [Act.put, List.setIfInBounds_toArray, List.set_cons_zero, List.set_cons_succ]
  refine wpAnyH_take (i := 37) (oi := { dst := some 111, op := Op.binOp BinOp.neq 5 (Operand.tmp 107) (Operand.tmp 110) 5, type := 4, pos := _, after := #[{ on := 33, ground := Ground.data }, { on := 36, ground := Ground.data }, { on := 30, ground := Ground.guard }], guard := some (30, false) }) (v := undef) rfl (by kernel_rfl) (by kernel_rfl) (by kernel_rfl) (fun _ _ _ h => h)
    (Or.inr ⟨by rfl, rfl⟩) hHeld ?_
  try simp only [Act.put, List.setIfInBounds_toArray, List.set_cons_zero, List.set_cons_succ]
  refine wpAnyH_take (i := 38) (oi := { dst := some 112, op := Op.pick (Operand.tmp 104) (Operand.const (Value.bool true)) (Operand.tmp 111), type := 4, pos := _, after := #[{ on := 30, ground := Ground.data }, { on := 37, ground := Ground.data }, { on := 28, ground := Ground.guard }], guard := some (28, true) }) (v := .bool true) rfl (by kernel_rfl) (by kernel_rfl) (by kernel_rfl) (fun _ _ _ h => h) (Or.inl ⟨by rfl, ?_⟩) hHeld ?_
  · intro u hu
    go_simp
  try simp only [Act.put, List.setIfInBounds_toArray, List.set_cons_zero, List.set_cons_succ]
  refine wpAnyH_take (i := 39) (oi := { dst := some 113, op := Op.pick (Operand.tmp 102) (Operand.tmp 112) (Operand.const (Value.bool false)), type := 4, pos := _, after := #[{ on := 28, ground := Ground.data }, { on := 38, ground := Ground.data }], guard := none }) (v := .bool true) rfl (by kernel_rfl) (by kernel_rfl) (by kernel_rfl) (fun _ _ _ h => h) (Or.inl ⟨by rfl, ?_⟩) hHeld ?_
  · intro u hu
    go_simp
  try simp only [Act.put, List.setIfInBounds_toArray, List.set_cons_zero, List.set_cons_succ]
  refine wpAnyH_take (i := 40) (oi := { dst := some 8, op := Op.assign (Operand.tmp 113), type := 4, pos := _, after := #[{ on := 39, ground := Ground.data }, { on := 30, ground := Ground.chain }, { on := 0, ground := Ground.phase }, { on := 1, ground := Ground.phase }, { on := 2, ground := Ground.phase }, { on := 3, ground := Ground.phase }, { on := 4, ground := Ground.phase }, { on := 5, ground := Ground.phase }, { on := 6, ground := Ground.phase }, { on := 7, ground := Ground.phase }, { on := 8, ground := Ground.phase }, { on := 9, ground := Ground.phase }, { on := 10, ground := Ground.phase }, { on := 11, ground := Ground.phase }, { on := 12, ground := Ground.phase }, { on := 13, ground := Ground.phase }, { on := 14, ground := Ground.phase }, { on := 15, ground := Ground.phase }, { on := 16, ground := Ground.phase }, { on := 17, ground := Ground.phase }, { on := 18, ground := Ground.phase }, { on := 19, ground := Ground.phase }, { on := 20, ground := Ground.phase }, { on := 21, ground := Ground.phase }, { on := 22, ground := Ground.phase }, { on := 23, ground := Ground.phase }, { on := 24, ground := Ground.phase }, { on := 25, ground := Ground.phase }, { on := 26, ground := Ground.phase }, { on := 27, ground := Ground.phase }, { on := 28, ground := Ground.phase }, { on := 29, ground := Ground.phase }, { on := 30, ground := Ground.phase }, { on := 31, ground := Ground.phase }, { on := 32, ground := Ground.phase }, { on := 33, ground := Ground.phase }, { on := 34, ground := Ground.phase }, { on := 35, ground := Ground.phase }, { on := 36, ground := Ground.phase }, { on := 37, ground := Ground.phase }, { on := 38, ground := Ground.phase }, { on := 39, ground := Ground.phase }], guard := none }) (v := .bool true) rfl (by kernel_rfl) (by kernel_rfl) (by kernel_rfl) (fun _ _ _ h => h) (Or.inl ⟨by rfl, ?_⟩) hHeld ?_
  · intro u hu
    go_simp
  try simp only [Act.put, List.setIfInBounds_toArray, List.set_cons_zero, List.set_cons_succ]
  refine wpAnyH_done (by kernel_rfl) ?_ _
  go_wp2_with fail
  go_returns
  exact ⟨rfl, (S.next (Stp.of_below hHeld (fun _ => False)) (fun _ h => h.elim)).below (Nat.le_refl _) (fun _ h => h)⟩
set_option maxRecDepth 100000 in
set_option maxHeartbeats 8000000 in
theorem walk_i_ff (p q : Ld) (a c : Int) (i j : Nat) (y d : Bool) (at' : Nat) (w : World) (hai : among a 24 = i) (hcj : among c 24 = j) (F : Facts p q 4 i j false false y d at') :
    Calls Try.prog 5 #[.agg p.cs.toArray, .bool true, .int .i64 a, .int .i64 c] w fun e w' => e = .returned (.bool true) ∧ Below w.heap.size w w' := by
  have hp := p.len
  have hq := q.len
  obtain rfl : y = d := F.fo
  have A1 := among_24 a
  have A2 := among_24 c
  rw [hai] at A1
  rw [hcj] at A2
  have G1 := fun w => taken_any p 4 (i : Int) w (by decide)
  have G2 := fun w => mwith_any p 4 (i : Int) true w (by decide)
  have G3 := fun w => taken_any p 4 (j : Int) w (by decide)
  have G4 := fun w => taken_any q 4 (j : Int) w (by decide)
  have G5 := fun w => mwith_any q 4 (i : Int) false w (by decide)
  have G6 := fun w => byte_any 4 (i : Int) w (by decide)
  rw [F.fw, F.err] at G1
  rw [F.eq, F.err] at G2
  rw [F.fx, F.errj] at G3
  rw [F.fy, F.errj] at G4
  rw [F.back, F.err] at G5
  rw [F.at_is, F.err] at G6
  have hlt := F.at_lt
  have hsame := F.same
  have hby := F.byte
  have hdB : ((i : Int) == (j : Int)) = y := by rcases F.fd with ⟨rfl, e⟩ | ⟨rfl, e⟩ <;> simp [e]
  obtain ⟨bq, hbq⟩ : ∃ z : Int, Hid (((q.l.getD at' 0).toNat : Int) = z) := ⟨_, rfl⟩
  obtain ⟨bp, hbp⟩ : ∃ z : Int, Hid (((p.l.getD at' 0).toNat : Int) = z) := ⟨_, rfl⟩
  rw [hbq.out, hbp.out] at hby
  have hi := F.hi
  have hj := F.hj
  have H1 : Hid _ := G1
  have H2 : Hid _ := G2
  have H3 : Hid _ := G3
  have H4 : Hid _ := G4
  have H5 : Hid _ := G5
  have H6 : Hid _ := G6
  have HA1 : Hid _ := A1
  have HA2 : Hid _ := A2
  clear G1 G2 G3 G4 G5 G6 A1 A2 F hai hcj
  have qP : ∀ w, (Op.equalIn 10000 23 (.agg p.cs.toArray) (.agg p.cs.toArray)).run Try.prog w = .ok true w := fun w => by rw [eqL]; simp
  have qQ : ∀ w, (Op.equalIn 10000 23 (.agg q.cs.toArray) (.agg p.cs.toArray)).run Try.prog w = .ok false w := fun w => by rw [eqL, hsame]
  have gL := guardL
  clear hsame
  have t1 : True := trivial
  have t2 : True := trivial
  have t3 : True := trivial
  go_enter Try.func5, Try.ntmps5
  go_wp2_with (first
    | (refine at_box 23 54 arrL (by rfl) _ (by rfl) p.l (by rfl) hp ?_; intro g0 u0 a0 z0 r0 b0)
    | (go_at_call 18; refine (works_any _).mono ?_; rintro e u1 ⟨rfl, b1⟩; have rp1 := r0.later b1; have B1 := bnext b0 b1 (Nat.le_refl _); clear r0 b0 b1)
    | (have _t := t1; go_at_call 25; refine (HA1.out _).mono ?_; rintro e w' ⟨rfl, rfl⟩; clear _t t1)
    | (go_at_call 25; refine (HA2.out _).mono ?_; rintro e w' ⟨rfl, rfl⟩)
    | (refine at_getL (by rfl) _ (by rfl) g0 (by rfl) p rp5 ?_)
    | (refine at_getL (by rfl) _ (by rfl) g0 (by rfl) p rp2 ?_)
    | (refine at_getL (by rfl) _ (by rfl) g0 (by rfl) p rp1 ?_)
    | (refine at_getL (by rfl) _ (by rfl) gq (by rfl) q rq7 ?_)
    | (refine at_getL (by rfl) _ (by rfl) gq (by rfl) q rq6 ?_)
    | (have _t := t2; go_at_call 10; refine (H1.out _).mono ?_; rintro e u2 ⟨rfl, b2⟩; clear _t t2; have rp2 := rp1.later b2; have B2 := bnext B1 b2 (Nat.le_refl _); clear rp1 B1 b2)
    | (have _t := t3; go_at_call 12; refine (H2.out _).mono ?_; rintro e u3 ⟨rfl, b3⟩; clear _t)
    | (have _t := t3; refine at_new 23 54 arrL (by rfl) (by rfl) ?_; intro gq u4 a4 z4 r4 b4; clear _t)
    | (have _t := t3; refine at_put 23 54 arrL (by rfl) _ _ (by rfl) gq (by rfl) q.l (by rfl) hq _ r4 (by simp) ?_; intro u5 rq5 s5; clear _t t3
       have rp5 : Row u5 g0 p.l := ((rp2.later b3).later b4).step s5 (by have := rp2.lt; have := b3.size; omega)
       have S5 : Stp (fun x => w.heap.size ≤ x) w u5 := (Stp.of_below (bnext (bnext B2 b3 (Nat.le_refl _)) b4 (Nat.le_refl _)) (fun x => w.heap.size ≤ x)).next s5 (fun x hx => .inl (by subst hx; have := B2.size; have := b3.size; omega))
       clear rp2 B2 r4 b3 b4 s5 a4 z4
       have t4 : True := trivial)
    | (have _t := t4; go_at_call 10; refine (H3.out _).mono ?_; rintro e u6 ⟨rfl, b6⟩; clear _t t4; have rp6 := rp5.later b6; have rq6 := rq5.later b6; have S6 := S5.next (Stp.of_below b6 (fun _ => False)) (fun _ h => h.elim); clear rp5 rq5 S5 b6)
    | (go_at_call 10; refine (H4.out _).mono ?_; rintro e u7 ⟨rfl, b7⟩; have rp7 := rp6.later b7; have rq7 := rq6.later b7; have S7 := S6.next (Stp.of_below b7 (fun _ => False)) (fun _ h => h.elim); clear rp6 rq6 S6 b7)
    | (go_at_call 12; refine (H5.out _).mono ?_; rintro e u8 ⟨rfl, b8⟩)
    | (refine at_new 23 54 arrL (by rfl) (by rfl) ?_; intro gr u9 a9 z9 r9 b9)
    | (refine at_put 23 54 arrL (by rfl) _ _ (by rfl) gr (by rfl) p.l (by rfl) hp _ r9 (by simp) ?_; intro u10 rr10 s10
       have rp10 : Row u10 g0 p.l := ((rp7.later b8).later b9).step s10 (by have := rp7.lt; have := b8.size; omega)
       have rq10 : Row u10 gq q.l := ((rq7.later b8).later b9).step s10 (by have := rq7.lt; have := b8.size; omega)
       have S10 := (S7.next (Stp.of_below (bnext b8 b9 (Nat.le_refl _)) (fun _ => False)) (fun _ h => h.elim)).next s10 (fun x hx => .inl (by subst hx; have := S7.size; have := b8.size; omega))
       clear rp7 rq7 S7 r9 b8 b9 s10 a9 z9)
    | (go_at_call 14; refine (H6.out _).mono ?_; rintro e W ⟨rfl, b11⟩
       have rp := rp10.later b11
       have rq := rq10.later b11
       have rr := rr10.later b11
       have S := S10.next (Stp.of_below b11 (fun _ => False)) (fun _ h => h.elim)
       clear rp10 rq10 rr10 S10 b11))
  clear H1 H2 H3 H4 H5 H6 HA1 HA2
  refine wp_region_held_drew (S := fun u => Below W.heap.size W u) (by kernel_rfl) (Below.refl _ _).drew (fun hHeld => ?_)
  refine wpAnyH_take (i := 0) (oi := { dst := some 74, op := Op.move (Operand.tmp 14), type := 24, pos := _, after := #[], guard := none }) (v := .int .i64 0) rfl (by kernel_rfl) (by kernel_rfl) (by kernel_rfl) (fun _ _ _ h => h) (Or.inl ⟨by rfl, ?_⟩) hHeld ?_
  · intro u hu
    go_simp
  try simp only [Act.put, List.setIfInBounds_toArray, List.set_cons_zero, List.set_cons_succ]
  refine wpAnyH_take (i := 1) (oi := { dst := some 75, op := Op.binOp BinOp.eql 24 (Operand.tmp 74) (Operand.const (Value.int IntKind.i64 0)) 24, type := 4, pos := _, after := #[{ on := 0, ground := Ground.data }], guard := none }) (v := .bool true) rfl (by kernel_rfl) (by kernel_rfl) (by kernel_rfl) (fun _ _ _ h => h) (Or.inl ⟨by rfl, ?_⟩) hHeld ?_
  · intro u hu
    go_simp
  try simp only [Act.put, List.setIfInBounds_toArray, List.set_cons_zero, List.set_cons_succ]
  refine wpAnyH_take (i := 2) (oi := { dst := some 76, op := Op.move (Operand.tmp 75), type := 4, pos := _, after := #[{ on := 1, ground := Ground.data }], guard := none }) (v := .bool true) rfl (by kernel_rfl) (by kernel_rfl) (by kernel_rfl) (fun _ _ _ h => h) (Or.inl ⟨by rfl, ?_⟩) hHeld ?_
  · intro u hu
    go_simp
  try simp only [Act.put, List.setIfInBounds_toArray, List.set_cons_zero, List.set_cons_succ]
  refine wpAnyH_take (i := 3) (oi := { dst := some 77, op := Op.move (Operand.tmp 20), type := 24, pos := _, after := #[{ on := 2, ground := Ground.guard }], guard := some (2, true) }) (v := .int .i64 0) rfl (by kernel_rfl) (by kernel_rfl) (by kernel_rfl) (fun _ _ _ h => h) (Or.inl ⟨by rfl, ?_⟩) hHeld ?_
  · intro u hu
    go_simp
  try simp only [Act.put, List.setIfInBounds_toArray, List.set_cons_zero, List.set_cons_succ]
  refine wpAnyH_take (i := 4) (oi := { dst := some 78, op := Op.binOp BinOp.eql 24 (Operand.tmp 77) (Operand.const (Value.int IntKind.i64 0)) 24, type := 4, pos := _, after := #[{ on := 3, ground := Ground.data }, { on := 2, ground := Ground.guard }], guard := some (2, true) }) (v := .bool true) rfl (by kernel_rfl) (by kernel_rfl) (by kernel_rfl) (fun _ _ _ h => h) (Or.inl ⟨by rfl, ?_⟩) hHeld ?_
  · intro u hu
    go_simp
  try simp only [Act.put, List.setIfInBounds_toArray, List.set_cons_zero, List.set_cons_succ]
  refine wpAnyH_take (i := 5) (oi := { dst := some 79, op := Op.pick (Operand.tmp 76) (Operand.tmp 78) (Operand.const (Value.bool false)), type := 4, pos := _, after := #[{ on := 2, ground := Ground.data }, { on := 4, ground := Ground.data }], guard := none }) (v := .bool true) rfl (by kernel_rfl) (by kernel_rfl) (by kernel_rfl) (fun _ _ _ h => h) (Or.inl ⟨by rfl, ?_⟩) hHeld ?_
  · intro u hu
    go_simp
  try simp only [Act.put, List.setIfInBounds_toArray, List.set_cons_zero, List.set_cons_succ]
  refine wpAnyH_take (i := 6) (oi := { dst := some 80, op := Op.move (Operand.tmp 79), type := 4, pos := _, after := #[{ on := 5, ground := Ground.data }, { on := 2, ground := Ground.chain }], guard := none }) (v := .bool true) rfl (by kernel_rfl) (by kernel_rfl) (by kernel_rfl) (fun _ _ _ h => h) (Or.inl ⟨by rfl, ?_⟩) hHeld ?_
  · intro u hu
    go_simp
  try simp only [Act.put, List.setIfInBounds_toArray, List.set_cons_zero, List.set_cons_succ]
  refine wpAnyH_take (i := 7) (oi := { dst := some 81, op := Op.load 23 (Operand.tmp 19), type := 23, pos := _, after := #[{ on := 6, ground := Ground.guard }], guard := some (6, true) }) (v := .agg p.cs.toArray) rfl (by kernel_rfl) (by kernel_rfl) (by kernel_rfl) (fun _ _ _ h => h)
    (yields_row 23 54 arrL (by rfl) (.tmp 19) rfl gr (by rfl) p.l hp (fun u hu => rr.later hu)) hHeld ?_
  try simp only [Act.put, List.setIfInBounds_toArray, List.set_cons_zero, List.set_cons_succ]
  refine wpAnyH_take (i := 8) (oi := { dst := some 82, op := Op.load 23 (Operand.tmp 4), type := 23, pos := _, after := #[{ on := 6, ground := Ground.guard }], guard := some (6, true) }) (v := .agg p.cs.toArray) rfl (by kernel_rfl) (by kernel_rfl) (by kernel_rfl) (fun _ _ _ h => h)
    (yields_row 23 54 arrL (by rfl) (.tmp 4) rfl g0 (by rfl) p.l hp (fun u hu => rp.later hu)) hHeld ?_
  try simp only [Act.put, List.setIfInBounds_toArray, List.set_cons_zero, List.set_cons_succ]
  refine wpAnyH_take (i := 9) (oi := { dst := some 83, op := Op.binOp BinOp.eql 23 (Operand.tmp 81) (Operand.tmp 82) 23, type := 4, pos := _, after := #[{ on := 7, ground := Ground.data }, { on := 8, ground := Ground.data }, { on := 6, ground := Ground.guard }], guard := some (6, true) }) (v := .bool true) rfl (by kernel_rfl) (by kernel_rfl) (by kernel_rfl) (fun _ _ _ h => h) (Or.inl ⟨by rfl, ?_⟩) hHeld ?_
  · intro u hu
    go_simp
  try simp only [Act.put, List.setIfInBounds_toArray, List.set_cons_zero, List.set_cons_succ]
  refine wpAnyH_take (i := 10) (oi := { dst := some 84, op := Op.pick (Operand.tmp 80) (Operand.tmp 83) (Operand.const (Value.bool false)), type := 4, pos := _, after := #[{ on := 6, ground := Ground.data }, { on := 9, ground := Ground.data }], guard := none }) (v := .bool true) rfl (by kernel_rfl) (by kernel_rfl) (by kernel_rfl) (fun _ _ _ h => h) (Or.inl ⟨by rfl, ?_⟩) hHeld ?_
  · intro u hu
    go_simp
  try simp only [Act.put, List.setIfInBounds_toArray, List.set_cons_zero, List.set_cons_succ]
  refine wpAnyH_take (i := 11) (oi := { dst := some 85, op := Op.move (Operand.tmp 84), type := 4, pos := _, after := #[{ on := 10, ground := Ground.data }, { on := 6, ground := Ground.chain }], guard := none }) (v := .bool true) rfl (by kernel_rfl) (by kernel_rfl) (by kernel_rfl) (fun _ _ _ h => h) (Or.inl ⟨by rfl, ?_⟩) hHeld ?_
  · intro u hu
    go_simp
  try simp only [Act.put, List.setIfInBounds_toArray, List.set_cons_zero, List.set_cons_succ]
  refine wpAnyH_take (i := 12) (oi := { dst := some 86, op := Op.move (Operand.tmp 17), type := 4, pos := _, after := #[{ on := 11, ground := Ground.guard }], guard := some (11, true) }) (v := .bool y) rfl (by kernel_rfl) (by kernel_rfl) (by kernel_rfl) (fun _ _ _ h => h) (Or.inl ⟨by rfl, ?_⟩) hHeld ?_
  · intro u hu
    go_simp
  try simp only [Act.put, List.setIfInBounds_toArray, List.set_cons_zero, List.set_cons_succ]
  refine wpAnyH_take (i := 13) (oi := { dst := some 87, op := Op.move (Operand.tmp 15), type := 4, pos := _, after := #[{ on := 11, ground := Ground.guard }], guard := some (11, true) }) (v := .bool false) rfl (by kernel_rfl) (by kernel_rfl) (by kernel_rfl) (fun _ _ _ h => h) (Or.inl ⟨by rfl, ?_⟩) hHeld ?_
  · intro u hu
    go_simp
  try simp only [Act.put, List.setIfInBounds_toArray, List.set_cons_zero, List.set_cons_succ]
  refine wpAnyH_take (i := 14) (oi := { dst := some 88, op := Op.move (Operand.tmp 87), type := 4, pos := _, after := #[{ on := 13, ground := Ground.data }, { on := 11, ground := Ground.chain }, { on := 11, ground := Ground.guard }], guard := some (11, true) }) (v := .bool false) rfl (by kernel_rfl) (by kernel_rfl) (by kernel_rfl) (fun _ _ _ h => h) (Or.inl ⟨by rfl, ?_⟩) hHeld ?_
  · intro u hu
    go_simp
  try simp only [Act.put, List.setIfInBounds_toArray, List.set_cons_zero, List.set_cons_succ]
  refine wpAnyH_take (i := 15) (oi := { dst := some 89, op := Op.move (Operand.tmp 2), type := 3, pos := _, after := #[{ on := 14, ground := Ground.guard }], guard := some (14, false) }) (v := .int .i64 (i : Int)) rfl (by kernel_rfl) (by kernel_rfl) (by kernel_rfl) (fun _ _ _ h => h) (Or.inl ⟨by rfl, ?_⟩) hHeld ?_
  · intro u hu
    go_simp
  try simp only [Act.put, List.setIfInBounds_toArray, List.set_cons_zero, List.set_cons_succ]
  refine wpAnyH_take (i := 16) (oi := { dst := some 90, op := Op.move (Operand.tmp 3), type := 3, pos := _, after := #[{ on := 14, ground := Ground.guard }], guard := some (14, false) }) (v := .int .i64 (j : Int)) rfl (by kernel_rfl) (by kernel_rfl) (by kernel_rfl) (fun _ _ _ h => h) (Or.inl ⟨by rfl, ?_⟩) hHeld ?_
  · intro u hu
    go_simp
  try simp only [Act.put, List.setIfInBounds_toArray, List.set_cons_zero, List.set_cons_succ]
  refine wpAnyH_take (i := 17) (oi := { dst := some 91, op := Op.binOp BinOp.eql 3 (Operand.tmp 89) (Operand.tmp 90) 3, type := 4, pos := _, after := #[{ on := 15, ground := Ground.data }, { on := 16, ground := Ground.data }, { on := 14, ground := Ground.guard }], guard := some (14, false) }) (v := .bool y) rfl (by kernel_rfl) (by kernel_rfl) (by kernel_rfl) (fun _ _ _ h => h) (Or.inl ⟨by rfl, ?_⟩) hHeld ?_
  · intro u hu
    (go_simp; try exact hdB)
  try simp only [Act.put, List.setIfInBounds_toArray, List.set_cons_zero, List.set_cons_succ]
  refine wpAnyH_take (i := 18) (oi := { dst := some 92, op := Op.pick (Operand.tmp 88) (Operand.const (Value.bool true)) (Operand.tmp 91), type := 4, pos := _, after := #[{ on := 14, ground := Ground.data }, { on := 17, ground := Ground.data }, { on := 11, ground := Ground.guard }], guard := some (11, true) }) (v := .bool y) rfl (by kernel_rfl) (by kernel_rfl) (by kernel_rfl) (fun _ _ _ h => h) (Or.inl ⟨by rfl, ?_⟩) hHeld ?_
  · intro u hu
    go_simp
  try simp only [Act.put, List.setIfInBounds_toArray, List.set_cons_zero, List.set_cons_succ]
  refine wpAnyH_take (i := 19) (oi := { dst := some 93, op := Op.binOp BinOp.eql 4 (Operand.tmp 86) (Operand.tmp 92) 4, type := 4, pos := _, after := #[{ on := 12, ground := Ground.data }, { on := 18, ground := Ground.data }, { on := 11, ground := Ground.guard }], guard := some (11, true) }) (v := .bool true) rfl (by kernel_rfl) (by kernel_rfl) (by kernel_rfl) (fun _ _ _ h => h) (Or.inl ⟨by rfl, ?_⟩) hHeld ?_
  · intro u hu
    go_simp
  try simp only [Act.put, List.setIfInBounds_toArray, List.set_cons_zero, List.set_cons_succ]
  refine wpAnyH_take (i := 20) (oi := { dst := some 94, op := Op.pick (Operand.tmp 85) (Operand.tmp 93) (Operand.const (Value.bool false)), type := 4, pos := _, after := #[{ on := 11, ground := Ground.data }, { on := 19, ground := Ground.data }], guard := none }) (v := .bool true) rfl (by kernel_rfl) (by kernel_rfl) (by kernel_rfl) (fun _ _ _ h => h) (Or.inl ⟨by rfl, ?_⟩) hHeld ?_
  · intro u hu
    go_simp
  try simp only [Act.put, List.setIfInBounds_toArray, List.set_cons_zero, List.set_cons_succ]
  refine wpAnyH_take (i := 21) (oi := { dst := some 95, op := Op.move (Operand.tmp 94), type := 4, pos := _, after := #[{ on := 20, ground := Ground.data }, { on := 14, ground := Ground.chain }], guard := none }) (v := .bool true) rfl (by kernel_rfl) (by kernel_rfl) (by kernel_rfl) (fun _ _ _ h => h) (Or.inl ⟨by rfl, ?_⟩) hHeld ?_
  · intro u hu
    go_simp
  try simp only [Act.put, List.setIfInBounds_toArray, List.set_cons_zero, List.set_cons_succ]
  refine wpAnyH_take (i := 22) (oi := { dst := some 96, op := Op.load 23 (Operand.tmp 13), type := 23, pos := _, after := #[{ on := 21, ground := Ground.guard }], guard := some (21, true) }) (v := .agg q.cs.toArray) rfl (by kernel_rfl) (by kernel_rfl) (by kernel_rfl) (fun _ _ _ h => h)
    (yields_row 23 54 arrL (by rfl) (.tmp 13) rfl gq (by rfl) q.l hq (fun u hu => rq.later hu)) hHeld ?_
  try simp only [Act.put, List.setIfInBounds_toArray, List.set_cons_zero, List.set_cons_succ]
  refine wpAnyH_take (i := 23) (oi := { dst := some 97, op := Op.load 23 (Operand.tmp 4), type := 23, pos := _, after := #[{ on := 21, ground := Ground.guard }], guard := some (21, true) }) (v := .agg p.cs.toArray) rfl (by kernel_rfl) (by kernel_rfl) (by kernel_rfl) (fun _ _ _ h => h)
    (yields_row 23 54 arrL (by rfl) (.tmp 4) rfl g0 (by rfl) p.l hp (fun u hu => rp.later hu)) hHeld ?_
  try simp only [Act.put, List.setIfInBounds_toArray, List.set_cons_zero, List.set_cons_succ]
  refine wpAnyH_take (i := 24) (oi := { dst := some 98, op := Op.binOp BinOp.eql 23 (Operand.tmp 96) (Operand.tmp 97) 23, type := 4, pos := _, after := #[{ on := 22, ground := Ground.data }, { on := 23, ground := Ground.data }, { on := 21, ground := Ground.guard }], guard := some (21, true) }) (v := .bool false) rfl (by kernel_rfl) (by kernel_rfl) (by kernel_rfl) (fun _ _ _ h => h) (Or.inl ⟨by rfl, ?_⟩) hHeld ?_
  · intro u hu
    go_simp
  try simp only [Act.put, List.setIfInBounds_toArray, List.set_cons_zero, List.set_cons_succ]
  refine wpAnyH_take (i := 25) (oi := { dst := some 99, op := Op.move (Operand.tmp 11), type := 4, pos := _, after := #[{ on := 21, ground := Ground.guard }], guard := some (21, true) }) (v := .bool false) rfl (by kernel_rfl) (by kernel_rfl) (by kernel_rfl) (fun _ _ _ h => h) (Or.inl ⟨by rfl, ?_⟩) hHeld ?_
  · intro u hu
    go_simp
  try simp only [Act.put, List.setIfInBounds_toArray, List.set_cons_zero, List.set_cons_succ]
  refine wpAnyH_take (i := 26) (oi := { dst := some 100, op := Op.binOp BinOp.eql 4 (Operand.tmp 98) (Operand.tmp 99) 4, type := 4, pos := _, after := #[{ on := 24, ground := Ground.data }, { on := 25, ground := Ground.data }, { on := 21, ground := Ground.guard }], guard := some (21, true) }) (v := .bool true) rfl (by kernel_rfl) (by kernel_rfl) (by kernel_rfl) (fun _ _ _ h => h) (Or.inl ⟨by rfl, ?_⟩) hHeld ?_
  · intro u hu
    go_simp
  try simp only [Act.put, List.setIfInBounds_toArray, List.set_cons_zero, List.set_cons_succ]
  refine wpAnyH_take (i := 27) (oi := { dst := some 101, op := Op.pick (Operand.tmp 95) (Operand.tmp 100) (Operand.const (Value.bool false)), type := 4, pos := _, after := #[{ on := 21, ground := Ground.data }, { on := 26, ground := Ground.data }], guard := none }) (v := .bool true) rfl (by kernel_rfl) (by kernel_rfl) (by kernel_rfl) (fun _ _ _ h => h) (Or.inl ⟨by rfl, ?_⟩) hHeld ?_
  · intro u hu
    go_simp
  try simp only [Act.put, List.setIfInBounds_toArray, List.set_cons_zero, List.set_cons_succ]
  refine wpAnyH_take (i := 28) (oi := { dst := some 102, op := Op.move (Operand.tmp 101), type := 4, pos := _, after := #[{ on := 27, ground := Ground.data }, { on := 21, ground := Ground.chain }], guard := none }) (v := .bool true) rfl (by kernel_rfl) (by kernel_rfl) (by kernel_rfl) (fun _ _ _ h => h) (Or.inl ⟨by rfl, ?_⟩) hHeld ?_
  · intro u hu
    go_simp
  try simp only [Act.put, List.setIfInBounds_toArray, List.set_cons_zero, List.set_cons_succ]
  refine wpAnyH_take (i := 29) (oi := { dst := some 103, op := Op.move (Operand.tmp 11), type := 4, pos := _, after := #[{ on := 28, ground := Ground.guard }], guard := some (28, true) }) (v := .bool false) rfl (by kernel_rfl) (by kernel_rfl) (by kernel_rfl) (fun _ _ _ h => h) (Or.inl ⟨by rfl, ?_⟩) hHeld ?_
  · intro u hu
    go_simp
  try simp only [Act.put, List.setIfInBounds_toArray, List.set_cons_zero, List.set_cons_succ]
  refine wpAnyH_take (i := 30) (oi := { dst := some 104, op := Op.move (Operand.tmp 103), type := 4, pos := _, after := #[{ on := 29, ground := Ground.data }, { on := 28, ground := Ground.chain }, { on := 28, ground := Ground.guard }], guard := some (28, true) }) (v := .bool false) rfl (by kernel_rfl) (by kernel_rfl) (by kernel_rfl) (fun _ _ _ h => h) (Or.inl ⟨by rfl, ?_⟩) hHeld ?_
  · intro u hu
    go_simp
  try simp only [Act.put, List.setIfInBounds_toArray, List.set_cons_zero, List.set_cons_succ]
  refine wpAnyH_take (i := 31) (oi := { dst := some 105, op := Op.move (Operand.tmp 21), type := 3, pos := _, after := #[{ on := 30, ground := Ground.guard }], guard := some (30, false) }) (v := .int .i64 (at' : Int)) rfl (by kernel_rfl) (by kernel_rfl) (by kernel_rfl) (fun _ _ _ h => h) (Or.inl ⟨by rfl, ?_⟩) hHeld ?_
  · intro u hu
    go_simp
  try simp only [Act.put, List.setIfInBounds_toArray, List.set_cons_zero, List.set_cons_succ]
  refine wpAnyH_take (i := 32) (oi := { dst := some 106, op := Op.indexAddr 23 (Operand.tmp 13) (Operand.tmp 105), type := 0, pos := _, after := #[{ on := 31, ground := Ground.data }, { on := 30, ground := Ground.guard }], guard := some (30, false) }) (v := .pointer (some ⟨gq, at', none⟩)) rfl (by kernel_rfl) (by kernel_rfl) (by kernel_rfl) (fun _ _ _ h => h) (Or.inl ⟨by rfl, ?_⟩) hHeld ?_
  · intro u hu
    (have hl : (at' : Int) < 54 := by omega); go_simp
  try simp only [Act.put, List.setIfInBounds_toArray, List.set_cons_zero, List.set_cons_succ]
  refine wpAnyH_take (i := 33) (oi := { dst := some 107, op := Op.load 5 (Operand.tmp 106), type := 5, pos := _, after := #[{ on := 32, ground := Ground.data }, { on := 30, ground := Ground.guard }], guard := some (30, false) }) (v := .int .u8 bq) rfl (by kernel_rfl) (by kernel_rfl) (by kernel_rfl) (fun _ _ _ h => h) (Or.inl ⟨by rfl, ?_⟩) hHeld ?_
  · intro u hu
    (have cq := (rq.later hu).cell at' (by omega)); rw [hbq.out] at cq; go_simp
  try simp only [Act.put, List.setIfInBounds_toArray, List.set_cons_zero, List.set_cons_succ]
  refine wpAnyH_take (i := 34) (oi := { dst := some 108, op := Op.move (Operand.tmp 21), type := 3, pos := _, after := #[{ on := 30, ground := Ground.guard }], guard := some (30, false) }) (v := .int .i64 (at' : Int)) rfl (by kernel_rfl) (by kernel_rfl) (by kernel_rfl) (fun _ _ _ h => h) (Or.inl ⟨by rfl, ?_⟩) hHeld ?_
  · intro u hu
    go_simp
  try simp only [Act.put, List.setIfInBounds_toArray, List.set_cons_zero, List.set_cons_succ]
  refine wpAnyH_take (i := 35) (oi := { dst := some 109, op := Op.indexAddr 23 (Operand.tmp 4) (Operand.tmp 108), type := 0, pos := _, after := #[{ on := 34, ground := Ground.data }, { on := 30, ground := Ground.guard }], guard := some (30, false) }) (v := .pointer (some ⟨g0, at', none⟩)) rfl (by kernel_rfl) (by kernel_rfl) (by kernel_rfl) (fun _ _ _ h => h) (Or.inl ⟨by rfl, ?_⟩) hHeld ?_
  · intro u hu
    (have hl : (at' : Int) < 54 := by omega); go_simp
  try simp only [Act.put, List.setIfInBounds_toArray, List.set_cons_zero, List.set_cons_succ]
  refine wpAnyH_take (i := 36) (oi := { dst := some 110, op := Op.load 5 (Operand.tmp 109), type := 5, pos := _, after := #[{ on := 35, ground := Ground.data }, { on := 30, ground := Ground.guard }], guard := some (30, false) }) (v := .int .u8 bp) rfl (by kernel_rfl) (by kernel_rfl) (by kernel_rfl) (fun _ _ _ h => h) (Or.inl ⟨by rfl, ?_⟩) hHeld ?_
  · intro u hu
    (have cp := (rp.later hu).cell at' (by omega)); rw [hbp.out] at cp; go_simp
  try simp only [Act.put, List.setIfInBounds_toArray, List.set_cons_zero, List.set_cons_succ]
  refine wpAnyH_take (i := 37) (oi := { dst := some 111, op := Op.binOp BinOp.neq 5 (Operand.tmp 107) (Operand.tmp 110) 5, type := 4, pos := _, after := #[{ on := 33, ground := Ground.data }, { on := 36, ground := Ground.data }, { on := 30, ground := Ground.guard }], guard := some (30, false) }) (v := .bool true) rfl (by kernel_rfl) (by kernel_rfl) (by kernel_rfl) (fun _ _ _ h => h) (Or.inl ⟨by rfl, ?_⟩) hHeld ?_
  · intro u hu
    (have hne : ¬ bq = bp := hby.resolve_left (by decide)); go_simp
  try simp only [Act.put, List.setIfInBounds_toArray, List.set_cons_zero, List.set_cons_succ]
  refine wpAnyH_take (i := 38) (oi := { dst := some 112, op := Op.pick (Operand.tmp 104) (Operand.const (Value.bool true)) (Operand.tmp 111), type := 4, pos := _, after := #[{ on := 30, ground := Ground.data }, { on := 37, ground := Ground.data }, { on := 28, ground := Ground.guard }], guard := some (28, true) }) (v := .bool true) rfl (by kernel_rfl) (by kernel_rfl) (by kernel_rfl) (fun _ _ _ h => h) (Or.inl ⟨by rfl, ?_⟩) hHeld ?_
  · intro u hu
    go_simp
  try simp only [Act.put, List.setIfInBounds_toArray, List.set_cons_zero, List.set_cons_succ]
  refine wpAnyH_take (i := 39) (oi := { dst := some 113, op := Op.pick (Operand.tmp 102) (Operand.tmp 112) (Operand.const (Value.bool false)), type := 4, pos := _, after := #[{ on := 28, ground := Ground.data }, { on := 38, ground := Ground.data }], guard := none }) (v := .bool true) rfl (by kernel_rfl) (by kernel_rfl) (by kernel_rfl) (fun _ _ _ h => h) (Or.inl ⟨by rfl, ?_⟩) hHeld ?_
  · intro u hu
    go_simp
  try simp only [Act.put, List.setIfInBounds_toArray, List.set_cons_zero, List.set_cons_succ]
  refine wpAnyH_take (i := 40) (oi := { dst := some 8, op := Op.assign (Operand.tmp 113), type := 4, pos := _, after := #[{ on := 39, ground := Ground.data }, { on := 30, ground := Ground.chain }, { on := 0, ground := Ground.phase }, { on := 1, ground := Ground.phase }, { on := 2, ground := Ground.phase }, { on := 3, ground := Ground.phase }, { on := 4, ground := Ground.phase }, { on := 5, ground := Ground.phase }, { on := 6, ground := Ground.phase }, { on := 7, ground := Ground.phase }, { on := 8, ground := Ground.phase }, { on := 9, ground := Ground.phase }, { on := 10, ground := Ground.phase }, { on := 11, ground := Ground.phase }, { on := 12, ground := Ground.phase }, { on := 13, ground := Ground.phase }, { on := 14, ground := Ground.phase }, { on := 15, ground := Ground.phase }, { on := 16, ground := Ground.phase }, { on := 17, ground := Ground.phase }, { on := 18, ground := Ground.phase }, { on := 19, ground := Ground.phase }, { on := 20, ground := Ground.phase }, { on := 21, ground := Ground.phase }, { on := 22, ground := Ground.phase }, { on := 23, ground := Ground.phase }, { on := 24, ground := Ground.phase }, { on := 25, ground := Ground.phase }, { on := 26, ground := Ground.phase }, { on := 27, ground := Ground.phase }, { on := 28, ground := Ground.phase }, { on := 29, ground := Ground.phase }, { on := 30, ground := Ground.phase }, { on := 31, ground := Ground.phase }, { on := 32, ground := Ground.phase }, { on := 33, ground := Ground.phase }, { on := 34, ground := Ground.phase }, { on := 35, ground := Ground.phase }, { on := 36, ground := Ground.phase }, { on := 37, ground := Ground.phase }, { on := 38, ground := Ground.phase }, { on := 39, ground := Ground.phase }], guard := none }) (v := .bool true) rfl (by kernel_rfl) (by kernel_rfl) (by kernel_rfl) (fun _ _ _ h => h) (Or.inl ⟨by rfl, ?_⟩) hHeld ?_
  · intro u hu
    go_simp
  try simp only [Act.put, List.setIfInBounds_toArray, List.set_cons_zero, List.set_cons_succ]
  refine wpAnyH_done (by kernel_rfl) ?_ _
  go_wp2_with fail
  go_returns
  exact ⟨rfl, (S.next (Stp.of_below hHeld (fun _ => False)) (fun _ h => h.elim)).below (Nat.le_refl _) (fun _ h => h)⟩
theorem walk (p : Ld) (b : Bool) (a c : Int) (w : World) (w2 : (Lit.int .i64 a).wf = true) (w3 : (Lit.int .i64 c).wf = true) :
    Calls Try.prog 5 #[.agg p.cs.toArray, .bool b, .int .i64 a, .int .i64 c] w fun e w' => e = .returned (.bool true) ∧ Below w.heap.size w w' := by
  obtain ⟨was, x, y, d, at', F⟩ := facts p b a c
  cases b <;> cases x <;> cases was
  · exact walk_d_ff p _ a c _ _ y d at' w rfl rfl F
  · exact walk_d_ft p _ a c _ _ y d at' w rfl rfl F
  · exact walk_d_tf p _ a c _ _ y d at' w rfl rfl F
  · exact walk_d_tt p _ a c _ _ y d at' w rfl rfl F
  · exact walk_i_ff p _ a c _ _ y d at' w rfl rfl F
  · exact walk_i_ft p _ a c _ _ y d at' w rfl rfl F
  · exact walk_i_tf p _ a c _ _ y d at' w rfl rfl F
  · exact walk_i_tt p _ a c _ _ y d at' w rfl rfl F

theorem own : ownKnob Try.prog.godebug = none := by kernel_rfl
theorem laidOut : laidOutB Try.prog = true := by kernel_rfl
set_option maxRecDepth 100000 in
theorem lifted (os : Os) (started : os.Started) (H : Type) (enc : TypeId × Value → H) :
    ReturnsInHanded {} Try.checked os 5 .any (Rows.mapsOneSpec.pre6 enc Try.prog Try.f5 Rows.mapsOneRow.domain false) (Rows.mapsOneSpec.post enc Try.prog Try.f5 false true false false) := by
  refine returnsInHanded_of_change (C := Try.checked) own started (by kernel_rfl) Try.func5
    (ChangeSpec.witness6 (enc := enc) (C := Try.checked) false ⟨#[], #[.agg Ld.zero.cs.toArray, .bool false, .int .i64 0, .int .i64 0], []⟩ 8 (by kernel_rfl) (by kernel_rfl) (by kernel_rfl) (by kernel_rfl)) ?_
  intro W base args ds gs before hval0 hW hcnd _
  have hval : ∀ (j : Nat) t v, Try.f5.params[j]? = some t → args[j]? = some v → Value.okWide Try.prog W .any base t v := hval0
  have hW' := hW
  obtain ⟨p, q, hA0, hV, rfl, hfz, hnd⟩ := hW
  have hA : DataW.TrodAll enc Try.prog W 0 (fun _ => true) true Try.f5.params.toList args.toList ds p := hA0
  rw [Try.params5] at hA hval
  obtain ⟨v0, vs0, d0, ds0, p0, q0, hargs, rfl, rfl, h0, r0⟩ := trodAll_cons hA
  obtain ⟨v1, vs1, d1, ds1, p1, q1, rfl, rfl, rfl, h1, r1⟩ := trodAll_cons r0
  obtain ⟨v2, vs2, d2, ds2, p2, q2, rfl, rfl, rfl, h2, r2⟩ := trodAll_cons r1
  obtain ⟨v3, vs3, d3, ds3, p3, q3, rfl, rfl, rfl, h3, r3⟩ := trodAll_cons r2
  obtain ⟨rfl, rfl, rfl⟩ := trodAll_nil r3
  obtain rfl : args = #[v0, v1, v2, v3] := by cases args; simp_all
  obtain ⟨rfl, rfl⟩ := trodVars_none hV
  obtain ⟨cs0, rfl, _⟩ := okWide_row arrL.und (hval 0 23 v0 rfl rfl)
  have k0 := h0
  have lt0 : ∀ x ∈ p0, x.block < W.heap.size := by obtain ⟨m, hm⟩ := k0; exact DataW.trod_lt m _ _ _ hm
  obtain ⟨b0, e0⟩ : ∃ b : Ld, cs0 = b.cs.toArray := by
    obtain ⟨fuel, hf⟩ := h0
    obtain ⟨b, hb⟩ := ldOfTrod hf
    exact ⟨b, by rw [hb]; simp [Value.cells]⟩
  subst e0
  obtain ⟨a1, rfl, rfl, rfl⟩ := open_bool Try.underlying4 (hval 1 4 v1 rfl rfl) h1
  obtain ⟨a2, rfl, rfl, rfl, w2⟩ := open_int Try.underlying3 (hval 2 3 v2 rfl rfl) h2
  obtain ⟨a3, rfl, rfl, rfl, w3⟩ := open_int Try.underlying3 (hval 3 3 v3 rfl rfl) h3
  clear hA0 hval0
  refine (walk b0 a1 a2 a3 W w2 w3).mono fun e W' ⟨he, bel⟩ => ?_
  subst he
  exact ⟨_, rfl, _, _, _, [], _, [], hW', trodAll_mk1 (shut_bool Try.underlying4 _), (trodAll_cons_mk (Below.trod laidOut (by kernel_rfl) (of_decide_eq_true (by kernel_rfl)) k0 bel lt0) (trodAll_cons_mk (shut_bool Try.underlying4 a1) (trodAll_cons_mk (shut_int Try.underlying3 w2) (trodAll_cons_mk (shut_int Try.underlying3 w3) trodAll_mk0)))), rfl, bel.frame _, fun h => by cases h⟩
theorem over : Rows.mapsOneRow.holds Try.pinned (OpenSpec.ofChange Rows.mapsOneSpec) :=
  OpenClaim.holds_of_wide 5 Try.f5 rfl rfl rfl rfl rfl rfl rfl ⟨rfl, rfl, rfl, rfl, rfl⟩ rfl rfl rfl rfl rfl (by kernel_rfl) Try.func5 (by kernel_rfl)
    (of_decide_eq_true (by kernel_rfl)) (by unfold Func.isWrapper; first | (rw [if_pos (by decide +kernel)]; kernel_rfl) | (rw [if_neg (by decide +kernel)]; exact ⟨rfl, rfl⟩))
    (fun os started H enc _ => lifted os started H enc)
end Go.Proofs.Ythanenbjfcndbaa.mapsOne
namespace Go.Proofs.Ythanenbjfcndbaa
/-- The statement. -/
theorem mapsOne_holds : Rows.MapsOneSaid := mapsOne.over
#print axioms mapsOne_holds
end Go.Proofs.Ythanenbjfcndbaa
