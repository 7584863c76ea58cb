/-
  The statement MapsTells, proved: for every load, group, kind, place and on the law returns true, and what came in reads as it did; no condition.
-/
import Derived.Test.YthanenbjfcndbaaMapD
import Derived.Test.YthanenbjfcndbaaMapE
import Derived.Test.YthanenbjfcndbaaMapK
namespace Go.Proofs.Ythanenbjfcndbaa.mapsTells
open Go.ChangeShapes Go.WideShapes Go.ChangeAt Go.RowKit
set_option linter.unusedVariables false

set_option maxRecDepth 100000 in
set_option maxHeartbeats 8000000 in
theorem walk (p : Ld) (g k i : Int) (on : Bool) (w : World) (w1 : (Lit.int .i64 g).wf = true) (w2 : (Lit.int .i64 k).wf = true) (w3 : (Lit.int .i64 i).wf = true) :
    Calls Try.prog 3 #[.agg p.cs.toArray, .int .i64 g, .int .i64 k, .int .i64 i, .bool on] w fun e w' => e = .returned (.bool true) ∧ Below w.heap.size w w' := by
  have hp := p.len
  have H1 : Hid _ := fun w => mhead_any g w
  have H2 : Hid _ := fun w => rmhead_any g w
  have H3 : Hid _ := fun w => taken_any p k i w w2
  have H4 : Hid _ := fun w => rtaken_any p k i w w3
  have H5 : Hid _ := fun w => mwith_any p k i on w w2
  have H6 : Hid _ := fun w => rmwith_any p k i on w w3
  have H7 : Hid _ := fun w => byte_any k i w w2
  have H8 : Hid _ := fun w => rbyte_any k i w w3
  have H9 : Hid _ := fun w => headRight_any p g w
  have H10 : Hid _ := fun w => rheadRight_any p g w
  have H11 : Hid _ := fun w => headRight_any (hL g) g w
  rw [hR_own] at H11
  have hA := (hL g).len
  have hq := (mW p k i on).len
  generalize hL g = A at *
  generalize hE g = e0 at *
  generalize mT p k i = c at *
  generalize mE k i = E at *
  generalize mW p k i on = q at *
  generalize mB k i = m at *
  generalize hR p g = h at *
  have qA : ∀ w, (Op.equalIn 10000 23 (.agg A.cs.toArray) (.agg A.cs.toArray)).run Try.prog w = .ok true w := fun w => by rw [eqL]; simp
  have qQ : ∀ w, (Op.equalIn 10000 23 (.agg q.cs.toArray) (.agg q.cs.toArray)).run Try.prog w = .ok true w := fun w => by rw [eqL]; simp
  have gL := guardL
  have t1 : True := trivial
  have t2 : True := trivial
  have t3 : True := trivial
  go_enter Try.func3, Try.ntmps3
  go_wp2_with (first
    | (refine at_box 23 54 arrL (by rfl) _ (by rfl) p.l (by rfl) hp ?_; intro g0 u0 a0 z0 r0 b0)
    | (refine at_getL (by rfl) _ (by rfl) g0 (by rfl) p rp11 ?_)
    | (refine at_getL (by rfl) _ (by rfl) g0 (by rfl) p rp8 ?_)
    | (refine at_getL (by rfl) _ (by rfl) g0 (by rfl) p rp7 ?_)
    | (refine at_getL (by rfl) _ (by rfl) g0 (by rfl) p rp6 ?_)
    | (go_at_call 8; refine (H1.out _).mono ?_; rintro e u1 ⟨rfl, b1⟩)
    | (have _t := t1; refine at_new 23 54 arrL (by rfl) (by rfl) ?_; intro gx u2 a2 z2 r2 b2; clear _t)
    | (have _t := t1; refine at_put 23 54 arrL (by rfl) _ _ (by rfl) gx (by rfl) A.l (by rfl) hA _ r2 (by simp) ?_; intro u3 rx3 s3; clear _t t1
       have rp3 : Row u3 g0 p.l := ((r0.later b1).later b2).step s3 (by have := r0.lt; have := b1.size; omega)
       have S3 : Stp (fun x => w.heap.size ≤ x) w u3 := (Stp.of_below (bnext (bnext b0 b1 (Nat.le_refl _)) b2 (Nat.le_refl _)) (fun x => w.heap.size ≤ x)).next s3 (fun x hx => .inl (by subst hx; have := b0.size; have := b1.size; omega))
       clear r0 r2 b0 b1 b2 s3 a2 z2)
    | (go_at_call 9; refine (H2.out _).mono ?_; rintro e u4 ⟨rfl, b4⟩)
    | (have _t := t2; refine at_new 23 54 arrL (by rfl) (by rfl) ?_; intro gy u5 a5 z5 r5 b5; clear _t)
    | (have _t := t2; refine at_put 23 54 arrL (by rfl) _ _ (by rfl) gy (by rfl) A.l (by rfl) hA _ r5 (by simp) ?_; intro u6 ry6 s6; clear _t t2
       have rp6 : Row u6 g0 p.l := ((rp3.later b4).later b5).step s6 (by have := rp3.lt; have := b4.size; omega)
       have rx6 : Row u6 gx A.l := ((rx3.later b4).later b5).step s6 (by have := rx3.lt; have := b4.size; omega)
       have S6 := (S3.next (Stp.of_below (bnext b4 b5 (Nat.le_refl _)) (fun _ => False)) (fun _ h => h.elim)).next s6 (fun x hx => .inl (by subst hx; have := S3.size; have := b4.size; omega))
       clear rp3 rx3 S3 r5 b4 b5 s6 a5 z5)
    | (go_at_call 10; refine (H3.out _).mono ?_; rintro e u7 ⟨rfl, b7⟩; have rp7 := rp6.later b7)
    | (go_at_call 11; refine (H4.out _).mono ?_; rintro e u8 ⟨rfl, b8⟩
       have rp8 := rp7.later b8
       have B8 := bnext b7 b8 (Nat.le_refl _)
       have rx8 := rx6.later B8
       have ry8 := ry6.later B8
       have S8 := S6.next (Stp.of_below B8 (fun _ => False)) (fun _ h => h.elim)
       clear rp6 rp7 rx6 ry6 S6 b7 b8 B8)
    | (go_at_call 12; refine (H5.out _).mono ?_; rintro e u9 ⟨rfl, b9⟩)
    | (have _t := t3; refine at_new 23 54 arrL (by rfl) (by rfl) ?_; intro gq u10 a10 z10 r10 b10; clear _t)
    | (have _t := t3; refine at_put 23 54 arrL (by rfl) _ _ (by rfl) gq (by rfl) q.l (by rfl) hq _ r10 (by simp) ?_; intro u11 rq11 s11; clear _t t3
       have rp11 : Row u11 g0 p.l := ((rp8.later b9).later b10).step s11 (by have := rp8.lt; have := b9.size; omega)
       have rx11 : Row u11 gx A.l := ((rx8.later b9).later b10).step s11 (by have := rx8.lt; have := b9.size; omega)
       have ry11 : Row u11 gy A.l := ((ry8.later b9).later b10).step s11 (by have := ry8.lt; have := b9.size; omega)
       have S11 := (S8.next (Stp.of_below (bnext b9 b10 (Nat.le_refl _)) (fun _ => False)) (fun _ h => h.elim)).next s11 (fun x hx => .inl (by subst hx; have := S8.size; have := b9.size; omega))
       clear rp8 rx8 ry8 S8 r10 b9 b10 s11 a10 z10)
    | (go_at_call 13; refine (H6.out _).mono ?_; rintro e u12 ⟨rfl, b12⟩)
    | (refine at_new 23 54 arrL (by rfl) (by rfl) ?_; intro gs u13 a13 z13 r13 b13)
    | (refine at_put 23 54 arrL (by rfl) _ _ (by rfl) gs (by rfl) q.l (by rfl) hq _ r13 (by simp) ?_; intro u14 rs14 s14
       have rp14 : Row u14 g0 p.l := ((rp11.later b12).later b13).step s14 (by have := rp11.lt; have := b12.size; omega)
       have rx14 : Row u14 gx A.l := ((rx11.later b12).later b13).step s14 (by have := rx11.lt; have := b12.size; omega)
       have ry14 : Row u14 gy A.l := ((ry11.later b12).later b13).step s14 (by have := ry11.lt; have := b12.size; omega)
       have rq14 : Row u14 gq q.l := ((rq11.later b12).later b13).step s14 (by have := rq11.lt; have := b12.size; omega)
       have S14 := (S11.next (Stp.of_below (bnext b12 b13 (Nat.le_refl _)) (fun _ => False)) (fun _ h => h.elim)).next s14 (fun x hx => .inl (by subst hx; have := S11.size; have := b12.size; omega))
       clear rp11 rx11 ry11 rq11 S11 r13 b12 b13 s14 a13 z13)
    | (go_at_call 14; refine (H7.out _).mono ?_; rintro e W ⟨rfl, b15⟩
       have rp := rp14.later b15
       have rx := rx14.later b15
       have ry := ry14.later b15
       have rq := rq14.later b15
       have rs := rs14.later b15
       have S := S14.next (Stp.of_below b15 (fun _ => False)) (fun _ h => h.elim)
       clear rp14 rx14 ry14 rq14 rs14 S14 b15)
    | (go_at_call 15; refine (H8.out _).mono ?_; rintro e w' ⟨rfl, rfl⟩))
  clear H1 H2 H3 H4 H5 H6 H7 H8
  refine wp_region_held_drew (S := fun u => Below W.heap.size W u) (by kernel_rfl) (Below.refl _ _).drew (fun hHeld => ?_)
  refine wpAnyH_take (i := 0) (oi := { dst := some 79, op := Op.load 23 (Operand.tmp 11), type := 23, pos := _, after := #[], guard := none }) (v := .agg A.cs.toArray) rfl (by kernel_rfl) (by kernel_rfl) (by kernel_rfl) (fun _ _ _ h => h)
    (yields_row 23 54 arrL (by rfl) (.tmp 11) rfl gx (by rfl) A.l hA (fun u hu => rx.later hu)) hHeld ?_
  try simp only [Act.put, List.setIfInBounds_toArray, List.set_cons_zero, List.set_cons_succ]
  refine wpAnyH_take (i := 1) (oi := { dst := some 80, op := Op.load 23 (Operand.tmp 13), type := 23, pos := _, after := #[], guard := none }) (v := .agg A.cs.toArray) rfl (by kernel_rfl) (by kernel_rfl) (by kernel_rfl) (fun _ _ _ h => h)
    (yields_row 23 54 arrL (by rfl) (.tmp 13) rfl gy (by rfl) A.l hA (fun u hu => ry.later hu)) hHeld ?_
  try simp only [Act.put, List.setIfInBounds_toArray, List.set_cons_zero, List.set_cons_succ]
  refine wpAnyH_take (i := 2) (oi := { dst := some 81, op := Op.binOp BinOp.eql 23 (Operand.tmp 79) (Operand.tmp 80) 23, type := 4, pos := _, after := #[{ on := 0, ground := Ground.data }, { on := 1, ground := Ground.data }], guard := none }) (v := .bool true) rfl (by kernel_rfl) (by kernel_rfl) (by kernel_rfl) (fun _ _ _ h => h) (Or.inl ⟨by rfl, ?_⟩) hHeld ?_
  · intro u hu
    go_simp
  try simp only [Act.put, List.setIfInBounds_toArray, List.set_cons_zero, List.set_cons_succ]
  refine wpAnyH_take (i := 3) (oi := { dst := some 82, op := Op.move (Operand.tmp 81), type := 4, pos := _, after := #[{ on := 2, ground := Ground.data }], guard := none }) (v := .bool true) rfl (by kernel_rfl) (by kernel_rfl) (by kernel_rfl) (fun _ _ _ h => h) (Or.inl ⟨by rfl, ?_⟩) hHeld ?_
  · intro u hu
    go_simp
  try simp only [Act.put, List.setIfInBounds_toArray, List.set_cons_zero, List.set_cons_succ]
  refine wpAnyH_take (i := 4) (oi := { dst := some 83, op := Op.move (Operand.tmp 12), type := 24, pos := _, after := #[{ on := 3, ground := Ground.guard }], guard := some (3, true) }) (v := .int .i64 e0) rfl (by kernel_rfl) (by kernel_rfl) (by kernel_rfl) (fun _ _ _ h => h) (Or.inl ⟨by rfl, ?_⟩) hHeld ?_
  · intro u hu
    go_simp
  try simp only [Act.put, List.setIfInBounds_toArray, List.set_cons_zero, List.set_cons_succ]
  refine wpAnyH_take (i := 5) (oi := { dst := some 84, op := Op.move (Operand.tmp 14), type := 24, pos := _, after := #[{ on := 3, ground := Ground.guard }], guard := some (3, true) }) (v := .int .i64 e0) rfl (by kernel_rfl) (by kernel_rfl) (by kernel_rfl) (fun _ _ _ h => h) (Or.inl ⟨by rfl, ?_⟩) hHeld ?_
  · intro u hu
    go_simp
  try simp only [Act.put, List.setIfInBounds_toArray, List.set_cons_zero, List.set_cons_succ]
  refine wpAnyH_take (i := 6) (oi := { dst := some 85, op := Op.binOp BinOp.eql 24 (Operand.tmp 83) (Operand.tmp 84) 24, type := 4, pos := _, after := #[{ on := 4, ground := Ground.data }, { on := 5, ground := Ground.data }, { on := 3, ground := Ground.guard }], guard := some (3, true) }) (v := .bool true) rfl (by kernel_rfl) (by kernel_rfl) (by kernel_rfl) (fun _ _ _ h => h) (Or.inl ⟨by rfl, ?_⟩) hHeld ?_
  · intro u hu
    go_simp
  try simp only [Act.put, List.setIfInBounds_toArray, List.set_cons_zero, List.set_cons_succ]
  refine wpAnyH_take (i := 7) (oi := { dst := some 86, op := Op.pick (Operand.tmp 82) (Operand.tmp 85) (Operand.const (Value.bool false)), type := 4, pos := _, after := #[{ on := 3, ground := Ground.data }, { on := 6, ground := Ground.data }], guard := none }) (v := .bool true) rfl (by kernel_rfl) (by kernel_rfl) (by kernel_rfl) (fun _ _ _ h => h) (Or.inl ⟨by rfl, ?_⟩) hHeld ?_
  · intro u hu
    go_simp
  try simp only [Act.put, List.setIfInBounds_toArray, List.set_cons_zero, List.set_cons_succ]
  refine wpAnyH_take (i := 8) (oi := { dst := some 87, op := Op.move (Operand.tmp 86), type := 4, pos := _, after := #[{ on := 7, ground := Ground.data }, { on := 3, ground := Ground.chain }], guard := none }) (v := .bool true) rfl (by kernel_rfl) (by kernel_rfl) (by kernel_rfl) (fun _ _ _ h => h) (Or.inl ⟨by rfl, ?_⟩) hHeld ?_
  · intro u hu
    go_simp
  try simp only [Act.put, List.setIfInBounds_toArray, List.set_cons_zero, List.set_cons_succ]
  refine wpAnyH_take (i := 9) (oi := { dst := some 88, op := Op.move (Operand.tmp 15), type := 4, pos := _, after := #[{ on := 8, ground := Ground.guard }], guard := some (8, true) }) (v := .bool c) rfl (by kernel_rfl) (by kernel_rfl) (by kernel_rfl) (fun _ _ _ h => h) (Or.inl ⟨by rfl, ?_⟩) hHeld ?_
  · intro u hu
    go_simp
  try simp only [Act.put, List.setIfInBounds_toArray, List.set_cons_zero, List.set_cons_succ]
  refine wpAnyH_take (i := 10) (oi := { dst := some 89, op := Op.move (Operand.tmp 17), type := 4, pos := _, after := #[{ on := 8, ground := Ground.guard }], guard := some (8, true) }) (v := .bool c) rfl (by kernel_rfl) (by kernel_rfl) (by kernel_rfl) (fun _ _ _ h => h) (Or.inl ⟨by rfl, ?_⟩) hHeld ?_
  · intro u hu
    go_simp
  try simp only [Act.put, List.setIfInBounds_toArray, List.set_cons_zero, List.set_cons_succ]
  refine wpAnyH_take (i := 11) (oi := { dst := some 90, op := Op.binOp BinOp.eql 4 (Operand.tmp 88) (Operand.tmp 89) 4, type := 4, pos := _, after := #[{ on := 9, ground := Ground.data }, { on := 10, ground := Ground.data }, { on := 8, ground := Ground.guard }], guard := some (8, true) }) (v := .bool true) rfl (by kernel_rfl) (by kernel_rfl) (by kernel_rfl) (fun _ _ _ h => h) (Or.inl ⟨by rfl, ?_⟩) hHeld ?_
  · intro u hu
    go_simp
  try simp only [Act.put, List.setIfInBounds_toArray, List.set_cons_zero, List.set_cons_succ]
  refine wpAnyH_take (i := 12) (oi := { dst := some 91, op := Op.pick (Operand.tmp 87) (Operand.tmp 90) (Operand.const (Value.bool false)), type := 4, pos := _, after := #[{ on := 8, ground := Ground.data }, { on := 11, ground := Ground.data }], guard := none }) (v := .bool true) rfl (by kernel_rfl) (by kernel_rfl) (by kernel_rfl) (fun _ _ _ h => h) (Or.inl ⟨by rfl, ?_⟩) hHeld ?_
  · intro u hu
    go_simp
  try simp only [Act.put, List.setIfInBounds_toArray, List.set_cons_zero, List.set_cons_succ]
  refine wpAnyH_take (i := 13) (oi := { dst := some 92, op := Op.move (Operand.tmp 91), type := 4, pos := _, after := #[{ on := 12, ground := Ground.data }, { on := 8, ground := Ground.chain }], guard := none }) (v := .bool true) rfl (by kernel_rfl) (by kernel_rfl) (by kernel_rfl) (fun _ _ _ h => h) (Or.inl ⟨by rfl, ?_⟩) hHeld ?_
  · intro u hu
    go_simp
  try simp only [Act.put, List.setIfInBounds_toArray, List.set_cons_zero, List.set_cons_succ]
  refine wpAnyH_take (i := 14) (oi := { dst := some 93, op := Op.move (Operand.tmp 16), type := 24, pos := _, after := #[{ on := 13, ground := Ground.guard }], guard := some (13, true) }) (v := .int .i64 E) rfl (by kernel_rfl) (by kernel_rfl) (by kernel_rfl) (fun _ _ _ h => h) (Or.inl ⟨by rfl, ?_⟩) hHeld ?_
  · intro u hu
    go_simp
  try simp only [Act.put, List.setIfInBounds_toArray, List.set_cons_zero, List.set_cons_succ]
  refine wpAnyH_take (i := 15) (oi := { dst := some 94, op := Op.move (Operand.tmp 18), type := 24, pos := _, after := #[{ on := 13, ground := Ground.guard }], guard := some (13, true) }) (v := .int .i64 E) rfl (by kernel_rfl) (by kernel_rfl) (by kernel_rfl) (fun _ _ _ h => h) (Or.inl ⟨by rfl, ?_⟩) hHeld ?_
  · intro u hu
    go_simp
  try simp only [Act.put, List.setIfInBounds_toArray, List.set_cons_zero, List.set_cons_succ]
  refine wpAnyH_take (i := 16) (oi := { dst := some 95, op := Op.binOp BinOp.eql 24 (Operand.tmp 93) (Operand.tmp 94) 24, type := 4, pos := _, after := #[{ on := 14, ground := Ground.data }, { on := 15, ground := Ground.data }, { on := 13, ground := Ground.guard }], guard := some (13, true) }) (v := .bool true) rfl (by kernel_rfl) (by kernel_rfl) (by kernel_rfl) (fun _ _ _ h => h) (Or.inl ⟨by rfl, ?_⟩) hHeld ?_
  · intro u hu
    go_simp
  try simp only [Act.put, List.setIfInBounds_toArray, List.set_cons_zero, List.set_cons_succ]
  refine wpAnyH_take (i := 17) (oi := { dst := some 96, op := Op.pick (Operand.tmp 92) (Operand.tmp 95) (Operand.const (Value.bool false)), type := 4, pos := _, after := #[{ on := 13, ground := Ground.data }, { on := 16, ground := Ground.data }], guard := none }) (v := .bool true) rfl (by kernel_rfl) (by kernel_rfl) (by kernel_rfl) (fun _ _ _ h => h) (Or.inl ⟨by rfl, ?_⟩) hHeld ?_
  · intro u hu
    go_simp
  try simp only [Act.put, List.setIfInBounds_toArray, List.set_cons_zero, List.set_cons_succ]
  refine wpAnyH_take (i := 18) (oi := { dst := some 97, op := Op.move (Operand.tmp 96), type := 4, pos := _, after := #[{ on := 17, ground := Ground.data }, { on := 13, ground := Ground.chain }], guard := none }) (v := .bool true) rfl (by kernel_rfl) (by kernel_rfl) (by kernel_rfl) (fun _ _ _ h => h) (Or.inl ⟨by rfl, ?_⟩) hHeld ?_
  · intro u hu
    go_simp
  try simp only [Act.put, List.setIfInBounds_toArray, List.set_cons_zero, List.set_cons_succ]
  refine wpAnyH_take (i := 19) (oi := { dst := some 98, op := Op.load 23 (Operand.tmp 19), type := 23, pos := _, after := #[{ on := 18, ground := Ground.guard }], guard := some (18, true) }) (v := .agg q.cs.toArray) rfl (by kernel_rfl) (by kernel_rfl) (by kernel_rfl) (fun _ _ _ h => h)
    (yields_row 23 54 arrL (by rfl) (.tmp 19) rfl gq (by rfl) q.l hq (fun u hu => rq.later hu)) hHeld ?_
  try simp only [Act.put, List.setIfInBounds_toArray, List.set_cons_zero, List.set_cons_succ]
  refine wpAnyH_take (i := 20) (oi := { dst := some 99, op := Op.load 23 (Operand.tmp 21), type := 23, pos := _, after := #[{ on := 18, ground := Ground.guard }], guard := some (18, true) }) (v := .agg q.cs.toArray) rfl (by kernel_rfl) (by kernel_rfl) (by kernel_rfl) (fun _ _ _ h => h)
    (yields_row 23 54 arrL (by rfl) (.tmp 21) rfl gs (by rfl) q.l hq (fun u hu => rs.later hu)) hHeld ?_
  try simp only [Act.put, List.setIfInBounds_toArray, List.set_cons_zero, List.set_cons_succ]
  refine wpAnyH_take (i := 21) (oi := { dst := some 100, op := Op.binOp BinOp.eql 23 (Operand.tmp 98) (Operand.tmp 99) 23, type := 4, pos := _, after := #[{ on := 19, ground := Ground.data }, { on := 20, ground := Ground.data }, { on := 18, ground := Ground.guard }], guard := some (18, true) }) (v := .bool true) rfl (by kernel_rfl) (by kernel_rfl) (by kernel_rfl) (fun _ _ _ h => h) (Or.inl ⟨by rfl, ?_⟩) hHeld ?_
  · intro u hu
    go_simp
  try simp only [Act.put, List.setIfInBounds_toArray, List.set_cons_zero, List.set_cons_succ]
  refine wpAnyH_take (i := 22) (oi := { dst := some 101, op := Op.pick (Operand.tmp 97) (Operand.tmp 100) (Operand.const (Value.bool false)), type := 4, pos := _, after := #[{ on := 18, ground := Ground.data }, { on := 21, ground := Ground.data }], guard := none }) (v := .bool true) rfl (by kernel_rfl) (by kernel_rfl) (by kernel_rfl) (fun _ _ _ h => h) (Or.inl ⟨by rfl, ?_⟩) hHeld ?_
  · intro u hu
    go_simp
  try simp only [Act.put, List.setIfInBounds_toArray, List.set_cons_zero, List.set_cons_succ]
  refine wpAnyH_take (i := 23) (oi := { dst := some 102, op := Op.move (Operand.tmp 101), type := 4, pos := _, after := #[{ on := 22, ground := Ground.data }, { on := 18, ground := Ground.chain }], guard := none }) (v := .bool true) rfl (by kernel_rfl) (by kernel_rfl) (by kernel_rfl) (fun _ _ _ h => h) (Or.inl ⟨by rfl, ?_⟩) hHeld ?_
  · intro u hu
    go_simp
  try simp only [Act.put, List.setIfInBounds_toArray, List.set_cons_zero, List.set_cons_succ]
  refine wpAnyH_take (i := 24) (oi := { dst := some 103, op := Op.move (Operand.tmp 20), type := 24, pos := _, after := #[{ on := 23, ground := Ground.guard }], guard := some (23, true) }) (v := .int .i64 E) rfl (by kernel_rfl) (by kernel_rfl) (by kernel_rfl) (fun _ _ _ h => h) (Or.inl ⟨by rfl, ?_⟩) hHeld ?_
  · intro u hu
    go_simp
  try simp only [Act.put, List.setIfInBounds_toArray, List.set_cons_zero, List.set_cons_succ]
  refine wpAnyH_take (i := 25) (oi := { dst := some 104, op := Op.move (Operand.tmp 22), type := 24, pos := _, after := #[{ on := 23, ground := Ground.guard }], guard := some (23, true) }) (v := .int .i64 E) rfl (by kernel_rfl) (by kernel_rfl) (by kernel_rfl) (fun _ _ _ h => h) (Or.inl ⟨by rfl, ?_⟩) hHeld ?_
  · intro u hu
    go_simp
  try simp only [Act.put, List.setIfInBounds_toArray, List.set_cons_zero, List.set_cons_succ]
  refine wpAnyH_take (i := 26) (oi := { dst := some 105, op := Op.binOp BinOp.eql 24 (Operand.tmp 103) (Operand.tmp 104) 24, type := 4, pos := _, after := #[{ on := 24, ground := Ground.data }, { on := 25, ground := Ground.data }, { on := 23, ground := Ground.guard }], guard := some (23, true) }) (v := .bool true) rfl (by kernel_rfl) (by kernel_rfl) (by kernel_rfl) (fun _ _ _ h => h) (Or.inl ⟨by rfl, ?_⟩) hHeld ?_
  · intro u hu
    go_simp
  try simp only [Act.put, List.setIfInBounds_toArray, List.set_cons_zero, List.set_cons_succ]
  refine wpAnyH_take (i := 27) (oi := { dst := some 106, op := Op.pick (Operand.tmp 102) (Operand.tmp 105) (Operand.const (Value.bool false)), type := 4, pos := _, after := #[{ on := 23, ground := Ground.data }, { on := 26, ground := Ground.data }], guard := none }) (v := .bool true) rfl (by kernel_rfl) (by kernel_rfl) (by kernel_rfl) (fun _ _ _ h => h) (Or.inl ⟨by rfl, ?_⟩) hHeld ?_
  · intro u hu
    go_simp
  try simp only [Act.put, List.setIfInBounds_toArray, List.set_cons_zero, List.set_cons_succ]
  refine wpAnyH_take (i := 28) (oi := { dst := some 107, op := Op.move (Operand.tmp 106), type := 4, pos := _, after := #[{ on := 27, ground := Ground.data }, { on := 23, ground := Ground.chain }], guard := none }) (v := .bool true) rfl (by kernel_rfl) (by kernel_rfl) (by kernel_rfl) (fun _ _ _ h => h) (Or.inl ⟨by rfl, ?_⟩) hHeld ?_
  · intro u hu
    go_simp
  try simp only [Act.put, List.setIfInBounds_toArray, List.set_cons_zero, List.set_cons_succ]
  refine wpAnyH_take (i := 29) (oi := { dst := some 108, op := Op.move (Operand.tmp 23), type := 3, pos := _, after := #[{ on := 28, ground := Ground.guard }], guard := some (28, true) }) (v := .int .i64 m) rfl (by kernel_rfl) (by kernel_rfl) (by kernel_rfl) (fun _ _ _ h => h) (Or.inl ⟨by rfl, ?_⟩) hHeld ?_
  · intro u hu
    go_simp
  try simp only [Act.put, List.setIfInBounds_toArray, List.set_cons_zero, List.set_cons_succ]
  refine wpAnyH_take (i := 30) (oi := { dst := some 109, op := Op.move (Operand.tmp 25), type := 3, pos := _, after := #[{ on := 28, ground := Ground.guard }], guard := some (28, true) }) (v := .int .i64 m) rfl (by kernel_rfl) (by kernel_rfl) (by kernel_rfl) (fun _ _ _ h => h) (Or.inl ⟨by rfl, ?_⟩) hHeld ?_
  · intro u hu
    go_simp
  try simp only [Act.put, List.setIfInBounds_toArray, List.set_cons_zero, List.set_cons_succ]
  refine wpAnyH_take (i := 31) (oi := { dst := some 110, op := Op.binOp BinOp.eql 3 (Operand.tmp 108) (Operand.tmp 109) 3, type := 4, pos := _, after := #[{ on := 29, ground := Ground.data }, { on := 30, ground := Ground.data }, { on := 28, ground := Ground.guard }], guard := some (28, true) }) (v := .bool true) rfl (by kernel_rfl) (by kernel_rfl) (by kernel_rfl) (fun _ _ _ h => h) (Or.inl ⟨by rfl, ?_⟩) hHeld ?_
  · intro u hu
    go_simp
  try simp only [Act.put, List.setIfInBounds_toArray, List.set_cons_zero, List.set_cons_succ]
  refine wpAnyH_take (i := 32) (oi := { dst := some 111, op := Op.pick (Operand.tmp 107) (Operand.tmp 110) (Operand.const (Value.bool false)), type := 4, pos := _, after := #[{ on := 28, ground := Ground.data }, { on := 31, ground := Ground.data }], guard := none }) (v := .bool true) rfl (by kernel_rfl) (by kernel_rfl) (by kernel_rfl) (fun _ _ _ h => h) (Or.inl ⟨by rfl, ?_⟩) hHeld ?_
  · intro u hu
    go_simp
  try simp only [Act.put, List.setIfInBounds_toArray, List.set_cons_zero, List.set_cons_succ]
  refine wpAnyH_take (i := 33) (oi := { dst := some 112, op := Op.move (Operand.tmp 111), type := 4, pos := _, after := #[{ on := 32, ground := Ground.data }, { on := 28, ground := Ground.chain }], guard := none }) (v := .bool true) rfl (by kernel_rfl) (by kernel_rfl) (by kernel_rfl) (fun _ _ _ h => h) (Or.inl ⟨by rfl, ?_⟩) hHeld ?_
  · intro u hu
    go_simp
  try simp only [Act.put, List.setIfInBounds_toArray, List.set_cons_zero, List.set_cons_succ]
  refine wpAnyH_take (i := 34) (oi := { dst := some 113, op := Op.move (Operand.tmp 24), type := 24, pos := _, after := #[{ on := 33, ground := Ground.guard }], guard := some (33, true) }) (v := .int .i64 E) rfl (by kernel_rfl) (by kernel_rfl) (by kernel_rfl) (fun _ _ _ h => h) (Or.inl ⟨by rfl, ?_⟩) hHeld ?_
  · intro u hu
    go_simp
  try simp only [Act.put, List.setIfInBounds_toArray, List.set_cons_zero, List.set_cons_succ]
  refine wpAnyH_take (i := 35) (oi := { dst := some 114, op := Op.move (Operand.tmp 26), type := 24, pos := _, after := #[{ on := 33, ground := Ground.guard }], guard := some (33, true) }) (v := .int .i64 E) rfl (by kernel_rfl) (by kernel_rfl) (by kernel_rfl) (fun _ _ _ h => h) (Or.inl ⟨by rfl, ?_⟩) hHeld ?_
  · intro u hu
    go_simp
  try simp only [Act.put, List.setIfInBounds_toArray, List.set_cons_zero, List.set_cons_succ]
  refine wpAnyH_take (i := 36) (oi := { dst := some 115, op := Op.binOp BinOp.eql 24 (Operand.tmp 113) (Operand.tmp 114) 24, type := 4, pos := _, after := #[{ on := 34, ground := Ground.data }, { on := 35, ground := Ground.data }, { on := 33, ground := Ground.guard }], guard := some (33, true) }) (v := .bool true) rfl (by kernel_rfl) (by kernel_rfl) (by kernel_rfl) (fun _ _ _ h => h) (Or.inl ⟨by rfl, ?_⟩) hHeld ?_
  · intro u hu
    go_simp
  try simp only [Act.put, List.setIfInBounds_toArray, List.set_cons_zero, List.set_cons_succ]
  refine wpAnyH_take (i := 37) (oi := { dst := some 116, op := Op.pick (Operand.tmp 112) (Operand.tmp 115) (Operand.const (Value.bool false)), type := 4, pos := _, after := #[{ on := 33, ground := Ground.data }, { on := 36, ground := Ground.data }], guard := none }) (v := .bool true) rfl (by kernel_rfl) (by kernel_rfl) (by kernel_rfl) (fun _ _ _ h => h) (Or.inl ⟨by rfl, ?_⟩) hHeld ?_
  · intro u hu
    go_simp
  try simp only [Act.put, List.setIfInBounds_toArray, List.set_cons_zero, List.set_cons_succ]
  refine wpAnyH_take (i := 38) (oi := { dst := some 117, op := Op.move (Operand.tmp 116), type := 4, pos := _, after := #[{ on := 37, ground := Ground.data }, { on := 33, ground := Ground.chain }], guard := none }) (v := .bool true) rfl (by kernel_rfl) (by kernel_rfl) (by kernel_rfl) (fun _ _ _ h => h) (Or.inl ⟨by rfl, ?_⟩) hHeld ?_
  · intro u hu
    go_simp
  try simp only [Act.put, List.setIfInBounds_toArray, List.set_cons_zero, List.set_cons_succ]
  refine wpAnyH_take (i := 39) (oi := { dst := some 118, op := Op.load 23 (Operand.tmp 5), type := 23, pos := _, after := #[{ on := 38, ground := Ground.guard }], guard := some (38, true) }) (v := .agg p.cs.toArray) rfl (by kernel_rfl) (by kernel_rfl) (by kernel_rfl) (fun _ _ _ h => h)
    (yields_row 23 54 arrL (by rfl) (.tmp 5) rfl g0 (by rfl) p.l hp (fun u hu => rp.later hu)) hHeld ?_
  try simp only [Act.put, List.setIfInBounds_toArray, List.set_cons_zero, List.set_cons_succ]
  refine wpAnyH_take (i := 40) (oi := { dst := some 119, op := Op.move (Operand.tmp 1), type := 3, pos := _, after := #[{ on := 38, ground := Ground.guard }], guard := some (38, true) }) (v := .int .i64 g) rfl (by kernel_rfl) (by kernel_rfl) (by kernel_rfl) (fun _ _ _ h => h) (Or.inl ⟨by rfl, ?_⟩) hHeld ?_
  · intro u hu
    go_simp
  try simp only [Act.put, List.setIfInBounds_toArray, List.set_cons_zero, List.set_cons_succ]
  refine wpAnyH_take (i := 42) (oi := { dst := some 121, op := Op.load 23 (Operand.tmp 5), type := 23, pos := _, after := #[{ on := 38, ground := Ground.guard }], guard := some (38, true) }) (v := .agg p.cs.toArray) rfl (by kernel_rfl) (by kernel_rfl) (by kernel_rfl) (fun _ _ _ h => h)
    (yields_row 23 54 arrL (by rfl) (.tmp 5) rfl g0 (by rfl) p.l hp (fun u hu => rp.later hu)) hHeld ?_
  try simp only [Act.put, List.setIfInBounds_toArray, List.set_cons_zero, List.set_cons_succ]
  refine wpAnyH_take (i := 43) (oi := { dst := some 122, op := Op.move (Operand.tmp 1), type := 3, pos := _, after := #[{ on := 38, ground := Ground.guard }], guard := some (38, true) }) (v := .int .i64 g) rfl (by kernel_rfl) (by kernel_rfl) (by kernel_rfl) (fun _ _ _ h => h) (Or.inl ⟨by rfl, ?_⟩) hHeld ?_
  · intro u hu
    go_simp
  try simp only [Act.put, List.setIfInBounds_toArray, List.set_cons_zero, List.set_cons_succ]
  refine wpAnyH_ready (rs := [41]) (by kernel_rfl) (by simp) ?_
  refine (AllReadyH.cons (o := { dst := some 120, op := Op.call { callee := Callee.value (Operand.func 16), args := #[Operand.tmp 118, Operand.tmp 119], argTypes := #[23, 3] }, type := 4, pos := _, after := #[{ on := 39, ground := Ground.data }, { on := 40, ground := Ground.data }, { on := 38, ground := Ground.chain }, { on := 38, ground := Ground.guard }], guard := some (38, true) }) rfl (fun K hK => ?_) AllReadyH.nil)
  go_simp
  refine (H9.out _).mono ?_
  rintro e v41 ⟨rfl, d41⟩
  try go_wp2_with fail
  refine hK.out _ _ (bnext hHeld d41 (Nat.le_refl _)) (fun hHeld => ?_)
  clear hK K
  try simp only [Act.put, List.setIfInBounds_toArray, List.set_cons_zero, List.set_cons_succ]
  refine wpAnyH_ready (rs := [44]) (by kernel_rfl) (by simp) ?_
  refine (AllReadyH.cons (o := { dst := some 123, op := Op.call { callee := Callee.value (Operand.func 17), args := #[Operand.tmp 121, Operand.tmp 122], argTypes := #[23, 3] }, type := 4, pos := _, after := #[{ on := 42, ground := Ground.data }, { on := 43, ground := Ground.data }, { on := 41, ground := Ground.chain }, { on := 38, ground := Ground.guard }], guard := some (38, true) }) rfl (fun K hK => ?_) AllReadyH.nil)
  go_simp
  refine (H10.out _).mono ?_
  rintro e v44 ⟨rfl, d44⟩
  try go_wp2_with fail
  refine hK.out _ _ (bnext hHeld d44 (Nat.le_refl _)) (fun hHeld => ?_)
  clear hK K
  try simp only [Act.put, List.setIfInBounds_toArray, List.set_cons_zero, List.set_cons_succ]
  refine wpAnyH_take (i := 45) (oi := { dst := some 124, op := Op.binOp BinOp.eql 4 (Operand.tmp 120) (Operand.tmp 123) 4, type := 4, pos := _, after := #[{ on := 41, ground := Ground.data }, { on := 44, ground := Ground.data }, { on := 38, ground := Ground.guard }], guard := some (38, true) }) (v := .bool true) rfl (by kernel_rfl) (by kernel_rfl) (by kernel_rfl) (fun _ _ _ h => h) (Or.inl ⟨by rfl, ?_⟩) hHeld ?_
  · intro u hu
    go_simp
  try simp only [Act.put, List.setIfInBounds_toArray, List.set_cons_zero, List.set_cons_succ]
  refine wpAnyH_take (i := 46) (oi := { dst := some 125, op := Op.pick (Operand.tmp 117) (Operand.tmp 124) (Operand.const (Value.bool false)), type := 4, pos := _, after := #[{ on := 38, ground := Ground.data }, { on := 45, ground := Ground.data }], guard := none }) (v := .bool true) rfl (by kernel_rfl) (by kernel_rfl) (by kernel_rfl) (fun _ _ _ h => h) (Or.inl ⟨by rfl, ?_⟩) hHeld ?_
  · intro u hu
    go_simp
  try simp only [Act.put, List.setIfInBounds_toArray, List.set_cons_zero, List.set_cons_succ]
  refine wpAnyH_take (i := 47) (oi := { dst := some 126, op := Op.move (Operand.tmp 125), type := 4, pos := _, after := #[{ on := 46, ground := Ground.data }, { on := 44, ground := Ground.chain }], guard := none }) (v := .bool true) rfl (by kernel_rfl) (by kernel_rfl) (by kernel_rfl) (fun _ _ _ h => h) (Or.inl ⟨by rfl, ?_⟩) hHeld ?_
  · intro u hu
    go_simp
  try simp only [Act.put, List.setIfInBounds_toArray, List.set_cons_zero, List.set_cons_succ]
  refine wpAnyH_take (i := 48) (oi := { dst := some 127, op := Op.load 23 (Operand.tmp 13), type := 23, pos := _, after := #[{ on := 47, ground := Ground.guard }], guard := some (47, true) }) (v := .agg A.cs.toArray) rfl (by kernel_rfl) (by kernel_rfl) (by kernel_rfl) (fun _ _ _ h => h)
    (yields_row 23 54 arrL (by rfl) (.tmp 13) rfl gy (by rfl) A.l hA (fun u hu => ry.later hu)) hHeld ?_
  try simp only [Act.put, List.setIfInBounds_toArray, List.set_cons_zero, List.set_cons_succ]
  refine wpAnyH_take (i := 49) (oi := { dst := some 128, op := Op.move (Operand.tmp 1), type := 3, pos := _, after := #[{ on := 47, ground := Ground.guard }], guard := some (47, true) }) (v := .int .i64 g) rfl (by kernel_rfl) (by kernel_rfl) (by kernel_rfl) (fun _ _ _ h => h) (Or.inl ⟨by rfl, ?_⟩) hHeld ?_
  · intro u hu
    go_simp
  try simp only [Act.put, List.setIfInBounds_toArray, List.set_cons_zero, List.set_cons_succ]
  refine wpAnyH_take (i := 51) (oi := { dst := some 130, op := Op.move (Operand.tmp 14), type := 24, pos := _, after := #[{ on := 47, ground := Ground.guard }], guard := some (47, true) }) (v := .int .i64 e0) rfl (by kernel_rfl) (by kernel_rfl) (by kernel_rfl) (fun _ _ _ h => h) (Or.inl ⟨by rfl, ?_⟩) hHeld ?_
  · intro u hu
    go_simp
  try simp only [Act.put, List.setIfInBounds_toArray, List.set_cons_zero, List.set_cons_succ]
  refine wpAnyH_take (i := 52) (oi := { dst := some 131, op := Op.binOp BinOp.eql 24 (Operand.tmp 130) (Operand.const (Value.int IntKind.i64 0)) 24, type := 4, pos := _, after := #[{ on := 51, ground := Ground.data }, { on := 47, ground := Ground.guard }], guard := some (47, true) }) (v := .bool (decide (e0 = 0))) rfl (by kernel_rfl) (by kernel_rfl) (by kernel_rfl) (fun _ _ _ h => h) (Or.inl ⟨by rfl, ?_⟩) hHeld ?_
  · intro u hu
    (go_simp; try rfl)
  try simp only [Act.put, List.setIfInBounds_toArray, List.set_cons_zero, List.set_cons_succ]
  refine wpAnyH_ready (rs := [50]) (by kernel_rfl) (by simp) ?_
  refine (AllReadyH.cons (o := { dst := some 129, op := Op.call { callee := Callee.value (Operand.func 16), args := #[Operand.tmp 127, Operand.tmp 128], argTypes := #[23, 3] }, type := 4, pos := _, after := #[{ on := 48, ground := Ground.data }, { on := 49, ground := Ground.data }, { on := 47, ground := Ground.chain }, { on := 47, ground := Ground.guard }], guard := some (47, true) }) rfl (fun K hK => ?_) AllReadyH.nil)
  go_simp
  refine (H11.out _).mono ?_
  rintro e v50 ⟨rfl, d50⟩
  try go_wp2_with fail
  refine hK.out _ _ (bnext hHeld d50 (Nat.le_refl _)) (fun hHeld => ?_)
  clear hK K
  try simp only [Act.put, List.setIfInBounds_toArray, List.set_cons_zero, List.set_cons_succ]
  refine wpAnyH_take (i := 53) (oi := { dst := some 132, op := Op.binOp BinOp.eql 4 (Operand.tmp 129) (Operand.tmp 131) 4, type := 4, pos := _, after := #[{ on := 50, ground := Ground.data }, { on := 52, ground := Ground.data }, { on := 47, ground := Ground.guard }], guard := some (47, true) }) (v := .bool true) rfl (by kernel_rfl) (by kernel_rfl) (by kernel_rfl) (fun _ _ _ h => h) (Or.inl ⟨by rfl, ?_⟩) hHeld ?_
  · intro u hu
    go_simp
  try simp only [Act.put, List.setIfInBounds_toArray, List.set_cons_zero, List.set_cons_succ]
  refine wpAnyH_take (i := 54) (oi := { dst := some 133, op := Op.pick (Operand.tmp 126) (Operand.tmp 132) (Operand.const (Value.bool false)), type := 4, pos := _, after := #[{ on := 47, ground := Ground.data }, { on := 53, ground := Ground.data }], guard := none }) (v := .bool true) rfl (by kernel_rfl) (by kernel_rfl) (by kernel_rfl) (fun _ _ _ h => h) (Or.inl ⟨by rfl, ?_⟩) hHeld ?_
  · intro u hu
    go_simp
  try simp only [Act.put, List.setIfInBounds_toArray, List.set_cons_zero, List.set_cons_succ]
  refine wpAnyH_take (i := 55) (oi := { dst := some 134, op := Op.move (Operand.tmp 133), type := 4, pos := _, after := #[{ on := 54, ground := Ground.data }, { on := 50, ground := Ground.chain }], guard := none }) (v := .bool true) rfl (by kernel_rfl) (by kernel_rfl) (by kernel_rfl) (fun _ _ _ h => h) (Or.inl ⟨by rfl, ?_⟩) hHeld ?_
  · intro u hu
    go_simp
  try simp only [Act.put, List.setIfInBounds_toArray, List.set_cons_zero, List.set_cons_succ]
  refine wpAnyH_ready (rs := [56]) (by kernel_rfl) (by simp) ?_
  refine (AllReadyH.cons (o := { dst := some 135, op := Op.call { callee := Callee.value (Operand.func 18), args := #[], argTypes := #[] }, type := 4, pos := _, after := #[{ on := 55, ground := Ground.chain }, { on := 55, ground := Ground.guard }], guard := some (55, true) }) rfl (fun K hK => ?_) AllReadyH.nil)
  go_simp
  refine (works_any _).mono ?_
  rintro e v56 ⟨rfl, d56⟩
  try go_wp2_with fail
  refine hK.out _ _ (bnext hHeld d56 (Nat.le_refl _)) (fun hHeld => ?_)
  clear hK K
  try simp only [Act.put, List.setIfInBounds_toArray, List.set_cons_zero, List.set_cons_succ]
  refine wpAnyH_take (i := 57) (oi := { dst := some 136, op := Op.pick (Operand.tmp 134) (Operand.tmp 135) (Operand.const (Value.bool false)), type := 4, pos := _, after := #[{ on := 55, ground := Ground.data }, { on := 56, ground := Ground.data }], guard := none }) (v := .bool true) rfl (by kernel_rfl) (by kernel_rfl) (by kernel_rfl) (fun _ _ _ h => h) (Or.inl ⟨by rfl, ?_⟩) hHeld ?_
  · intro u hu
    go_simp
  try simp only [Act.put, List.setIfInBounds_toArray, List.set_cons_zero, List.set_cons_succ]
  refine wpAnyH_take (i := 58) (oi := { dst := some 10, op := Op.assign (Operand.tmp 136), type := 4, pos := _, after := #[{ on := 57, ground := Ground.data }, { on := 56, ground := Ground.chain }, { on := 0, ground := Ground.phase }, { on := 1, ground := Ground.phase }, { on := 2, ground := Ground.phase }, { on := 3, ground := Ground.phase }, { on := 4, ground := Ground.phase }, { on := 5, ground := Ground.phase }, { on := 6, ground := Ground.phase }, { on := 7, ground := Ground.phase }, { on := 8, ground := Ground.phase }, { on := 9, ground := Ground.phase }, { on := 10, ground := Ground.phase }, { on := 11, ground := Ground.phase }, { on := 12, ground := Ground.phase }, { on := 13, ground := Ground.phase }, { on := 14, ground := Ground.phase }, { on := 15, ground := Ground.phase }, { on := 16, ground := Ground.phase }, { on := 17, ground := Ground.phase }, { on := 18, ground := Ground.phase }, { on := 19, ground := Ground.phase }, { on := 20, ground := Ground.phase }, { on := 21, ground := Ground.phase }, { on := 22, ground := Ground.phase }, { on := 23, ground := Ground.phase }, { on := 24, ground := Ground.phase }, { on := 25, ground := Ground.phase }, { on := 26, ground := Ground.phase }, { on := 27, ground := Ground.phase }, { on := 28, ground := Ground.phase }, { on := 29, ground := Ground.phase }, { on := 30, ground := Ground.phase }, { on := 31, ground := Ground.phase }, { on := 32, ground := Ground.phase }, { on := 33, ground := Ground.phase }, { on := 34, ground := Ground.phase }, { on := 35, ground := Ground.phase }, { on := 36, ground := Ground.phase }, { on := 37, ground := Ground.phase }, { on := 38, ground := Ground.phase }, { on := 39, ground := Ground.phase }, { on := 40, ground := Ground.phase }, { on := 41, ground := Ground.phase }, { on := 42, ground := Ground.phase }, { on := 43, ground := Ground.phase }, { on := 44, ground := Ground.phase }, { on := 45, ground := Ground.phase }, { on := 46, ground := Ground.phase }, { on := 47, ground := Ground.phase }, { on := 48, ground := Ground.phase }, { on := 49, ground := Ground.phase }, { on := 50, ground := Ground.phase }, { on := 51, ground := Ground.phase }, { on := 52, ground := Ground.phase }, { on := 53, ground := Ground.phase }, { on := 54, ground := Ground.phase }, { on := 55, ground := Ground.phase }, { on := 56, ground := Ground.phase }, { on := 57, ground := Ground.phase }], guard := none }) (v := .bool true) rfl (by kernel_rfl) (by kernel_rfl) (by kernel_rfl) (fun _ _ _ h => h) (Or.inl ⟨by rfl, ?_⟩) hHeld ?_
  · intro u hu
    go_simp
  try simp only [Act.put, List.setIfInBounds_toArray, List.set_cons_zero, List.set_cons_succ]
  refine wpAnyH_done (by kernel_rfl) ?_ _
  go_wp2_with fail
  go_returns
  exact ⟨rfl, (S.next (Stp.of_below hHeld (fun _ => False)) (fun _ h => h.elim)).below (Nat.le_refl _) (fun _ h => h)⟩

theorem own : ownKnob Try.prog.godebug = none := by kernel_rfl
theorem laidOut : laidOutB Try.prog = true := by kernel_rfl
set_option maxRecDepth 100000 in
theorem lifted (os : Os) (started : os.Started) (H : Type) (enc : TypeId × Value → H) :
    ReturnsInHanded {} Try.checked os 3 .any (Rows.mapsTellsSpec.pre6 enc Try.prog Try.f3 Rows.mapsTellsRow.domain false) (Rows.mapsTellsSpec.post enc Try.prog Try.f3 false true false false) := by
  refine returnsInHanded_of_change (C := Try.checked) own started (by kernel_rfl) Try.func3
    (ChangeSpec.witness6 (enc := enc) (C := Try.checked) false ⟨#[], #[.agg Ld.zero.cs.toArray, .int .i64 0, .int .i64 0, .int .i64 0, .bool false], []⟩ 8 (by kernel_rfl) (by kernel_rfl) (by kernel_rfl) (by kernel_rfl)) ?_
  intro W base args ds gs before hval0 hW hcnd _
  have hval : ∀ (j : Nat) t v, Try.f3.params[j]? = some t → args[j]? = some v → Value.okWide Try.prog W .any base t v := hval0
  have hW' := hW
  obtain ⟨p, q, hA0, hV, rfl, hfz, hnd⟩ := hW
  have hA : DataW.TrodAll enc Try.prog W 0 (fun _ => true) true Try.f3.params.toList args.toList ds p := hA0
  rw [Try.params3] at hA hval
  obtain ⟨v0, vs0, d0, ds0, p0, q0, hargs, rfl, rfl, h0, r0⟩ := trodAll_cons hA
  obtain ⟨v1, vs1, d1, ds1, p1, q1, rfl, rfl, rfl, h1, r1⟩ := trodAll_cons r0
  obtain ⟨v2, vs2, d2, ds2, p2, q2, rfl, rfl, rfl, h2, r2⟩ := trodAll_cons r1
  obtain ⟨v3, vs3, d3, ds3, p3, q3, rfl, rfl, rfl, h3, r3⟩ := trodAll_cons r2
  obtain ⟨v4, vs4, d4, ds4, p4, q4, rfl, rfl, rfl, h4, r4⟩ := trodAll_cons r3
  obtain ⟨rfl, rfl, rfl⟩ := trodAll_nil r4
  obtain rfl : args = #[v0, v1, v2, v3, v4] := by cases args; simp_all
  obtain ⟨rfl, rfl⟩ := trodVars_none hV
  obtain ⟨cs0, rfl, _⟩ := okWide_row arrL.und (hval 0 23 v0 rfl rfl)
  have k0 := h0
  have lt0 : ∀ x ∈ p0, x.block < W.heap.size := by obtain ⟨m, hm⟩ := k0; exact DataW.trod_lt m _ _ _ hm
  obtain ⟨b0, e0⟩ : ∃ b : Ld, cs0 = b.cs.toArray := by
    obtain ⟨fuel, hf⟩ := h0
    obtain ⟨b, hb⟩ := ldOfTrod hf
    exact ⟨b, by rw [hb]; simp [Value.cells]⟩
  subst e0
  obtain ⟨a1, rfl, rfl, rfl, w1⟩ := open_int Try.underlying3 (hval 1 3 v1 rfl rfl) h1
  obtain ⟨a2, rfl, rfl, rfl, w2⟩ := open_int Try.underlying3 (hval 2 3 v2 rfl rfl) h2
  obtain ⟨a3, rfl, rfl, rfl, w3⟩ := open_int Try.underlying3 (hval 3 3 v3 rfl rfl) h3
  obtain ⟨a4, rfl, rfl, rfl⟩ := open_bool Try.underlying4 (hval 4 4 v4 rfl rfl) h4
  clear hA0 hval0
  refine (walk b0 a1 a2 a3 a4 W w1 w2 w3).mono fun e W' ⟨he, bel⟩ => ?_
  subst he
  exact ⟨_, rfl, _, _, _, [], _, [], hW', trodAll_mk1 (shut_bool Try.underlying4 _), (trodAll_cons_mk (Below.trod laidOut (by kernel_rfl) (of_decide_eq_true (by kernel_rfl)) k0 bel lt0) (trodAll_cons_mk (shut_int Try.underlying3 w1) (trodAll_cons_mk (shut_int Try.underlying3 w2) (trodAll_cons_mk (shut_int Try.underlying3 w3) (trodAll_cons_mk (shut_bool Try.underlying4 a4) trodAll_mk0))))), rfl, bel.frame _, fun h => by cases h⟩
theorem over : Rows.mapsTellsRow.holds Try.pinned (OpenSpec.ofChange Rows.mapsTellsSpec) :=
  OpenClaim.holds_of_wide 3 Try.f3 rfl rfl rfl rfl rfl rfl rfl ⟨rfl, rfl, rfl, rfl, rfl⟩ rfl rfl rfl rfl rfl (by kernel_rfl) Try.func3 (by kernel_rfl)
    (of_decide_eq_true (by kernel_rfl)) (by unfold Func.isWrapper; first | (rw [if_pos (by decide +kernel)]; kernel_rfl) | (rw [if_neg (by decide +kernel)]; exact ⟨rfl, rfl⟩))
    (fun os started H enc _ => lifted os started H enc)
end Go.Proofs.Ythanenbjfcndbaa.mapsTells
namespace Go.Proofs.Ythanenbjfcndbaa
/-- The statement. -/
theorem mapsTells_holds : Rows.MapsTellsSaid := mapsTells.over
#print axioms mapsTells_holds
end Go.Proofs.Ythanenbjfcndbaa
