/-
  The statement InodeLoads, proved: for every load, slot, inode and field the law returns true, where the table of the fields is laid as the program's text lays it (the card ties it); no other condition.
-/
import Derived.Test.YtbpnegklglaekaaDoorInoO
import Derived.Test.YtbpnegklglaekaaDoorInoK
import Derived.Test.YtbpnegklglaekaaDoorInoL
import Derived.Test.YtbpnegklglaekaaDoorInoN
import Derived.Test.YtbpnegklglaekaaDoorInoT
import Derived.Test.YtbpnegklglaekaaDoorNumG
import Derived.Test.YtbpnegklglaekaaDoorCards
import Derived.Test.YtbpnegklglaekaaDoorTie
namespace Go.Proofs.YtbpnegklglaekaaDoor.inodeLoads
open Go.ChangeShapes Go.WideShapes Go.ChangeAt Go.RowKit
set_option linter.unusedVariables false

set_option maxRecDepth 100000 in
set_option maxHeartbeats 8000000 in
theorem walk (p : Ld) (k : Int) (x : Ino) (f : Int) (w : World) (hk : (Lit.int .i64 k).wf = true) (hf : (Lit.int .i64 f).wf = true) (hT : Tb w) :
    Calls Tryd.prog 4 #[.agg p.cs.toArray, .int .i64 k, .agg x.cs.toArray, .int .i64 f] w fun e w' => e = .returned (.bool true) ∧ Below w.heap.size w w' := by
  have hp := p.len
  have hA := iat_any p k
  have hB := riat_any p k
  have hC := iwith_any p k x
  have hD := riwith_any p k x
  have hO := fun w => offset_any k f w
  have hR := fun w => roffset_any k f w
  have hF := fun w => fields_any x f w
  have hG := fun w => rfields_any x f w
  have hq := (wI p k x).len
  have he1 := eqI (aI p k) (aI p k)
  rw [same_self] at he1
  have hg1 := guardI
  have he2 := eqL (wI p k x) (wI p k x)
  rw [decide_eq_true rfl] at he2
  have hg2 := guardL
  clear hk hf
  generalize aI p k = X at *
  generalize slE k = SE at *
  generalize wI p k x = Q at *
  generalize oA k f = A at *
  generalize oZ k f = Z at *
  generalize oE k f = E at *
  generalize fN f = N at *
  generalize fB x f = P at *
  have t1 : True := trivial
  have t2 : True := trivial
  have t3 : True := trivial
  go_enter Tryd.func4, Tryd.ntmps4
  go_wp2_with (first
    | (refine at_box 39 54 arrL (by rfl) _ (by rfl) p.l (by rfl) hp ?_; intro g4 w1 a1 z1 r1 b1)
    | (refine at_boxI (by rfl) _ (by rfl) x (by rfl) ?_; intro g6 w2 a2 z2 x2 b2; have p2 := r1.later b2; have B2 := bnext b1 b2 (Nat.le_refl _))
    | (have _t := t1; refine at_getL (by rfl) _ (by rfl) g4 (by rfl) p p2 ?_; clear _t)
    | (go_at_call 16; refine (hA _).mono ?_; rintro e w3 ⟨rfl, b3⟩)
    | (have _t := t1; refine at_newI (by rfl) (by rfl) ?_; intro g9 w4 a4 z4 r4 b4; clear _t)
    | (have _t := t1; refine at_putI (by rfl) _ _ (by rfl) g9 (by rfl) X (by rfl) Ino.zero r4 ?_; intro w5 y5 s5
       have p5 : Row w5 g4 p.l := ((p2.later b3).later b4).step s5 (by have := (p2.later b3).lt; omega)
       have x5 : Cs w5 g6 x.cs := ((x2.later b3).later b4).step s5 (by have := (x2.later b3).lt; omega)
       have S5 : Stp (fun y => w.heap.size ≤ y) w w5 := (Stp.of_below (bnext (bnext B2 b3 (Nat.le_refl _)) b4 (Nat.le_refl _)) _).next s5 (fun y hy => .inl (by subst hy; have := B2.size; have := b3.size; omega))
       clear _t t1 r1 b1 b2 a1 z1 a2 z2 p2 x2 B2 b3 b4 a4 z4 r4 s5)
    | (have _t := t2; refine at_getL (by rfl) _ (by rfl) g4 (by rfl) p p5 ?_; clear _t)
    | (go_at_call 17; refine (hB _).mono ?_; rintro e w6 ⟨rfl, b6⟩)
    | (have _t := t2; refine at_newI (by rfl) (by rfl) ?_; intro g11 w7 a7 z7 r7 b7; clear _t)
    | (have _t := t2; refine at_putI (by rfl) _ _ (by rfl) g11 (by rfl) X (by rfl) Ino.zero r7 ?_; intro w8 v8 s8
       have p8 : Row w8 g4 p.l := ((p5.later b6).later b7).step s8 (by have := (p5.later b6).lt; omega)
       have x8 : Cs w8 g6 x.cs := ((x5.later b6).later b7).step s8 (by have := (x5.later b6).lt; omega)
       have y8 : Cs w8 g9 X.cs := ((y5.later b6).later b7).step s8 (by have := (y5.later b6).lt; omega)
       have S8 : Stp (fun y => w.heap.size ≤ y) w w8 := (S5.next (Stp.of_below (bnext b6 b7 (Nat.le_refl _)) (fun _ => False)) (fun _ h => h.elim)).next s8 (fun y hy => .inl (by subst hy; have := S5.size; have := b6.size; omega))
       clear _t t2 p5 x5 y5 S5 b6 b7 a7 z7 r7 s8)
    | (have _t := t3; refine at_getL (by rfl) _ (by rfl) g4 (by rfl) p p8 ?_; clear _t)
    | (have _t := t3; refine at_getI (by rfl) _ (by rfl) g6 (by rfl) x x8 ?_; clear _t)
    | (go_at_call 18; refine (hC _).mono ?_; rintro e w9 ⟨rfl, b9⟩)
    | (have _t := t3; refine at_new 39 54 arrL (by rfl) (by rfl) ?_; intro g13 w10 a10 z10 r10 b10; clear _t)
    | (have _t := t3; refine at_put 39 54 arrL (by rfl) _ _ (by rfl) g13 (by rfl) Q.l (by rfl) hq _ r10 (by simp) ?_; intro w11 q11 s11
       have p11 : Row w11 g4 p.l := ((p8.later b9).later b10).step s11 (by have := (p8.later b9).lt; omega)
       have x11 : Cs w11 g6 x.cs := ((x8.later b9).later b10).step s11 (by have := (x8.later b9).lt; omega)
       have y11 : Cs w11 g9 X.cs := ((y8.later b9).later b10).step s11 (by have := (y8.later b9).lt; omega)
       have v11 : Cs w11 g11 X.cs := ((v8.later b9).later b10).step s11 (by have := (v8.later b9).lt; omega)
       have S11 : Stp (fun y => w.heap.size ≤ y) w w11 := (S8.next (Stp.of_below (bnext b9 b10 (Nat.le_refl _)) (fun _ => False)) (fun _ h => h.elim)).next s11 (fun y hy => .inl (by subst hy; have := S8.size; have := b9.size; omega))
       clear _t t3 p8 x8 y8 v8 S8 b9 b10 a10 z10 r10 s11)
    | (refine at_getL (by rfl) _ (by rfl) g4 (by rfl) p p11 ?_)
    | (refine at_getI (by rfl) _ (by rfl) g6 (by rfl) x x11 ?_)
    | (go_at_call 19; refine (hD _).mono ?_; rintro e w12 ⟨rfl, b12⟩)
    | (refine at_new 39 54 arrL (by rfl) (by rfl) ?_; intro g15 w13 a13 z13 r13 b13)
    | (refine at_put 39 54 arrL (by rfl) _ _ (by rfl) g15 (by rfl) Q.l (by rfl) hq _ r13 (by simp) ?_; intro w14 u14 s14
       have x14 : Cs w14 g6 x.cs := ((x11.later b12).later b13).step s14 (by have := (x11.later b12).lt; omega)
       have y14 : Cs w14 g9 X.cs := ((y11.later b12).later b13).step s14 (by have := (y11.later b12).lt; omega)
       have v14 : Cs w14 g11 X.cs := ((v11.later b12).later b13).step s14 (by have := (v11.later b12).lt; omega)
       have q14 : Row w14 g13 Q.l := ((q11.later b12).later b13).step s14 (by have := (q11.later b12).lt; omega)
       have S14 : Stp (fun y => w.heap.size ≤ y) w w14 := (S11.next (Stp.of_below (bnext b12 b13 (Nat.le_refl _)) (fun _ => False)) (fun _ h => h.elim)).next s14 (fun y hy => .inl (by subst hy; have := S11.size; have := b12.size; omega))
       have B14 := S14.below (Nat.le_refl _) (fun _ h => h)
       have T14 := hT.later B14
       clear p11 x11 y11 v11 q11 S11 b12 b13 a13 z13 r13 s14 S14)
    | (go_at_call 20; refine (hO _ T14).mono ?_; rintro e w15 ⟨rfl, b15⟩)
    | (go_at_call 21; refine (hR _).mono ?_; rintro e W ⟨rfl, b16⟩))
  have c := bnext b15 b16 (Nat.le_refl _)
  have rx := x14.later c
  have ry := y14.later c
  have rv := v14.later c
  have rq := q14.later c
  have ru := u14.later c
  have TW := T14.later c
  have BW := bnext B14 c (Nat.le_refl _)
  clear x14 y14 v14 q14 u14 T14 B14 c b15 b16 hA hB hC hD hO hR
  refine wp_region_held_drew (S := fun u => Below W.heap.size W u) (by kernel_rfl) (Below.refl _ _).drew (fun hHeld => ?_)
  refine wpAnyH_take (i := 0) (oi := { dst := some 63, op := Op.load 26 (Operand.tmp 9), type := 26, pos := _, after := #[], guard := none }) (v := .agg X.cs.toArray) rfl (by kernel_rfl) (by kernel_rfl) (by kernel_rfl) (fun _ _ _ h => h)
    (yields_I (by rfl) (.tmp 9) rfl g9 (by rfl) X (fun u hu => ry.later hu)) hHeld ?_
  try simp only [Act.put, List.setIfInBounds_toArray, List.set_cons_zero, List.set_cons_succ]
  refine wpAnyH_take (i := 1) (oi := { dst := some 64, op := Op.load 26 (Operand.tmp 11), type := 26, pos := _, after := #[], guard := none }) (v := .agg X.cs.toArray) rfl (by kernel_rfl) (by kernel_rfl) (by kernel_rfl) (fun _ _ _ h => h)
    (yields_I (by rfl) (.tmp 11) rfl g11 (by rfl) X (fun u hu => rv.later hu)) hHeld ?_
  try simp only [Act.put, List.setIfInBounds_toArray, List.set_cons_zero, List.set_cons_succ]
  refine wpAnyH_take (i := 2) (oi := { dst := some 65, op := Op.binOp BinOp.eql 26 (Operand.tmp 63) (Operand.tmp 64) 26, type := 4, pos := _, after := #[{ on := 0, ground := Ground.data }, { on := 1, ground := Ground.data }], guard := none }) (v := .bool true) rfl (by kernel_rfl) (by kernel_rfl) (by kernel_rfl) (fun _ _ _ h => h) (Or.inl ⟨by rfl, ?_⟩) hHeld ?_
  · intro u hu
    go_simp
  try simp only [Act.put, List.setIfInBounds_toArray, List.set_cons_zero, List.set_cons_succ]
  refine wpAnyH_take (i := 3) (oi := { dst := some 66, op := Op.move (Operand.tmp 65), type := 4, pos := _, after := #[{ on := 2, ground := Ground.data }], guard := none }) (v := .bool true) rfl (by kernel_rfl) (by kernel_rfl) (by kernel_rfl) (fun _ _ _ h => h) (Or.inl ⟨by rfl, ?_⟩) hHeld ?_
  · intro u hu
    go_simp
  try simp only [Act.put, List.setIfInBounds_toArray, List.set_cons_zero, List.set_cons_succ]
  refine wpAnyH_take (i := 4) (oi := { dst := some 67, op := Op.move (Operand.tmp 10), type := 29, pos := _, after := #[{ on := 3, ground := Ground.guard }], guard := some (3, true) }) (v := .int .i64 SE) rfl (by kernel_rfl) (by kernel_rfl) (by kernel_rfl) (fun _ _ _ h => h) (Or.inl ⟨by rfl, ?_⟩) hHeld ?_
  · intro u hu
    go_simp
  try simp only [Act.put, List.setIfInBounds_toArray, List.set_cons_zero, List.set_cons_succ]
  refine wpAnyH_take (i := 5) (oi := { dst := some 68, op := Op.move (Operand.tmp 12), type := 29, pos := _, after := #[{ on := 3, ground := Ground.guard }], guard := some (3, true) }) (v := .int .i64 SE) rfl (by kernel_rfl) (by kernel_rfl) (by kernel_rfl) (fun _ _ _ h => h) (Or.inl ⟨by rfl, ?_⟩) hHeld ?_
  · intro u hu
    go_simp
  try simp only [Act.put, List.setIfInBounds_toArray, List.set_cons_zero, List.set_cons_succ]
  refine wpAnyH_take (i := 6) (oi := { dst := some 69, op := Op.binOp BinOp.eql 29 (Operand.tmp 67) (Operand.tmp 68) 29, type := 4, pos := _, after := #[{ on := 4, ground := Ground.data }, { on := 5, ground := Ground.data }, { on := 3, ground := Ground.guard }], guard := some (3, true) }) (v := .bool true) rfl (by kernel_rfl) (by kernel_rfl) (by kernel_rfl) (fun _ _ _ h => h) (Or.inl ⟨by rfl, ?_⟩) hHeld ?_
  · intro u hu
    go_simp
  try simp only [Act.put, List.setIfInBounds_toArray, List.set_cons_zero, List.set_cons_succ]
  refine wpAnyH_take (i := 7) (oi := { dst := some 70, op := Op.pick (Operand.tmp 66) (Operand.tmp 69) (Operand.const (Value.bool false)), type := 4, pos := _, after := #[{ on := 3, ground := Ground.data }, { on := 6, ground := Ground.data }], guard := none }) (v := .bool true) rfl (by kernel_rfl) (by kernel_rfl) (by kernel_rfl) (fun _ _ _ h => h) (Or.inl ⟨by rfl, ?_⟩) hHeld ?_
  · intro u hu
    go_simp
  try simp only [Act.put, List.setIfInBounds_toArray, List.set_cons_zero, List.set_cons_succ]
  refine wpAnyH_take (i := 8) (oi := { dst := some 71, op := Op.move (Operand.tmp 70), type := 4, pos := _, after := #[{ on := 7, ground := Ground.data }, { on := 3, ground := Ground.chain }], guard := none }) (v := .bool true) rfl (by kernel_rfl) (by kernel_rfl) (by kernel_rfl) (fun _ _ _ h => h) (Or.inl ⟨by rfl, ?_⟩) hHeld ?_
  · intro u hu
    go_simp
  try simp only [Act.put, List.setIfInBounds_toArray, List.set_cons_zero, List.set_cons_succ]
  refine wpAnyH_take (i := 9) (oi := { dst := some 72, op := Op.load 39 (Operand.tmp 13), type := 39, pos := _, after := #[{ on := 8, ground := Ground.guard }], guard := some (8, true) }) (v := .agg Q.cs.toArray) rfl (by kernel_rfl) (by kernel_rfl) (by kernel_rfl) (fun _ _ _ h => h)
    (yields_row 39 54 arrL (by rfl) (.tmp 13) rfl g13 (by rfl) Q.l hq (fun u hu => rq.later hu)) hHeld ?_
  try simp only [Act.put, List.setIfInBounds_toArray, List.set_cons_zero, List.set_cons_succ]
  refine wpAnyH_take (i := 10) (oi := { dst := some 73, op := Op.load 39 (Operand.tmp 15), type := 39, pos := _, after := #[{ on := 8, ground := Ground.guard }], guard := some (8, true) }) (v := .agg Q.cs.toArray) rfl (by kernel_rfl) (by kernel_rfl) (by kernel_rfl) (fun _ _ _ h => h)
    (yields_row 39 54 arrL (by rfl) (.tmp 15) rfl g15 (by rfl) Q.l hq (fun u hu => ru.later hu)) hHeld ?_
  try simp only [Act.put, List.setIfInBounds_toArray, List.set_cons_zero, List.set_cons_succ]
  refine wpAnyH_take (i := 11) (oi := { dst := some 74, op := Op.binOp BinOp.eql 39 (Operand.tmp 72) (Operand.tmp 73) 39, type := 4, pos := _, after := #[{ on := 9, ground := Ground.data }, { on := 10, ground := Ground.data }, { on := 8, ground := Ground.guard }], guard := some (8, true) }) (v := .bool true) rfl (by kernel_rfl) (by kernel_rfl) (by kernel_rfl) (fun _ _ _ h => h) (Or.inl ⟨by rfl, ?_⟩) hHeld ?_
  · intro u hu
    go_simp
  try simp only [Act.put, List.setIfInBounds_toArray, List.set_cons_zero, List.set_cons_succ]
  refine wpAnyH_take (i := 12) (oi := { dst := some 75, op := Op.pick (Operand.tmp 71) (Operand.tmp 74) (Operand.const (Value.bool false)), type := 4, pos := _, after := #[{ on := 8, ground := Ground.data }, { on := 11, ground := Ground.data }], guard := none }) (v := .bool true) rfl (by kernel_rfl) (by kernel_rfl) (by kernel_rfl) (fun _ _ _ h => h) (Or.inl ⟨by rfl, ?_⟩) hHeld ?_
  · intro u hu
    go_simp
  try simp only [Act.put, List.setIfInBounds_toArray, List.set_cons_zero, List.set_cons_succ]
  refine wpAnyH_take (i := 13) (oi := { dst := some 76, op := Op.move (Operand.tmp 75), type := 4, pos := _, after := #[{ on := 12, ground := Ground.data }, { on := 8, ground := Ground.chain }], guard := none }) (v := .bool true) rfl (by kernel_rfl) (by kernel_rfl) (by kernel_rfl) (fun _ _ _ h => h) (Or.inl ⟨by rfl, ?_⟩) hHeld ?_
  · intro u hu
    go_simp
  try simp only [Act.put, List.setIfInBounds_toArray, List.set_cons_zero, List.set_cons_succ]
  refine wpAnyH_take (i := 14) (oi := { dst := some 77, op := Op.move (Operand.tmp 14), type := 29, pos := _, after := #[{ on := 13, ground := Ground.guard }], guard := some (13, true) }) (v := .int .i64 SE) rfl (by kernel_rfl) (by kernel_rfl) (by kernel_rfl) (fun _ _ _ h => h) (Or.inl ⟨by rfl, ?_⟩) hHeld ?_
  · intro u hu
    go_simp
  try simp only [Act.put, List.setIfInBounds_toArray, List.set_cons_zero, List.set_cons_succ]
  refine wpAnyH_take (i := 15) (oi := { dst := some 78, op := Op.move (Operand.tmp 16), type := 29, pos := _, after := #[{ on := 13, ground := Ground.guard }], guard := some (13, true) }) (v := .int .i64 SE) rfl (by kernel_rfl) (by kernel_rfl) (by kernel_rfl) (fun _ _ _ h => h) (Or.inl ⟨by rfl, ?_⟩) hHeld ?_
  · intro u hu
    go_simp
  try simp only [Act.put, List.setIfInBounds_toArray, List.set_cons_zero, List.set_cons_succ]
  refine wpAnyH_take (i := 16) (oi := { dst := some 79, op := Op.binOp BinOp.eql 29 (Operand.tmp 77) (Operand.tmp 78) 29, type := 4, pos := _, after := #[{ on := 14, ground := Ground.data }, { on := 15, ground := Ground.data }, { on := 13, ground := Ground.guard }], guard := some (13, true) }) (v := .bool true) rfl (by kernel_rfl) (by kernel_rfl) (by kernel_rfl) (fun _ _ _ h => h) (Or.inl ⟨by rfl, ?_⟩) hHeld ?_
  · intro u hu
    go_simp
  try simp only [Act.put, List.setIfInBounds_toArray, List.set_cons_zero, List.set_cons_succ]
  refine wpAnyH_take (i := 17) (oi := { dst := some 80, op := Op.pick (Operand.tmp 76) (Operand.tmp 79) (Operand.const (Value.bool false)), type := 4, pos := _, after := #[{ on := 13, ground := Ground.data }, { on := 16, ground := Ground.data }], guard := none }) (v := .bool true) rfl (by kernel_rfl) (by kernel_rfl) (by kernel_rfl) (fun _ _ _ h => h) (Or.inl ⟨by rfl, ?_⟩) hHeld ?_
  · intro u hu
    go_simp
  try simp only [Act.put, List.setIfInBounds_toArray, List.set_cons_zero, List.set_cons_succ]
  refine wpAnyH_take (i := 18) (oi := { dst := some 81, op := Op.move (Operand.tmp 80), type := 4, pos := _, after := #[{ on := 17, ground := Ground.data }, { on := 13, ground := Ground.chain }], guard := none }) (v := .bool true) rfl (by kernel_rfl) (by kernel_rfl) (by kernel_rfl) (fun _ _ _ h => h) (Or.inl ⟨by rfl, ?_⟩) hHeld ?_
  · intro u hu
    go_simp
  try simp only [Act.put, List.setIfInBounds_toArray, List.set_cons_zero, List.set_cons_succ]
  refine wpAnyH_take (i := 19) (oi := { dst := some 82, op := Op.move (Operand.tmp 17), type := 3, pos := _, after := #[{ on := 18, ground := Ground.guard }], guard := some (18, true) }) (v := .int .i64 A) rfl (by kernel_rfl) (by kernel_rfl) (by kernel_rfl) (fun _ _ _ h => h) (Or.inl ⟨by rfl, ?_⟩) hHeld ?_
  · intro u hu
    go_simp
  try simp only [Act.put, List.setIfInBounds_toArray, List.set_cons_zero, List.set_cons_succ]
  refine wpAnyH_take (i := 20) (oi := { dst := some 83, op := Op.move (Operand.tmp 20), type := 3, pos := _, after := #[{ on := 18, ground := Ground.guard }], guard := some (18, true) }) (v := .int .i64 A) rfl (by kernel_rfl) (by kernel_rfl) (by kernel_rfl) (fun _ _ _ h => h) (Or.inl ⟨by rfl, ?_⟩) hHeld ?_
  · intro u hu
    go_simp
  try simp only [Act.put, List.setIfInBounds_toArray, List.set_cons_zero, List.set_cons_succ]
  refine wpAnyH_take (i := 21) (oi := { dst := some 84, op := Op.binOp BinOp.eql 3 (Operand.tmp 82) (Operand.tmp 83) 3, type := 4, pos := _, after := #[{ on := 19, ground := Ground.data }, { on := 20, ground := Ground.data }, { on := 18, ground := Ground.guard }], guard := some (18, true) }) (v := .bool true) rfl (by kernel_rfl) (by kernel_rfl) (by kernel_rfl) (fun _ _ _ h => h) (Or.inl ⟨by rfl, ?_⟩) hHeld ?_
  · intro u hu
    go_simp
  try simp only [Act.put, List.setIfInBounds_toArray, List.set_cons_zero, List.set_cons_succ]
  refine wpAnyH_take (i := 22) (oi := { dst := some 85, op := Op.pick (Operand.tmp 81) (Operand.tmp 84) (Operand.const (Value.bool false)), type := 4, pos := _, after := #[{ on := 18, ground := Ground.data }, { on := 21, ground := Ground.data }], guard := none }) (v := .bool true) rfl (by kernel_rfl) (by kernel_rfl) (by kernel_rfl) (fun _ _ _ h => h) (Or.inl ⟨by rfl, ?_⟩) hHeld ?_
  · intro u hu
    go_simp
  try simp only [Act.put, List.setIfInBounds_toArray, List.set_cons_zero, List.set_cons_succ]
  refine wpAnyH_take (i := 23) (oi := { dst := some 86, op := Op.move (Operand.tmp 85), type := 4, pos := _, after := #[{ on := 22, ground := Ground.data }, { on := 18, ground := Ground.chain }], guard := none }) (v := .bool true) rfl (by kernel_rfl) (by kernel_rfl) (by kernel_rfl) (fun _ _ _ h => h) (Or.inl ⟨by rfl, ?_⟩) hHeld ?_
  · intro u hu
    go_simp
  try simp only [Act.put, List.setIfInBounds_toArray, List.set_cons_zero, List.set_cons_succ]
  refine wpAnyH_take (i := 24) (oi := { dst := some 87, op := Op.move (Operand.tmp 18), type := 3, pos := _, after := #[{ on := 23, ground := Ground.guard }], guard := some (23, true) }) (v := .int .i64 Z) rfl (by kernel_rfl) (by kernel_rfl) (by kernel_rfl) (fun _ _ _ h => h) (Or.inl ⟨by rfl, ?_⟩) hHeld ?_
  · intro u hu
    go_simp
  try simp only [Act.put, List.setIfInBounds_toArray, List.set_cons_zero, List.set_cons_succ]
  refine wpAnyH_take (i := 25) (oi := { dst := some 88, op := Op.move (Operand.tmp 21), type := 3, pos := _, after := #[{ on := 23, ground := Ground.guard }], guard := some (23, true) }) (v := .int .i64 Z) rfl (by kernel_rfl) (by kernel_rfl) (by kernel_rfl) (fun _ _ _ h => h) (Or.inl ⟨by rfl, ?_⟩) hHeld ?_
  · intro u hu
    go_simp
  try simp only [Act.put, List.setIfInBounds_toArray, List.set_cons_zero, List.set_cons_succ]
  refine wpAnyH_take (i := 26) (oi := { dst := some 89, op := Op.binOp BinOp.eql 3 (Operand.tmp 87) (Operand.tmp 88) 3, type := 4, pos := _, after := #[{ on := 24, ground := Ground.data }, { on := 25, ground := Ground.data }, { on := 23, ground := Ground.guard }], guard := some (23, true) }) (v := .bool true) rfl (by kernel_rfl) (by kernel_rfl) (by kernel_rfl) (fun _ _ _ h => h) (Or.inl ⟨by rfl, ?_⟩) hHeld ?_
  · intro u hu
    go_simp
  try simp only [Act.put, List.setIfInBounds_toArray, List.set_cons_zero, List.set_cons_succ]
  refine wpAnyH_take (i := 27) (oi := { dst := some 90, op := Op.pick (Operand.tmp 86) (Operand.tmp 89) (Operand.const (Value.bool false)), type := 4, pos := _, after := #[{ on := 23, ground := Ground.data }, { on := 26, ground := Ground.data }], guard := none }) (v := .bool true) rfl (by kernel_rfl) (by kernel_rfl) (by kernel_rfl) (fun _ _ _ h => h) (Or.inl ⟨by rfl, ?_⟩) hHeld ?_
  · intro u hu
    go_simp
  try simp only [Act.put, List.setIfInBounds_toArray, List.set_cons_zero, List.set_cons_succ]
  refine wpAnyH_take (i := 28) (oi := { dst := some 91, op := Op.move (Operand.tmp 90), type := 4, pos := _, after := #[{ on := 27, ground := Ground.data }, { on := 23, ground := Ground.chain }], guard := none }) (v := .bool true) rfl (by kernel_rfl) (by kernel_rfl) (by kernel_rfl) (fun _ _ _ h => h) (Or.inl ⟨by rfl, ?_⟩) hHeld ?_
  · intro u hu
    go_simp
  try simp only [Act.put, List.setIfInBounds_toArray, List.set_cons_zero, List.set_cons_succ]
  refine wpAnyH_take (i := 29) (oi := { dst := some 92, op := Op.move (Operand.tmp 19), type := 29, pos := _, after := #[{ on := 28, ground := Ground.guard }], guard := some (28, true) }) (v := .int .i64 E) rfl (by kernel_rfl) (by kernel_rfl) (by kernel_rfl) (fun _ _ _ h => h) (Or.inl ⟨by rfl, ?_⟩) hHeld ?_
  · intro u hu
    go_simp
  try simp only [Act.put, List.setIfInBounds_toArray, List.set_cons_zero, List.set_cons_succ]
  refine wpAnyH_take (i := 30) (oi := { dst := some 93, op := Op.move (Operand.tmp 22), type := 29, pos := _, after := #[{ on := 28, ground := Ground.guard }], guard := some (28, true) }) (v := .int .i64 E) rfl (by kernel_rfl) (by kernel_rfl) (by kernel_rfl) (fun _ _ _ h => h) (Or.inl ⟨by rfl, ?_⟩) hHeld ?_
  · intro u hu
    go_simp
  try simp only [Act.put, List.setIfInBounds_toArray, List.set_cons_zero, List.set_cons_succ]
  refine wpAnyH_take (i := 31) (oi := { dst := some 94, op := Op.binOp BinOp.eql 29 (Operand.tmp 92) (Operand.tmp 93) 29, type := 4, pos := _, after := #[{ on := 29, ground := Ground.data }, { on := 30, ground := Ground.data }, { on := 28, ground := Ground.guard }], guard := some (28, true) }) (v := .bool true) rfl (by kernel_rfl) (by kernel_rfl) (by kernel_rfl) (fun _ _ _ h => h) (Or.inl ⟨by rfl, ?_⟩) hHeld ?_
  · intro u hu
    go_simp
  try simp only [Act.put, List.setIfInBounds_toArray, List.set_cons_zero, List.set_cons_succ]
  refine wpAnyH_take (i := 32) (oi := { dst := some 95, op := Op.pick (Operand.tmp 91) (Operand.tmp 94) (Operand.const (Value.bool false)), type := 4, pos := _, after := #[{ on := 28, ground := Ground.data }, { on := 31, ground := Ground.data }], guard := none }) (v := .bool true) rfl (by kernel_rfl) (by kernel_rfl) (by kernel_rfl) (fun _ _ _ h => h) (Or.inl ⟨by rfl, ?_⟩) hHeld ?_
  · intro u hu
    go_simp
  try simp only [Act.put, List.setIfInBounds_toArray, List.set_cons_zero, List.set_cons_succ]
  refine wpAnyH_take (i := 33) (oi := { dst := some 96, op := Op.move (Operand.tmp 95), type := 4, pos := _, after := #[{ on := 32, ground := Ground.data }, { on := 28, ground := Ground.chain }], guard := none }) (v := .bool true) rfl (by kernel_rfl) (by kernel_rfl) (by kernel_rfl) (fun _ _ _ h => h) (Or.inl ⟨by rfl, ?_⟩) hHeld ?_
  · intro u hu
    go_simp
  try simp only [Act.put, List.setIfInBounds_toArray, List.set_cons_zero, List.set_cons_succ]
  refine wpAnyH_take (i := 34) (oi := { dst := some 97, op := Op.load 26 (Operand.tmp 6), type := 26, pos := _, after := #[{ on := 33, ground := Ground.guard }], guard := some (33, true) }) (v := .agg x.cs.toArray) rfl (by kernel_rfl) (by kernel_rfl) (by kernel_rfl) (fun _ _ _ h => h)
    (yields_I (by rfl) (.tmp 6) rfl g6 (by rfl) x (fun u hu => rx.later hu)) hHeld ?_
  try simp only [Act.put, List.setIfInBounds_toArray, List.set_cons_zero, List.set_cons_succ]
  refine wpAnyH_take (i := 35) (oi := { dst := some 98, op := Op.move (Operand.tmp 3), type := 3, pos := _, after := #[{ on := 33, ground := Ground.guard }], guard := some (33, true) }) (v := .int .i64 f) rfl (by kernel_rfl) (by kernel_rfl) (by kernel_rfl) (fun _ _ _ h => h) (Or.inl ⟨by rfl, ?_⟩) hHeld ?_
  · intro u hu
    go_simp
  try simp only [Act.put, List.setIfInBounds_toArray, List.set_cons_zero, List.set_cons_succ]
  refine wpAnyH_take (i := 37) (oi := { dst := some 100, op := Op.load 26 (Operand.tmp 6), type := 26, pos := _, after := #[{ on := 33, ground := Ground.guard }], guard := some (33, true) }) (v := .agg x.cs.toArray) rfl (by kernel_rfl) (by kernel_rfl) (by kernel_rfl) (fun _ _ _ h => h)
    (yields_I (by rfl) (.tmp 6) rfl g6 (by rfl) x (fun u hu => rx.later hu)) hHeld ?_
  try simp only [Act.put, List.setIfInBounds_toArray, List.set_cons_zero, List.set_cons_succ]
  refine wpAnyH_take (i := 38) (oi := { dst := some 101, op := Op.move (Operand.tmp 3), type := 3, pos := _, after := #[{ on := 33, ground := Ground.guard }], guard := some (33, true) }) (v := .int .i64 f) rfl (by kernel_rfl) (by kernel_rfl) (by kernel_rfl) (fun _ _ _ h => h) (Or.inl ⟨by rfl, ?_⟩) hHeld ?_
  · intro u hu
    go_simp
  try simp only [Act.put, List.setIfInBounds_toArray, List.set_cons_zero, List.set_cons_succ]
  refine wpAnyH_ready (rs := [36]) (by kernel_rfl) (by simp) ?_
  refine (AllReadyH.cons (o := { dst := some 99, op := Op.call { callee := Callee.value (Operand.func 22), args := #[Operand.tmp 97, Operand.tmp 98], argTypes := #[26, 46] }, type := 32, pos := _, after := #[{ on := 34, ground := Ground.data }, { on := 35, ground := Ground.data }, { on := 33, ground := Ground.chain }, { on := 33, ground := Ground.guard }], guard := some (33, true) }) rfl (fun K hK => ?_) AllReadyH.nil)
  go_simp
  refine (hF _ (TW.later hHeld)).mono ?_
  rintro e v36 ⟨x36, n36, rfl, y36, c36⟩
  try go_wp2_with fail
  refine hK.out _ _ (bnext hHeld c36 (Nat.le_refl _)) (fun hHeld => ?_)
  clear hK K
  try simp only [Act.put, List.setIfInBounds_toArray, List.set_cons_zero, List.set_cons_succ]
  refine wpAnyH_ready (rs := [39]) (by kernel_rfl) (by simp) ?_
  refine (AllReadyH.cons (o := { dst := some 102, op := Op.call { callee := Callee.value (Operand.func 23), args := #[Operand.tmp 100, Operand.tmp 101], argTypes := #[26, 3] }, type := 32, pos := _, after := #[{ on := 37, ground := Ground.data }, { on := 38, ground := Ground.data }, { on := 36, ground := Ground.chain }, { on := 33, ground := Ground.guard }], guard := some (33, true) }) rfl (fun K hK => ?_) AllReadyH.nil)
  go_simp
  refine (hG _).mono ?_
  rintro e v39 ⟨x39, n39, rfl, y39, c39⟩
  try go_wp2_with fail
  have y36 := y36.later c39
  refine hK.out _ _ (bnext hHeld c39 (Nat.le_refl _)) (fun hHeld => ?_)
  clear hK K
  try simp only [Act.put, List.setIfInBounds_toArray, List.set_cons_zero, List.set_cons_succ]
  refine wpAnyH_ready (rs := [40]) (by kernel_rfl) (by simp) ?_
  refine (AllReadyH.cons (o := { dst := some 103, op := Op.call { callee := Callee.value (Operand.func 11), args := #[Operand.tmp 99, Operand.tmp 102], argTypes := #[32, 32] }, type := 4, pos := _, after := #[{ on := 36, ground := Ground.data }, { on := 39, ground := Ground.data }, { on := 39, ground := Ground.chain }, { on := 33, ground := Ground.guard }], guard := some (33, true) }) rfl (fun K hK => ?_) AllReadyH.nil)
  go_simp
  refine (sameBytes_yes _ _ _ _ _ _ _ _ y36 y39).mono ?_
  rintro e v40 ⟨rfl, rfl⟩
  try go_wp2_with fail
  refine hK.out _ _ (hHeld) (fun hHeld => ?_)
  clear hK K
  try simp only [Act.put, List.setIfInBounds_toArray, List.set_cons_zero, List.set_cons_succ]
  refine wpAnyH_take (i := 41) (oi := { dst := some 104, op := Op.pick (Operand.tmp 96) (Operand.tmp 103) (Operand.const (Value.bool false)), type := 4, pos := _, after := #[{ on := 33, ground := Ground.data }, { on := 40, ground := Ground.data }], guard := none }) (v := .bool true) rfl (by kernel_rfl) (by kernel_rfl) (by kernel_rfl) (fun _ _ _ h => h) (Or.inl ⟨by rfl, ?_⟩) hHeld ?_
  · intro u hu
    go_simp
  try simp only [Act.put, List.setIfInBounds_toArray, List.set_cons_zero, List.set_cons_succ]
  refine wpAnyH_take (i := 42) (oi := { dst := some 105, op := Op.move (Operand.tmp 104), type := 4, pos := _, after := #[{ on := 41, ground := Ground.data }, { on := 40, ground := Ground.chain }], guard := none }) (v := .bool true) rfl (by kernel_rfl) (by kernel_rfl) (by kernel_rfl) (fun _ _ _ h => h) (Or.inl ⟨by rfl, ?_⟩) hHeld ?_
  · intro u hu
    go_simp
  try simp only [Act.put, List.setIfInBounds_toArray, List.set_cons_zero, List.set_cons_succ]
  refine wpAnyH_ready (rs := [43]) (by kernel_rfl) (by simp) ?_
  refine (AllReadyH.cons (o := { dst := some 106, op := Op.call { callee := Callee.value (Operand.func 15), args := #[], argTypes := #[] }, type := 4, pos := _, after := #[{ on := 42, ground := Ground.chain }, { on := 42, ground := Ground.guard }], guard := some (42, true) }) rfl (fun K hK => ?_) AllReadyH.nil)
  go_simp
  refine (works10_any _ (TW.later hHeld)).mono ?_
  rintro e v43 ⟨rfl, c43⟩
  try go_wp2_with fail
  refine hK.out _ _ (bnext hHeld c43 (Nat.le_refl _)) (fun hHeld => ?_)
  clear hK K
  try simp only [Act.put, List.setIfInBounds_toArray, List.set_cons_zero, List.set_cons_succ]
  refine wpAnyH_take (i := 44) (oi := { dst := some 107, op := Op.pick (Operand.tmp 105) (Operand.tmp 106) (Operand.const (Value.bool false)), type := 4, pos := _, after := #[{ on := 42, ground := Ground.data }, { on := 43, ground := Ground.data }], guard := none }) (v := .bool true) rfl (by kernel_rfl) (by kernel_rfl) (by kernel_rfl) (fun _ _ _ h => h) (Or.inl ⟨by rfl, ?_⟩) hHeld ?_
  · intro u hu
    go_simp
  try simp only [Act.put, List.setIfInBounds_toArray, List.set_cons_zero, List.set_cons_succ]
  refine wpAnyH_take (i := 45) (oi := { dst := some 8, op := Op.assign (Operand.tmp 107), type := 4, pos := _, after := #[{ on := 44, ground := Ground.data }, { on := 43, ground := Ground.chain }, { on := 0, ground := Ground.phase }, { on := 1, ground := Ground.phase }, { on := 2, ground := Ground.phase }, { on := 3, ground := Ground.phase }, { on := 4, ground := Ground.phase }, { on := 5, ground := Ground.phase }, { on := 6, ground := Ground.phase }, { on := 7, ground := Ground.phase }, { on := 8, ground := Ground.phase }, { on := 9, ground := Ground.phase }, { on := 10, ground := Ground.phase }, { on := 11, ground := Ground.phase }, { on := 12, ground := Ground.phase }, { on := 13, ground := Ground.phase }, { on := 14, ground := Ground.phase }, { on := 15, ground := Ground.phase }, { on := 16, ground := Ground.phase }, { on := 17, ground := Ground.phase }, { on := 18, ground := Ground.phase }, { on := 19, ground := Ground.phase }, { on := 20, ground := Ground.phase }, { on := 21, ground := Ground.phase }, { on := 22, ground := Ground.phase }, { on := 23, ground := Ground.phase }, { on := 24, ground := Ground.phase }, { on := 25, ground := Ground.phase }, { on := 26, ground := Ground.phase }, { on := 27, ground := Ground.phase }, { on := 28, ground := Ground.phase }, { on := 29, ground := Ground.phase }, { on := 30, ground := Ground.phase }, { on := 31, ground := Ground.phase }, { on := 32, ground := Ground.phase }, { on := 33, ground := Ground.phase }, { on := 34, ground := Ground.phase }, { on := 35, ground := Ground.phase }, { on := 36, ground := Ground.phase }, { on := 37, ground := Ground.phase }, { on := 38, ground := Ground.phase }, { on := 39, ground := Ground.phase }, { on := 40, ground := Ground.phase }, { on := 41, ground := Ground.phase }, { on := 42, ground := Ground.phase }, { on := 43, ground := Ground.phase }, { on := 44, ground := Ground.phase }], guard := none }) (v := .bool true) rfl (by kernel_rfl) (by kernel_rfl) (by kernel_rfl) (fun _ _ _ h => h) (Or.inl ⟨by rfl, ?_⟩) hHeld ?_
  · intro u hu
    go_simp
  try simp only [Act.put, List.setIfInBounds_toArray, List.set_cons_zero, List.set_cons_succ]
  refine wpAnyH_done (by kernel_rfl) ?_ _
  go_wp2_with fail
  go_returns
  exact ⟨rfl, bnext BW hHeld (Nat.le_refl _)⟩
theorem own : ownKnob Tryd.prog.godebug = none := by kernel_rfl
theorem laidOut : laidOutB Tryd.prog = true := by kernel_rfl
theorem table {W : World} (h : laidMetH Tryd.prog Rows.inodeLoadsRow.laid W) : Tb W := tab_of_laid (by kernel_rfl) h
set_option maxRecDepth 100000 in
theorem contract (H : Type) (enc : TypeId × Value → H) (W : World) (base : Nat) (args : Array Value) (ds gs : List (DataW H)) (before : List MemPlace)
    (hval : ∀ (j : Nat) t v, Tryd.f4.params[j]? = some t → args[j]? = some v → Value.okWide Tryd.prog W .any base t v)
    (hW : DataW.Whole enc Tryd.prog Tryd.f4.params.toList Rows.inodeLoadsSpec.vars false W args.toList ds gs before) (hL : laidMetH Tryd.prog Rows.inodeLoadsRow.laid W) :
    Calls Tryd.prog 4 args W fun e W' => ∃ v, e = .returned v ∧ Rows.inodeLoadsSpec.post enc Tryd.prog Tryd.f4 false true false false W args v W' := by
  have hW' := hW
  obtain ⟨p, q, hA0, hV, rfl, hfz, hnd⟩ := hW
  have hA : DataW.TrodAll enc Tryd.prog W 0 (fun _ => true) true Tryd.f4.params.toList args.toList ds p := hA0
  rw [Tryd.params4] at hA hval
  obtain ⟨v0, vs0, d0, ds0, p0, q0, hargs, rfl, rfl, h0, r0⟩ := trodAll_cons hA
  obtain ⟨v1, vs1, d1, ds1, p1, q1, rfl, rfl, rfl, h1, r1⟩ := trodAll_cons r0
  obtain ⟨v2, vs2, d2, ds2, p2, q2, rfl, rfl, rfl, h2, r2⟩ := trodAll_cons r1
  obtain ⟨v3, vs3, d3, ds3, p3, q3, rfl, rfl, rfl, h3, r3⟩ := trodAll_cons r2
  obtain ⟨rfl, rfl, rfl⟩ := trodAll_nil r3
  obtain rfl : args = #[v0, v1, v2, v3] := by cases args; simp_all
  obtain ⟨rfl, rfl⟩ := trodVars_none hV
  obtain ⟨cs0, rfl, _⟩ := okWide_row arrL.und (hval 0 39 v0 rfl rfl)
  have k0 := h0
  have lt0 : ∀ x ∈ p0, x.block < W.heap.size := by obtain ⟨m, hm⟩ := k0; exact DataW.trod_lt m _ _ _ hm
  obtain ⟨b0, e0⟩ : ∃ b : Ld, cs0 = b.cs.toArray := by
    obtain ⟨fuel, hf⟩ := h0
    obtain ⟨b, hb⟩ := ldOfTrod hf
    exact ⟨b, by rw [hb]; simp [Value.cells]⟩
  subst e0
  obtain ⟨a1, rfl, rfl, rfl, w1⟩ := open_int Tryd.underlying3 (hval 1 3 v1 rfl rfl) h1
  obtain ⟨cs2, rfl, _⟩ := okWide_struct Tryd.underlying26 (hval 2 26 v2 rfl rfl)
  have k2 := h2
  have lt2 : ∀ x ∈ p2, x.block < W.heap.size := by obtain ⟨m, hm⟩ := k2; exact DataW.trod_lt m _ _ _ hm
  obtain ⟨b2, e2⟩ : ∃ b : Ino, cs2 = b.cs.toArray := by
    obtain ⟨fuel, hf⟩ := h2
    obtain ⟨b, hb⟩ := inoOfTrod hf
    exact ⟨b, by rw [hb]; simp [Value.cells]⟩
  subst e2
  obtain ⟨a3, rfl, rfl, rfl, w3⟩ := open_int Tryd.underlying3 (hval 3 3 v3 rfl rfl) h3
  clear hA0
  refine (walk b0 a1 b2 a3 W w1 w3 (table hL)).mono fun e W' ⟨he, bel⟩ => ?_
  subst he
  exact ⟨_, rfl, _, _, _, [], _, [], hW', trodAll_mk1 (shut_bool Tryd.underlying4 _), (trodAll_cons_mk (Below.trod laidOut (by kernel_rfl) (of_decide_eq_true (by kernel_rfl)) k0 bel lt0) (trodAll_cons_mk (shut_int Tryd.underlying3 w1) (trodAll_cons_mk (Below.trod laidOut (by kernel_rfl) (of_decide_eq_true (by kernel_rfl)) k2 bel lt2) (trodAll_cons_mk (shut_int Tryd.underlying3 w3) trodAll_mk0)))), rfl, bel.frame _, fun h => by cases h⟩
theorem laid_met (os : Os) : laidMet Tryd.prog Rows.inodeLoadsRow.laid (({ World.holding Tryd.prog os ⟨#[], #[], []⟩ with heap := (World.holding Tryd.prog os ⟨#[], #[], []⟩).heap.modify 0 fun | .cells _ t frozen => .cells #[.int .i64 0, .int .i64 18, .int .i64 1, .int .i64 1, .int .i64 2, .int .i64 4, .int .i64 6, .int .i64 2, .int .i64 8, .int .i64 2, .int .i64 10, .int .i64 2, .int .i64 12, .int .i64 2, .int .i64 14, .int .i64 2, .int .i64 16, .int .i64 2, .int .i64 2, .int .i64 16] t frozen | o => o } : World).forCall (fun _ _ => 0) ⟨#[], #[.agg Ld.zero.cs.toArray, .int .i64 0, .agg Ino.zero.cs.toArray, .int .i64 0], []⟩).memory :=
  laidMet_of_run' 8 (by kernel_rfl) (by kernel_rfl)
theorem reads (os : Os) {H : Type} (enc : TypeId × Value → H) : ∃ places, DataW.whole enc Tryd.prog (({ World.holding Tryd.prog os ⟨#[], #[], []⟩ with heap := (World.holding Tryd.prog os ⟨#[], #[], []⟩).heap.modify 0 fun | .cells _ t frozen => .cells #[.int .i64 0, .int .i64 18, .int .i64 1, .int .i64 1, .int .i64 2, .int .i64 4, .int .i64 6, .int .i64 2, .int .i64 8, .int .i64 2, .int .i64 10, .int .i64 2, .int .i64 12, .int .i64 2, .int .i64 14, .int .i64 2, .int .i64 16, .int .i64 2, .int .i64 2, .int .i64 16] t frozen | o => o } : World).forCall (fun _ _ => 0) ⟨#[], #[.agg Ld.zero.cs.toArray, .int .i64 0, .agg Ino.zero.cs.toArray, .int .i64 0], []⟩).memory Tryd.f4.params.toList Rows.inodeLoadsSpec.vars false (#[.agg Ld.zero.cs.toArray, .int .i64 0, .agg Ino.zero.cs.toArray, .int .i64 0] : Array Value).toList 8 = some ([.agg (List.replicate 54 (.lit (.int .u8 0))), .lit (.int .i64 0), .agg [.lit (.int .u8 0), .lit (.int .u8 0), .lit (.int .u32 0), .agg [.lit (.int .u16 0), .lit (.int .u16 0), .lit (.int .u16 0), .lit (.int .u16 0)], .lit (.int .u16 0), .lit (.int .u16 0)], .lit (.int .i64 0)], [], places) :=
  ⟨[], by kernel_rfl⟩
set_option maxRecDepth 100000 in
theorem lifted (os : Os) (started : os.Started) (H : Type) (enc : TypeId × Value → H) (F : Stop.Interp) :
    ReturnsInHanded {} Tryd.checked os 4 .any ((OpenSpec.ofChange Rows.inodeLoadsSpec).preRow enc Tryd.prog Tryd.f4 Rows.inodeLoadsRow.domain false Rows.inodeLoadsRow.laid) (((OpenSpec.ofChange Rows.inodeLoadsSpec).at F).post enc Tryd.prog Tryd.f4 false true false false) := by
  obtain ⟨places, hx⟩ := reads os enc
  refine returnsInHanded_of_row (C := Tryd.checked) (s := OpenSpec.ofChange Rows.inodeLoadsSpec) own started (by kernel_rfl) Tryd.func4
    (witness_row_at (enc := enc) (C := Tryd.checked) false ({ World.holding Tryd.prog os ⟨#[], #[], []⟩ with heap := (World.holding Tryd.prog os ⟨#[], #[], []⟩).heap.modify 0 fun | .cells _ t frozen => .cells #[.int .i64 0, .int .i64 18, .int .i64 1, .int .i64 1, .int .i64 2, .int .i64 4, .int .i64 6, .int .i64 2, .int .i64 8, .int .i64 2, .int .i64 10, .int .i64 2, .int .i64 12, .int .i64 2, .int .i64 14, .int .i64 2, .int .i64 16, .int .i64 2, .int .i64 2, .int .i64 16] t frozen | o => o } : World) #[.agg Ld.zero.cs.toArray, .int .i64 0, .agg Ino.zero.cs.toArray, .int .i64 0] rfl (by kernel_rfl) (by kernel_rfl) (by kernel_rfl)
      (OpenSpec.preRow_of_cond 8 hx (by kernel_rfl) (fun k hk => by cases hk) (by kernel_rfl) (laid_met os))) ?_
  intro W base args ds gs before hval hW _ _ _ hL _ _
  exact contract H enc W base args ds gs before hval hW hL
theorem said : Rows.InodeLoadsSaid :=
  OpenClaim.holds_of_cond 4 Tryd.f4 rfl rfl rfl rfl rfl rfl rfl ⟨rfl, rfl, rfl, rfl, rfl⟩ rfl rfl rfl rfl rfl (by kernel_rfl) Tryd.func4 (by kernel_rfl)
    (of_decide_eq_true (by kernel_rfl)) (by unfold Func.isWrapper; first | (rw [if_pos (by decide +kernel)]; kernel_rfl) | (rw [if_neg (by decide +kernel)]; exact ⟨rfl, rfl⟩))
    (fun os started H enc _ F => by rw [OpenClaim.pre_eq_preRow]; exact lifted os started H enc F)
theorem plain (f : FuncId) (fn : Func) (hf : Tryd.pinned.checked.prog.funcNamed Rows.inodeLoadsRow.func = some f) (hfn : Tryd.pinned.checked.prog.funcs[f]? = some fn) :
    false = Tryd.pinned.checked.prog.looks [] ∧ ∀ (j : Nat) t, fn.params[j]? = some t → Tryd.pinned.checked.prog.wantsStandIn t = false := by
  obtain rfl : f = 4 := Option.some.inj ((show Tryd.prog.funcNamed Rows.inodeLoadsRow.func = some 4 by kernel_rfl).symm.trans hf) |>.symm
  obtain rfl : fn = Tryd.f4 := (Option.some.inj (Tryd.func4.symm.trans hfn)).symm
  refine ⟨by kernel_rfl, fun j t ht => ?_⟩
  rw [Tryd.params4] at ht
  have hm := Array.mem_of_getElem? ht
  have hm2 : t ∈ ([39, 3, 26, 3] : List TypeId) := by simpa using hm
  have ha : ([39, 3, 26, 3] : List TypeId).all (fun t => !Tryd.prog.wantsStandIn t) = true := by kernel_rfl
  have := List.all_eq_true.1 ha t hm2
  exact (show Tryd.prog.wantsStandIn t = false by simpa using this)
end Go.Proofs.YtbpnegklglaekaaDoor.inodeLoads
namespace Go.Proofs.YtbpnegklglaekaaDoor
/-- The statement. -/
theorem inodeLoads_holds : Rows.InodeLoadsCardSaid :=
  Claim7.holds_tied_plain_at .later [] _ _ _ _ inodeLoads.said (fun _ h => by cases h) (by kernel_rfl) (fun _ h => by cases h) inodeLoads_row_tie rfl ⟨rfl, rfl⟩ (by kernel_rfl) rfl inodeLoads.plain (by kernel_rfl)
#print axioms inodeLoads_holds
end Go.Proofs.YtbpnegklglaekaaDoor
