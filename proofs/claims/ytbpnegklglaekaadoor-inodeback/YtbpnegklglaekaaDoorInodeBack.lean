/-
  The statement InodeBack, proved: for every load, slot, inode and field the law returns true, where the table of the fields is laid as the program's text lays it (the card ties it); no other condition.
-/
import Derived.Test.YtbpnegklglaekaaDoorInoO
import Derived.Test.YtbpnegklglaekaaDoorInoK
import Derived.Test.YtbpnegklglaekaaDoorInoN
import Derived.Test.YtbpnegklglaekaaDoorInoT
import Derived.Test.YtbpnegklglaekaaDoorNumG
import Derived.Test.YtbpnegklglaekaaDoorCards
import Derived.Test.YtbpnegklglaekaaDoorTie
namespace Go.Proofs.YtbpnegklglaekaaDoor.inodeBack
open Go.ChangeShapes Go.WideShapes Go.ChangeAt Go.RowKit
set_option linter.unusedVariables false

set_option maxRecDepth 100000 in
set_option maxHeartbeats 8000000 in
theorem walk_0 (p : Ld) (s : Int) (x : Ino) (f : Int) (F : Nat) (w : World) (hs0 : 0 ≤ s) (hs1 : s ≤ 255) (hf0 : 0 ≤ f) (hf1 : f ≤ 255) (hm : s % 3 = 0) (hn : f % 10 = (F : Int)) (hF : F ≤ 9) (hT : Tb w) :
    Calls Tryd.prog 5 #[.agg p.cs.toArray, .int .u8 s, .agg x.cs.toArray, .int .u8 f] w fun e w' => e = .returned (.bool true) ∧ Below w.heap.size w w' := by
  have hm' : s.tmod 3 = 0 := by rw [Int.tmod_eq_emod_of_nonneg hs0]; exact hm
  have hn' : f.tmod 10 = (F : Int) := by rw [Int.tmod_eq_emod_of_nonneg hf0]; exact hn
  have hp := p.len
  have hW := iwith_0 p x
  have hq := (puts p 0 x).len
  have hQ0 := iat_0 (puts p 0 x)
  have hQ1 := iat_1 (puts p 0 x)
  have hQ2 := iat_2 (puts p 0 x)
  rw [slot_puts p 0 x (by omega), gI_iL] at hQ0
  rw [slot_other p 0 1 x (by omega) (by omega) (by omega)] at hQ1
  rw [slot_other p 0 2 x (by omega) (by omega) (by omega)] at hQ2
  have hP0 := iat_0 p
  have hP1 := iat_1 p
  have hP2 := iat_2 p
  have hO := fun w => offset_ok 0 F w (by omega) hF
  have hle := f_le F hF
  have hZ := fields_ok x F
  have hPart : Hid (((puts p 0 x).l.drop (18 * 0 + fAt F)).take (fSz F) = fPart x F) := part_puts p 0 x F (by omega) hF
  have hpl := fPart_len x F hF
  have hput := iput_any x
  have hget := fun w => iget_any (iL x) w (iL_len x)
  rw [gI_iL] at hget
  have hex := eqI x x
  rw [same_self] at hex
  have hg := guardI
  have he0 := eqI (gI (slot p 0)) (gI (slot p 0))
  rw [same_self] at he0
  have he1 := eqI (gI (slot p 1)) (gI (slot p 1))
  rw [same_self] at he1
  have he2 := eqI (gI (slot p 2)) (gI (slot p 2))
  rw [same_self] at he2
  generalize puts p 0 x = q at *
  generalize gI (slot p 0) = Y0 at *
  generalize gI (slot p 1) = Y1 at *
  generalize gI (slot p 2) = Y2 at *
  have hO1 : 18 * 0 + fAt F + fSz F ≤ 54 := by omega
  have hO2 : 18 * 0 + fAt F < 54 := by omega
  generalize fPart x F = P at *
  generalize 18 * 0 + fAt F = O at *
  generalize fSz F = M at *
  generalize iL x = D at *
  have hsub := fun w g => run_subA arrL w g O M hO1 hO2 ((O : Int) + (M : Int)) rfl
  go_enter Tryd.func5, Tryd.ntmps5
  go_wp2_with (first
    | (refine at_box 39 54 arrL (by rfl) _ (by rfl) p.l (by rfl) hp ?_; intro g4 w1 a1 z1 r1 b1)
    | (refine at_boxI (by rfl) _ (by rfl) x (by rfl) ?_; intro g6 w2 a2 z2 x2 b2; have p2 := r1.later b2; have B2 := bnext b1 b2 (Nat.le_refl _))
    | (go_at_call 15; refine (works10_any _ (hT.later B2)).mono ?_; rintro e w3 ⟨rfl, b3⟩; have p3 := p2.later b3; have x3 := x2.later b3)
    | (refine at_getL (by rfl) _ (by rfl) g4 (by rfl) p p3 ?_)
    | (refine at_getI (by rfl) _ (by rfl) g6 (by rfl) x x3 ?_)
    | (go_at_call 18; refine (hW _).mono ?_; rintro e w4 ⟨rfl, b4⟩)
    | (refine at_new 39 54 arrL (by rfl) (by rfl) ?_; intro g10 w5 a5 z5 r5 b5)
    | (refine at_put 39 54 arrL (by rfl) _ _ (by rfl) g10 (by rfl) q.l (by rfl) hq _ r5 (by simp) ?_; intro W q6 s6))
  have p6 : Row W g4 p.l := ((p3.later b4).later b5).step s6 (by have := (p3.later b4).lt; omega)
  have x6 : Cs W g6 x.cs := ((x3.later b4).later b5).step s6 (by have := (x3.later b4).lt; omega)
  have S6 : Stp (fun y => w.heap.size ≤ y) w W := (Stp.of_below (bnext (bnext (bnext B2 b3 (Nat.le_refl _)) b4 (Nat.le_refl _)) b5 (Nat.le_refl _)) _).next s6 (fun y hy => .inl (by subst hy; have := B2.size; have := b3.size; have := b4.size; omega))
  clear r1 b1 b2 a1 z1 a2 z2 p2 x2 B2 b3 b4 b5 a5 z5 r5 s6 p3 x3 hW
  refine wp_region_held_drew (S := fun u => Below W.heap.size W u) (by kernel_rfl) (Below.refl _ _).drew (fun hHeld => ?_)
  refine wpAnyH_take (i := 0) (oi := { dst := some 32, op := Op.move (Operand.tmp 11), type := 29, pos := _, after := #[], guard := none }) (v := .int .i64 0) rfl (by kernel_rfl) (by kernel_rfl) (by kernel_rfl) (fun _ _ _ h => h) (Or.inl ⟨by rfl, ?_⟩) hHeld ?_
  · intro u hu
    go_simp
  try simp only [Act.put, List.setIfInBounds_toArray, List.set_cons_zero, List.set_cons_succ]
  refine wpAnyH_take (i := 1) (oi := { dst := some 33, op := Op.binOp BinOp.neq 29 (Operand.tmp 32) (Operand.const (Value.int IntKind.i64 0)) 29, type := 4, pos := _, after := #[{ on := 0, ground := Ground.data }], guard := none }) (v := .bool false) rfl (by kernel_rfl) (by kernel_rfl) (by kernel_rfl) (fun _ _ _ h => h) (Or.inl ⟨by rfl, ?_⟩) hHeld ?_
  · intro u hu
    go_simp
  try simp only [Act.put, List.setIfInBounds_toArray, List.set_cons_zero, List.set_cons_succ]
  refine wpAnyH_take (i := 2) (oi := { dst := some 34, op := Op.move (Operand.tmp 33), type := 4, pos := _, after := #[{ on := 1, ground := Ground.data }], guard := none }) (v := .bool false) rfl (by kernel_rfl) (by kernel_rfl) (by kernel_rfl) (fun _ _ _ h => h) (Or.inl ⟨by rfl, ?_⟩) hHeld ?_
  · intro u hu
    go_simp
  try simp only [Act.put, List.setIfInBounds_toArray, List.set_cons_zero, List.set_cons_succ]
  refine wpAnyH_take (i := 3) (oi := { dst := some 35, op := Op.load 26 (Operand.tmp 6), type := 26, pos := _, after := #[{ on := 2, ground := Ground.guard }], guard := some (2, false) }) (v := .agg x.cs.toArray) rfl (by kernel_rfl) (by kernel_rfl) (by kernel_rfl) (fun _ _ _ h => h)
    (yields_I (by rfl) (.tmp 6) rfl g6 (by rfl) x (fun u hu => x6.later hu)) hHeld ?_
  try simp only [Act.put, List.setIfInBounds_toArray, List.set_cons_zero, List.set_cons_succ]
  refine wpAnyH_take (i := 6) (oi := { dst := some 38, op := Op.load 26 (Operand.tmp 6), type := 26, pos := _, after := #[{ on := 2, ground := Ground.guard }], guard := some (2, false) }) (v := .agg x.cs.toArray) rfl (by kernel_rfl) (by kernel_rfl) (by kernel_rfl) (fun _ _ _ h => h)
    (yields_I (by rfl) (.tmp 6) rfl g6 (by rfl) x (fun u hu => x6.later hu)) hHeld ?_
  try simp only [Act.put, List.setIfInBounds_toArray, List.set_cons_zero, List.set_cons_succ]
  refine wpAnyH_ready (rs := [4]) (by kernel_rfl) (by simp) ?_
  refine (AllReadyH.cons (o := { dst := some 36, op := Op.call { callee := Callee.value (Operand.func 8), args := #[Operand.tmp 35], argTypes := #[26] }, type := 27, pos := _, after := #[{ on := 3, ground := Ground.data }, { on := 2, ground := Ground.chain }, { on := 2, ground := Ground.guard }], guard := some (2, false) }) rfl (fun K hK => ?_) AllReadyH.nil)
  go_simp
  refine (hput _).mono ?_
  rintro e v4 ⟨rfl, c4⟩
  try go_wp2_with fail
  refine hK.out _ _ (bnext hHeld c4 (Nat.le_refl _)) (fun hHeld => ?_)
  clear hK K
  try simp only [Act.put, List.setIfInBounds_toArray, List.set_cons_zero, List.set_cons_succ]
  refine wpAnyH_ready (rs := [5]) (by kernel_rfl) (by simp) ?_
  refine (AllReadyH.cons (o := { dst := some 37, op := Op.call { callee := Callee.value (Operand.func 13), args := #[Operand.tmp 36], argTypes := #[27] }, type := 26, pos := _, after := #[{ on := 4, ground := Ground.data }, { on := 4, ground := Ground.chain }, { on := 2, ground := Ground.guard }], guard := some (2, false) }) rfl (fun K hK => ?_) AllReadyH.nil)
  go_simp
  refine (hget _).mono ?_
  rintro e v5 ⟨rfl, c5⟩
  try go_wp2_with fail
  refine hK.out _ _ (bnext hHeld c5 (Nat.le_refl _)) (fun hHeld => ?_)
  clear hK K
  try simp only [Act.put, List.setIfInBounds_toArray, List.set_cons_zero, List.set_cons_succ]
  refine wpAnyH_take (i := 7) (oi := { dst := some 39, op := Op.binOp BinOp.neq 26 (Operand.tmp 37) (Operand.tmp 38) 26, type := 4, pos := _, after := #[{ on := 5, ground := Ground.data }, { on := 6, ground := Ground.data }, { on := 2, ground := Ground.guard }], guard := some (2, false) }) (v := .bool false) rfl (by kernel_rfl) (by kernel_rfl) (by kernel_rfl) (fun _ _ _ h => h) (Or.inl ⟨by rfl, ?_⟩) hHeld ?_
  · intro u hu
    go_simp
  try simp only [Act.put, List.setIfInBounds_toArray, List.set_cons_zero, List.set_cons_succ]
  refine wpAnyH_take (i := 8) (oi := { dst := some 40, op := Op.pick (Operand.tmp 34) (Operand.const (Value.bool true)) (Operand.tmp 39), type := 4, pos := _, after := #[{ on := 2, ground := Ground.data }, { on := 7, ground := Ground.data }], guard := none }) (v := .bool false) rfl (by kernel_rfl) (by kernel_rfl) (by kernel_rfl) (fun _ _ _ h => h) (Or.inl ⟨by rfl, ?_⟩) hHeld ?_
  · intro u hu
    go_simp
  try simp only [Act.put, List.setIfInBounds_toArray, List.set_cons_zero, List.set_cons_succ]
  refine wpAnyH_done (by kernel_rfl) ?_ _
  have p7 := p6.later hHeld
  have x7 := x6.later hHeld
  have q7 := q6.later hHeld
  have S7 := S6.next (Stp.of_below hHeld (fun _ => False)) (fun _ h => h.elim)
  clear p6 x6 q6 S6 hHeld hput hget
  go_wp2_with fail
  refine wp_loop_rounds 4 ?_
  rw [rounds_succ]
  have t1 : True := trivial
  go_wp2_with (first
    | (have _t := t1; refine at_getL (by rfl) _ (by rfl) g4 (by rfl) p p7 ?_; clear _t)
    | (have _t := t1; go_at_call 16; refine (hP0 _).mono ?_; rintro e u1 ⟨rfl, c1⟩; clear _t)
    | (have _t := t1; refine at_newI (by rfl) (by rfl) ?_; intro ga0 u2 m2 n2 k2 c2; clear _t)
    | (have _t := t1; refine at_putI (by rfl) _ _ (by rfl) ga0 (by rfl) Y0 (by rfl) Ino.zero k2 ?_; intro u3 k3 s3
       have p8' : Row u3 g4 p.l := ((p7.later c1).later c2).step s3 (by have := (p7.later c1).lt; omega)
       have x8' : Cs u3 g6 x.cs := ((x7.later c1).later c2).step s3 (by have := (x7.later c1).lt; omega)
       have q8' : Row u3 g10 q.l := ((q7.later c1).later c2).step s3 (by have := (q7.later c1).lt; omega)
       have S8' : Stp (fun y => w.heap.size ≤ y) w u3 := (S7.next (Stp.of_below (bnext c1 c2 (Nat.le_refl _)) (fun _ => False)) (fun _ h => h.elim)).next s3 (fun y hy => .inl (by subst hy; have := S7.size; have := c1.size; omega))
       clear _t t1 p7 x7 q7 S7 c1 c2 m2 n2 k2 s3)
    | (refine at_getL (by rfl) _ (by rfl) g10 (by rfl) q q8' ?_)
    | (go_at_call 16; refine (hQ0 _).mono ?_; rintro e u4 ⟨rfl, c4⟩)
    | (refine at_newI (by rfl) (by rfl) ?_; intro gb0 u5 m5 n5 k5 c5)
    | (refine at_putI (by rfl) _ _ (by rfl) gb0 (by rfl) x (by rfl) Ino.zero k5 ?_; intro w8 k6 s6
       have p8 : Row w8 g4 p.l := ((p8'.later c4).later c5).step s6 (by have := (p8'.later c4).lt; omega)
       have x8 : Cs w8 g6 x.cs := ((x8'.later c4).later c5).step s6 (by have := (x8'.later c4).lt; omega)
       have q8 : Row w8 g10 q.l := ((q8'.later c4).later c5).step s6 (by have := (q8'.later c4).lt; omega)
       have k8 : Cs w8 ga0 Y0.cs := ((k3.later c4).later c5).step s6 (by have := (k3.later c4).lt; omega)
       have S8 : Stp (fun y => w.heap.size ≤ y) w w8 := (S8'.next (Stp.of_below (bnext c4 c5 (Nat.le_refl _)) (fun _ => False)) (fun _ h => h.elim)).next s6 (fun y hy => .inl (by subst hy; have := S8'.size; have := c4.size; omega))
       clear p8' x8' q8' S8' c4 c5 m5 n5 k5 s6 k3)
    | (refine at_getI (by rfl) _ (by rfl) gb0 (by rfl) x k6 ?_)
    | (refine at_getI (by rfl) _ (by rfl) g6 (by rfl) x x8 ?_)
    | (refine at_getI (by rfl) _ (by rfl) ga0 (by rfl) Y0 k8 ?_))
  clear k6 k8
  rw [rounds_succ]
  have t1 : True := trivial
  go_wp2_with (first
    | (have _t := t1; refine at_getL (by rfl) _ (by rfl) g4 (by rfl) p p8 ?_; clear _t)
    | (have _t := t1; go_at_call 16; refine (hP1 _).mono ?_; rintro e u1 ⟨rfl, c1⟩; clear _t)
    | (have _t := t1; refine at_newI (by rfl) (by rfl) ?_; intro ga1 u2 m2 n2 k2 c2; clear _t)
    | (have _t := t1; refine at_putI (by rfl) _ _ (by rfl) ga1 (by rfl) Y1 (by rfl) Ino.zero k2 ?_; intro u3 k3 s3
       have p8' : Row u3 g4 p.l := ((p8.later c1).later c2).step s3 (by have := (p8.later c1).lt; omega)
       have x8' : Cs u3 g6 x.cs := ((x8.later c1).later c2).step s3 (by have := (x8.later c1).lt; omega)
       have q8' : Row u3 g10 q.l := ((q8.later c1).later c2).step s3 (by have := (q8.later c1).lt; omega)
       have S8' : Stp (fun y => w.heap.size ≤ y) w u3 := (S8.next (Stp.of_below (bnext c1 c2 (Nat.le_refl _)) (fun _ => False)) (fun _ h => h.elim)).next s3 (fun y hy => .inl (by subst hy; have := S8.size; have := c1.size; omega))
       clear _t t1 p8 x8 q8 S8 c1 c2 m2 n2 k2 s3)
    | (refine at_getL (by rfl) _ (by rfl) g10 (by rfl) q q8' ?_)
    | (go_at_call 16; refine (hQ1 _).mono ?_; rintro e u4 ⟨rfl, c4⟩)
    | (refine at_newI (by rfl) (by rfl) ?_; intro gb1 u5 m5 n5 k5 c5)
    | (refine at_putI (by rfl) _ _ (by rfl) gb1 (by rfl) Y1 (by rfl) Ino.zero k5 ?_; intro w9 k6 s6
       have p9 : Row w9 g4 p.l := ((p8'.later c4).later c5).step s6 (by have := (p8'.later c4).lt; omega)
       have x9 : Cs w9 g6 x.cs := ((x8'.later c4).later c5).step s6 (by have := (x8'.later c4).lt; omega)
       have q9 : Row w9 g10 q.l := ((q8'.later c4).later c5).step s6 (by have := (q8'.later c4).lt; omega)
       have k9 : Cs w9 ga1 Y1.cs := ((k3.later c4).later c5).step s6 (by have := (k3.later c4).lt; omega)
       have S9 : Stp (fun y => w.heap.size ≤ y) w w9 := (S8'.next (Stp.of_below (bnext c4 c5 (Nat.le_refl _)) (fun _ => False)) (fun _ h => h.elim)).next s6 (fun y hy => .inl (by subst hy; have := S8'.size; have := c4.size; omega))
       clear p8' x8' q8' S8' c4 c5 m5 n5 k5 s6 k3)
    | (refine at_getI (by rfl) _ (by rfl) gb1 (by rfl) Y1 k6 ?_)
    | (refine at_getI (by rfl) _ (by rfl) g6 (by rfl) x x9 ?_)
    | (refine at_getI (by rfl) _ (by rfl) ga1 (by rfl) Y1 k9 ?_))
  clear k6 k9
  rw [rounds_succ]
  have t1 : True := trivial
  go_wp2_with (first
    | (have _t := t1; refine at_getL (by rfl) _ (by rfl) g4 (by rfl) p p9 ?_; clear _t)
    | (have _t := t1; go_at_call 16; refine (hP2 _).mono ?_; rintro e u1 ⟨rfl, c1⟩; clear _t)
    | (have _t := t1; refine at_newI (by rfl) (by rfl) ?_; intro ga2 u2 m2 n2 k2 c2; clear _t)
    | (have _t := t1; refine at_putI (by rfl) _ _ (by rfl) ga2 (by rfl) Y2 (by rfl) Ino.zero k2 ?_; intro u3 k3 s3
       have p8' : Row u3 g4 p.l := ((p9.later c1).later c2).step s3 (by have := (p9.later c1).lt; omega)
       have x8' : Cs u3 g6 x.cs := ((x9.later c1).later c2).step s3 (by have := (x9.later c1).lt; omega)
       have q8' : Row u3 g10 q.l := ((q9.later c1).later c2).step s3 (by have := (q9.later c1).lt; omega)
       have S8' : Stp (fun y => w.heap.size ≤ y) w u3 := (S9.next (Stp.of_below (bnext c1 c2 (Nat.le_refl _)) (fun _ => False)) (fun _ h => h.elim)).next s3 (fun y hy => .inl (by subst hy; have := S9.size; have := c1.size; omega))
       clear _t t1 p9 x9 q9 S9 c1 c2 m2 n2 k2 s3)
    | (refine at_getL (by rfl) _ (by rfl) g10 (by rfl) q q8' ?_)
    | (go_at_call 16; refine (hQ2 _).mono ?_; rintro e u4 ⟨rfl, c4⟩)
    | (refine at_newI (by rfl) (by rfl) ?_; intro gb2 u5 m5 n5 k5 c5)
    | (refine at_putI (by rfl) _ _ (by rfl) gb2 (by rfl) Y2 (by rfl) Ino.zero k5 ?_; intro w10 k6 s6
       have p10 : Row w10 g4 p.l := ((p8'.later c4).later c5).step s6 (by have := (p8'.later c4).lt; omega)
       have x10 : Cs w10 g6 x.cs := ((x8'.later c4).later c5).step s6 (by have := (x8'.later c4).lt; omega)
       have q10 : Row w10 g10 q.l := ((q8'.later c4).later c5).step s6 (by have := (q8'.later c4).lt; omega)
       have k10 : Cs w10 ga2 Y2.cs := ((k3.later c4).later c5).step s6 (by have := (k3.later c4).lt; omega)
       have S10 : Stp (fun y => w.heap.size ≤ y) w w10 := (S8'.next (Stp.of_below (bnext c4 c5 (Nat.le_refl _)) (fun _ => False)) (fun _ h => h.elim)).next s6 (fun y hy => .inl (by subst hy; have := S8'.size; have := c4.size; omega))
       clear p8' x8' q8' S8' c4 c5 m5 n5 k5 s6 k3)
    | (refine at_getI (by rfl) _ (by rfl) gb2 (by rfl) Y2 k6 ?_)
    | (refine at_getI (by rfl) _ (by rfl) g6 (by rfl) x x10 ?_)
    | (refine at_getI (by rfl) _ (by rfl) ga2 (by rfl) Y2 k10 ?_))
  clear k6 k10
  rw [rounds_succ]
  have B10 := S10.below (Nat.le_refl _) (fun _ h => h)
  have T10 := hT.later B10
  go_wp2_with (go_at_call 20; refine (hO _ T10).mono ?_; rintro e V ⟨rfl, c⟩)
  have xV := x10.later c
  have qV := q10.later c
  have TV := T10.later c
  have BV := bnext B10 c (Nat.le_refl _)
  have kq : ∀ u, Below V.heap.size V u → Bs u (some ⟨g10, O, none⟩) M (54 - O) (ints P) := fun u hu => by
    have y := (qV.later hu).bs O M (54 - O) (by omega) (by omega) (by unfold maxLen; omega)
    rw [hPart.out] at y; exact y
  clear p10 x10 q10 S10 T10 B10 c hP0 hP1 hP2 hQ0 hQ1 hQ2 hex he0 he1 he2 hg hO
  refine wp_region_held_drew (S := fun u => Below V.heap.size V u) (by kernel_rfl) (Below.refl _ _).drew (fun hHeld => ?_)
  refine wpAnyH_take (i := 0) (oi := { dst := some 84, op := Op.move (Operand.tmp 19), type := 29, pos := _, after := #[], guard := none }) (v := .int .i64 0) rfl (by kernel_rfl) (by kernel_rfl) (by kernel_rfl) (fun _ _ _ h => h) (Or.inl ⟨by rfl, ?_⟩) hHeld ?_
  · intro u hu
    go_simp
  try simp only [Act.put, List.setIfInBounds_toArray, List.set_cons_zero, List.set_cons_succ]
  refine wpAnyH_take (i := 1) (oi := { dst := some 85, op := Op.binOp BinOp.eql 29 (Operand.tmp 84) (Operand.const (Value.int IntKind.i64 0)) 29, type := 4, pos := _, after := #[{ on := 0, ground := Ground.data }], guard := none }) (v := .bool true) rfl (by kernel_rfl) (by kernel_rfl) (by kernel_rfl) (fun _ _ _ h => h) (Or.inl ⟨by rfl, ?_⟩) hHeld ?_
  · intro u hu
    go_simp
  try simp only [Act.put, List.setIfInBounds_toArray, List.set_cons_zero, List.set_cons_succ]
  refine wpAnyH_take (i := 2) (oi := { dst := some 86, op := Op.move (Operand.tmp 85), type := 4, pos := _, after := #[{ on := 1, ground := Ground.data }], guard := none }) (v := .bool true) rfl (by kernel_rfl) (by kernel_rfl) (by kernel_rfl) (fun _ _ _ h => h) (Or.inl ⟨by rfl, ?_⟩) hHeld ?_
  · intro u hu
    go_simp
  try simp only [Act.put, List.setIfInBounds_toArray, List.set_cons_zero, List.set_cons_succ]
  refine wpAnyH_take (i := 3) (oi := { dst := some 87, op := Op.move (Operand.tmp 17), type := 3, pos := _, after := #[{ on := 2, ground := Ground.guard }], guard := some (2, true) }) (v := .int .i64 (O : Int)) rfl (by kernel_rfl) (by kernel_rfl) (by kernel_rfl) (fun _ _ _ h => h) (Or.inl ⟨by rfl, ?_⟩) hHeld ?_
  · intro u hu
    go_simp
  try simp only [Act.put, List.setIfInBounds_toArray, List.set_cons_zero, List.set_cons_succ]
  refine wpAnyH_take (i := 4) (oi := { dst := some 88, op := Op.move (Operand.tmp 17), type := 3, pos := _, after := #[{ on := 2, ground := Ground.guard }], guard := some (2, true) }) (v := .int .i64 (O : Int)) rfl (by kernel_rfl) (by kernel_rfl) (by kernel_rfl) (fun _ _ _ h => h) (Or.inl ⟨by rfl, ?_⟩) hHeld ?_
  · intro u hu
    go_simp
  try simp only [Act.put, List.setIfInBounds_toArray, List.set_cons_zero, List.set_cons_succ]
  refine wpAnyH_take (i := 5) (oi := { dst := some 89, op := Op.move (Operand.tmp 18), type := 3, pos := _, after := #[{ on := 2, ground := Ground.guard }], guard := some (2, true) }) (v := .int .i64 (M : Int)) rfl (by kernel_rfl) (by kernel_rfl) (by kernel_rfl) (fun _ _ _ h => h) (Or.inl ⟨by rfl, ?_⟩) hHeld ?_
  · intro u hu
    go_simp
  try simp only [Act.put, List.setIfInBounds_toArray, List.set_cons_zero, List.set_cons_succ]
  refine wpAnyH_take (i := 6) (oi := { dst := some 90, op := Op.binOp BinOp.add 3 (Operand.tmp 88) (Operand.tmp 89) 3, type := 3, pos := _, after := #[{ on := 4, ground := Ground.data }, { on := 5, ground := Ground.data }, { on := 2, ground := Ground.guard }], guard := some (2, true) }) (v := .int .i64 ((O : Int) + (M : Int))) rfl (by kernel_rfl) (by kernel_rfl) (by kernel_rfl) (fun _ _ _ h => h) (Or.inl ⟨by rfl, ?_⟩) hHeld ?_
  · intro u hu
    (go_simp; rw [IntKind.wrap_i64]; omega)
  try simp only [Act.put, List.setIfInBounds_toArray, List.set_cons_zero, List.set_cons_succ]
  refine wpAnyH_take (i := 7) (oi := { dst := some 91, op := Op.slice 39 (Operand.tmp 10) (some (Operand.tmp 87)) (some (Operand.tmp 90)) none, type := 32, pos := _, after := #[{ on := 3, ground := Ground.data }, { on := 6, ground := Ground.data }, { on := 2, ground := Ground.guard }], guard := some (2, true) }) (v := .slice (some ⟨g10, O, none⟩) M (54 - O)) rfl (by kernel_rfl) (by kernel_rfl) (by kernel_rfl) (fun _ _ _ h => h) (Or.inl ⟨by rfl, ?_⟩) hHeld ?_
  · intro u hu
    go_simp
  try simp only [Act.put, List.setIfInBounds_toArray, List.set_cons_zero, List.set_cons_succ]
  refine wpAnyH_take (i := 8) (oi := { dst := some 92, op := Op.load 26 (Operand.tmp 6), type := 26, pos := _, after := #[{ on := 2, ground := Ground.guard }], guard := some (2, true) }) (v := .agg x.cs.toArray) rfl (by kernel_rfl) (by kernel_rfl) (by kernel_rfl) (fun _ _ _ h => h)
    (yields_I (by rfl) (.tmp 6) rfl g6 (by rfl) x (fun u hu => xV.later hu)) hHeld ?_
  try simp only [Act.put, List.setIfInBounds_toArray, List.set_cons_zero, List.set_cons_succ]
  refine wpAnyH_take (i := 9) (oi := { dst := some 93, op := Op.move (Operand.tmp 3), type := 5, pos := _, after := #[{ on := 2, ground := Ground.guard }], guard := some (2, true) }) (v := .int .u8 f) rfl (by kernel_rfl) (by kernel_rfl) (by kernel_rfl) (fun _ _ _ h => h) (Or.inl ⟨by rfl, ?_⟩) hHeld ?_
  · intro u hu
    go_simp
  try simp only [Act.put, List.setIfInBounds_toArray, List.set_cons_zero, List.set_cons_succ]
  refine wpAnyH_take (i := 10) (oi := { dst := some 94, op := Op.binOp BinOp.rem 5 (Operand.tmp 93) (Operand.const (Value.int IntKind.u8 10)) 5, type := 5, pos := _, after := #[{ on := 9, ground := Ground.data }, { on := 2, ground := Ground.guard }], guard := some (2, true) }) (v := .int .u8 (F : Int)) rfl (by kernel_rfl) (by kernel_rfl) (by kernel_rfl) (fun _ _ _ h => h) (Or.inl ⟨by rfl, ?_⟩) hHeld ?_
  · intro u hu
    go_simp
  try simp only [Act.put, List.setIfInBounds_toArray, List.set_cons_zero, List.set_cons_succ]
  refine wpAnyH_take (i := 11) (oi := { dst := some 95, op := Op.convert 5 46 (Operand.tmp 94), type := 46, pos := _, after := #[{ on := 10, ground := Ground.data }, { on := 2, ground := Ground.guard }], guard := some (2, true) }) (v := .int .i64 (F : Int)) rfl (by kernel_rfl) (by kernel_rfl) (by kernel_rfl) (fun _ _ _ h => h) (Or.inl ⟨by rfl, ?_⟩) hHeld ?_
  · intro u hu
    (go_simp; rw [IntKind.wrap_i64]; omega)
  try simp only [Act.put, List.setIfInBounds_toArray, List.set_cons_zero, List.set_cons_succ]
  refine wpAnyH_ready (rs := [12]) (by kernel_rfl) (by simp) ?_
  refine (AllReadyH.cons (o := { dst := some 96, op := Op.call { callee := Callee.value (Operand.func 22), args := #[Operand.tmp 92, Operand.tmp 95], argTypes := #[26, 46] }, type := 32, pos := _, after := #[{ on := 8, ground := Ground.data }, { on := 11, ground := Ground.data }, { on := 2, ground := Ground.chain }, { on := 2, ground := Ground.guard }], guard := some (2, true) }) rfl (fun K hK => ?_) AllReadyH.nil)
  go_simp
  refine (hZ _ hF (TV.later hHeld)).mono ?_
  rintro e v12 ⟨g12, rfl, r12, c12⟩
  try go_wp2_with fail
  refine hK.out _ _ (bnext hHeld c12 (Nat.le_refl _)) (fun hHeld => ?_)
  clear hK K
  try simp only [Act.put, List.setIfInBounds_toArray, List.set_cons_zero, List.set_cons_succ]
  refine wpAnyH_ready (rs := [13]) (by kernel_rfl) (by simp) ?_
  refine (AllReadyH.cons (o := { dst := some 97, op := Op.call { callee := Callee.value (Operand.func 11), args := #[Operand.tmp 91, Operand.tmp 96], argTypes := #[32, 32] }, type := 4, pos := _, after := #[{ on := 7, ground := Ground.data }, { on := 12, ground := Ground.data }, { on := 12, ground := Ground.chain }, { on := 2, ground := Ground.guard }], guard := some (2, true) }) rfl (fun K hK => ?_) AllReadyH.nil)
  go_simp
  refine (sameBytes_yes _ _ M _ M M _ _ (kq _ hHeld) (by have y := r12.bs0 M M (by omega) (Nat.le_refl _) (by unfold maxLen; omega); rwa [List.take_of_length_le (by omega)] at y)).mono ?_
  rintro e v13 ⟨rfl, rfl⟩
  try go_wp2_with fail
  refine hK.out _ _ (hHeld) (fun hHeld => ?_)
  clear hK K
  try simp only [Act.put, List.setIfInBounds_toArray, List.set_cons_zero, List.set_cons_succ]
  refine wpAnyH_take (i := 14) (oi := { dst := some 98, op := Op.pick (Operand.tmp 86) (Operand.tmp 97) (Operand.const (Value.bool false)), type := 4, pos := _, after := #[{ on := 2, ground := Ground.data }, { on := 13, ground := Ground.data }], guard := none }) (v := .bool true) rfl (by kernel_rfl) (by kernel_rfl) (by kernel_rfl) (fun _ _ _ h => h) (Or.inl ⟨by rfl, ?_⟩) hHeld ?_
  · intro u hu
    go_simp
  try simp only [Act.put, List.setIfInBounds_toArray, List.set_cons_zero, List.set_cons_succ]
  refine wpAnyH_take (i := 15) (oi := { dst := some 8, op := Op.assign (Operand.tmp 98), type := 4, pos := _, after := #[{ on := 14, ground := Ground.data }, { on := 13, ground := Ground.chain }, { on := 0, ground := Ground.phase }, { on := 1, ground := Ground.phase }, { on := 2, ground := Ground.phase }, { on := 3, ground := Ground.phase }, { on := 4, ground := Ground.phase }, { on := 5, ground := Ground.phase }, { on := 6, ground := Ground.phase }, { on := 7, ground := Ground.phase }, { on := 8, ground := Ground.phase }, { on := 9, ground := Ground.phase }, { on := 10, ground := Ground.phase }, { on := 11, ground := Ground.phase }, { on := 12, ground := Ground.phase }, { on := 13, ground := Ground.phase }, { on := 14, ground := Ground.phase }], guard := none }) (v := .bool true) rfl (by kernel_rfl) (by kernel_rfl) (by kernel_rfl) (fun _ _ _ h => h) (Or.inl ⟨by rfl, ?_⟩) hHeld ?_
  · intro u hu
    go_simp
  try simp only [Act.put, List.setIfInBounds_toArray, List.set_cons_zero, List.set_cons_succ]
  refine wpAnyH_done (by kernel_rfl) ?_ _
  go_wp2_with fail
  go_returns
  exact ⟨rfl, bnext BV hHeld (Nat.le_refl _)⟩
set_option maxRecDepth 100000 in
set_option maxHeartbeats 8000000 in
theorem walk_1 (p : Ld) (s : Int) (x : Ino) (f : Int) (F : Nat) (w : World) (hs0 : 0 ≤ s) (hs1 : s ≤ 255) (hf0 : 0 ≤ f) (hf1 : f ≤ 255) (hm : s % 3 = 1) (hn : f % 10 = (F : Int)) (hF : F ≤ 9) (hT : Tb w) :
    Calls Tryd.prog 5 #[.agg p.cs.toArray, .int .u8 s, .agg x.cs.toArray, .int .u8 f] w fun e w' => e = .returned (.bool true) ∧ Below w.heap.size w w' := by
  have hm' : s.tmod 3 = 1 := by rw [Int.tmod_eq_emod_of_nonneg hs0]; exact hm
  have hn' : f.tmod 10 = (F : Int) := by rw [Int.tmod_eq_emod_of_nonneg hf0]; exact hn
  have hp := p.len
  have hW := iwith_1 p x
  have hq := (puts p 1 x).len
  have hQ0 := iat_0 (puts p 1 x)
  have hQ1 := iat_1 (puts p 1 x)
  have hQ2 := iat_2 (puts p 1 x)
  rw [slot_puts p 1 x (by omega), gI_iL] at hQ1
  rw [slot_other p 1 0 x (by omega) (by omega) (by omega)] at hQ0
  rw [slot_other p 1 2 x (by omega) (by omega) (by omega)] at hQ2
  have hP0 := iat_0 p
  have hP1 := iat_1 p
  have hP2 := iat_2 p
  have hO := fun w => offset_ok 1 F w (by omega) hF
  have hle := f_le F hF
  have hZ := fields_ok x F
  have hPart : Hid (((puts p 1 x).l.drop (18 * 1 + fAt F)).take (fSz F) = fPart x F) := part_puts p 1 x F (by omega) hF
  have hpl := fPart_len x F hF
  have hput := iput_any x
  have hget := fun w => iget_any (iL x) w (iL_len x)
  rw [gI_iL] at hget
  have hex := eqI x x
  rw [same_self] at hex
  have hg := guardI
  have he0 := eqI (gI (slot p 0)) (gI (slot p 0))
  rw [same_self] at he0
  have he1 := eqI (gI (slot p 1)) (gI (slot p 1))
  rw [same_self] at he1
  have he2 := eqI (gI (slot p 2)) (gI (slot p 2))
  rw [same_self] at he2
  generalize puts p 1 x = q at *
  generalize gI (slot p 0) = Y0 at *
  generalize gI (slot p 1) = Y1 at *
  generalize gI (slot p 2) = Y2 at *
  have hO1 : 18 * 1 + fAt F + fSz F ≤ 54 := by omega
  have hO2 : 18 * 1 + fAt F < 54 := by omega
  generalize fPart x F = P at *
  generalize 18 * 1 + fAt F = O at *
  generalize fSz F = M at *
  generalize iL x = D at *
  have hsub := fun w g => run_subA arrL w g O M hO1 hO2 ((O : Int) + (M : Int)) rfl
  go_enter Tryd.func5, Tryd.ntmps5
  go_wp2_with (first
    | (refine at_box 39 54 arrL (by rfl) _ (by rfl) p.l (by rfl) hp ?_; intro g4 w1 a1 z1 r1 b1)
    | (refine at_boxI (by rfl) _ (by rfl) x (by rfl) ?_; intro g6 w2 a2 z2 x2 b2; have p2 := r1.later b2; have B2 := bnext b1 b2 (Nat.le_refl _))
    | (go_at_call 15; refine (works10_any _ (hT.later B2)).mono ?_; rintro e w3 ⟨rfl, b3⟩; have p3 := p2.later b3; have x3 := x2.later b3)
    | (refine at_getL (by rfl) _ (by rfl) g4 (by rfl) p p3 ?_)
    | (refine at_getI (by rfl) _ (by rfl) g6 (by rfl) x x3 ?_)
    | (go_at_call 18; refine (hW _).mono ?_; rintro e w4 ⟨rfl, b4⟩)
    | (refine at_new 39 54 arrL (by rfl) (by rfl) ?_; intro g10 w5 a5 z5 r5 b5)
    | (refine at_put 39 54 arrL (by rfl) _ _ (by rfl) g10 (by rfl) q.l (by rfl) hq _ r5 (by simp) ?_; intro W q6 s6))
  have p6 : Row W g4 p.l := ((p3.later b4).later b5).step s6 (by have := (p3.later b4).lt; omega)
  have x6 : Cs W g6 x.cs := ((x3.later b4).later b5).step s6 (by have := (x3.later b4).lt; omega)
  have S6 : Stp (fun y => w.heap.size ≤ y) w W := (Stp.of_below (bnext (bnext (bnext B2 b3 (Nat.le_refl _)) b4 (Nat.le_refl _)) b5 (Nat.le_refl _)) _).next s6 (fun y hy => .inl (by subst hy; have := B2.size; have := b3.size; have := b4.size; omega))
  clear r1 b1 b2 a1 z1 a2 z2 p2 x2 B2 b3 b4 b5 a5 z5 r5 s6 p3 x3 hW
  refine wp_region_held_drew (S := fun u => Below W.heap.size W u) (by kernel_rfl) (Below.refl _ _).drew (fun hHeld => ?_)
  refine wpAnyH_take (i := 0) (oi := { dst := some 32, op := Op.move (Operand.tmp 11), type := 29, pos := _, after := #[], guard := none }) (v := .int .i64 0) rfl (by kernel_rfl) (by kernel_rfl) (by kernel_rfl) (fun _ _ _ h => h) (Or.inl ⟨by rfl, ?_⟩) hHeld ?_
  · intro u hu
    go_simp
  try simp only [Act.put, List.setIfInBounds_toArray, List.set_cons_zero, List.set_cons_succ]
  refine wpAnyH_take (i := 1) (oi := { dst := some 33, op := Op.binOp BinOp.neq 29 (Operand.tmp 32) (Operand.const (Value.int IntKind.i64 0)) 29, type := 4, pos := _, after := #[{ on := 0, ground := Ground.data }], guard := none }) (v := .bool false) rfl (by kernel_rfl) (by kernel_rfl) (by kernel_rfl) (fun _ _ _ h => h) (Or.inl ⟨by rfl, ?_⟩) hHeld ?_
  · intro u hu
    go_simp
  try simp only [Act.put, List.setIfInBounds_toArray, List.set_cons_zero, List.set_cons_succ]
  refine wpAnyH_take (i := 2) (oi := { dst := some 34, op := Op.move (Operand.tmp 33), type := 4, pos := _, after := #[{ on := 1, ground := Ground.data }], guard := none }) (v := .bool false) rfl (by kernel_rfl) (by kernel_rfl) (by kernel_rfl) (fun _ _ _ h => h) (Or.inl ⟨by rfl, ?_⟩) hHeld ?_
  · intro u hu
    go_simp
  try simp only [Act.put, List.setIfInBounds_toArray, List.set_cons_zero, List.set_cons_succ]
  refine wpAnyH_take (i := 3) (oi := { dst := some 35, op := Op.load 26 (Operand.tmp 6), type := 26, pos := _, after := #[{ on := 2, ground := Ground.guard }], guard := some (2, false) }) (v := .agg x.cs.toArray) rfl (by kernel_rfl) (by kernel_rfl) (by kernel_rfl) (fun _ _ _ h => h)
    (yields_I (by rfl) (.tmp 6) rfl g6 (by rfl) x (fun u hu => x6.later hu)) hHeld ?_
  try simp only [Act.put, List.setIfInBounds_toArray, List.set_cons_zero, List.set_cons_succ]
  refine wpAnyH_take (i := 6) (oi := { dst := some 38, op := Op.load 26 (Operand.tmp 6), type := 26, pos := _, after := #[{ on := 2, ground := Ground.guard }], guard := some (2, false) }) (v := .agg x.cs.toArray) rfl (by kernel_rfl) (by kernel_rfl) (by kernel_rfl) (fun _ _ _ h => h)
    (yields_I (by rfl) (.tmp 6) rfl g6 (by rfl) x (fun u hu => x6.later hu)) hHeld ?_
  try simp only [Act.put, List.setIfInBounds_toArray, List.set_cons_zero, List.set_cons_succ]
  refine wpAnyH_ready (rs := [4]) (by kernel_rfl) (by simp) ?_
  refine (AllReadyH.cons (o := { dst := some 36, op := Op.call { callee := Callee.value (Operand.func 8), args := #[Operand.tmp 35], argTypes := #[26] }, type := 27, pos := _, after := #[{ on := 3, ground := Ground.data }, { on := 2, ground := Ground.chain }, { on := 2, ground := Ground.guard }], guard := some (2, false) }) rfl (fun K hK => ?_) AllReadyH.nil)
  go_simp
  refine (hput _).mono ?_
  rintro e v4 ⟨rfl, c4⟩
  try go_wp2_with fail
  refine hK.out _ _ (bnext hHeld c4 (Nat.le_refl _)) (fun hHeld => ?_)
  clear hK K
  try simp only [Act.put, List.setIfInBounds_toArray, List.set_cons_zero, List.set_cons_succ]
  refine wpAnyH_ready (rs := [5]) (by kernel_rfl) (by simp) ?_
  refine (AllReadyH.cons (o := { dst := some 37, op := Op.call { callee := Callee.value (Operand.func 13), args := #[Operand.tmp 36], argTypes := #[27] }, type := 26, pos := _, after := #[{ on := 4, ground := Ground.data }, { on := 4, ground := Ground.chain }, { on := 2, ground := Ground.guard }], guard := some (2, false) }) rfl (fun K hK => ?_) AllReadyH.nil)
  go_simp
  refine (hget _).mono ?_
  rintro e v5 ⟨rfl, c5⟩
  try go_wp2_with fail
  refine hK.out _ _ (bnext hHeld c5 (Nat.le_refl _)) (fun hHeld => ?_)
  clear hK K
  try simp only [Act.put, List.setIfInBounds_toArray, List.set_cons_zero, List.set_cons_succ]
  refine wpAnyH_take (i := 7) (oi := { dst := some 39, op := Op.binOp BinOp.neq 26 (Operand.tmp 37) (Operand.tmp 38) 26, type := 4, pos := _, after := #[{ on := 5, ground := Ground.data }, { on := 6, ground := Ground.data }, { on := 2, ground := Ground.guard }], guard := some (2, false) }) (v := .bool false) rfl (by kernel_rfl) (by kernel_rfl) (by kernel_rfl) (fun _ _ _ h => h) (Or.inl ⟨by rfl, ?_⟩) hHeld ?_
  · intro u hu
    go_simp
  try simp only [Act.put, List.setIfInBounds_toArray, List.set_cons_zero, List.set_cons_succ]
  refine wpAnyH_take (i := 8) (oi := { dst := some 40, op := Op.pick (Operand.tmp 34) (Operand.const (Value.bool true)) (Operand.tmp 39), type := 4, pos := _, after := #[{ on := 2, ground := Ground.data }, { on := 7, ground := Ground.data }], guard := none }) (v := .bool false) rfl (by kernel_rfl) (by kernel_rfl) (by kernel_rfl) (fun _ _ _ h => h) (Or.inl ⟨by rfl, ?_⟩) hHeld ?_
  · intro u hu
    go_simp
  try simp only [Act.put, List.setIfInBounds_toArray, List.set_cons_zero, List.set_cons_succ]
  refine wpAnyH_done (by kernel_rfl) ?_ _
  have p7 := p6.later hHeld
  have x7 := x6.later hHeld
  have q7 := q6.later hHeld
  have S7 := S6.next (Stp.of_below hHeld (fun _ => False)) (fun _ h => h.elim)
  clear p6 x6 q6 S6 hHeld hput hget
  go_wp2_with fail
  refine wp_loop_rounds 4 ?_
  rw [rounds_succ]
  have t1 : True := trivial
  go_wp2_with (first
    | (have _t := t1; refine at_getL (by rfl) _ (by rfl) g4 (by rfl) p p7 ?_; clear _t)
    | (have _t := t1; go_at_call 16; refine (hP0 _).mono ?_; rintro e u1 ⟨rfl, c1⟩; clear _t)
    | (have _t := t1; refine at_newI (by rfl) (by rfl) ?_; intro ga0 u2 m2 n2 k2 c2; clear _t)
    | (have _t := t1; refine at_putI (by rfl) _ _ (by rfl) ga0 (by rfl) Y0 (by rfl) Ino.zero k2 ?_; intro u3 k3 s3
       have p8' : Row u3 g4 p.l := ((p7.later c1).later c2).step s3 (by have := (p7.later c1).lt; omega)
       have x8' : Cs u3 g6 x.cs := ((x7.later c1).later c2).step s3 (by have := (x7.later c1).lt; omega)
       have q8' : Row u3 g10 q.l := ((q7.later c1).later c2).step s3 (by have := (q7.later c1).lt; omega)
       have S8' : Stp (fun y => w.heap.size ≤ y) w u3 := (S7.next (Stp.of_below (bnext c1 c2 (Nat.le_refl _)) (fun _ => False)) (fun _ h => h.elim)).next s3 (fun y hy => .inl (by subst hy; have := S7.size; have := c1.size; omega))
       clear _t t1 p7 x7 q7 S7 c1 c2 m2 n2 k2 s3)
    | (refine at_getL (by rfl) _ (by rfl) g10 (by rfl) q q8' ?_)
    | (go_at_call 16; refine (hQ0 _).mono ?_; rintro e u4 ⟨rfl, c4⟩)
    | (refine at_newI (by rfl) (by rfl) ?_; intro gb0 u5 m5 n5 k5 c5)
    | (refine at_putI (by rfl) _ _ (by rfl) gb0 (by rfl) Y0 (by rfl) Ino.zero k5 ?_; intro w8 k6 s6
       have p8 : Row w8 g4 p.l := ((p8'.later c4).later c5).step s6 (by have := (p8'.later c4).lt; omega)
       have x8 : Cs w8 g6 x.cs := ((x8'.later c4).later c5).step s6 (by have := (x8'.later c4).lt; omega)
       have q8 : Row w8 g10 q.l := ((q8'.later c4).later c5).step s6 (by have := (q8'.later c4).lt; omega)
       have k8 : Cs w8 ga0 Y0.cs := ((k3.later c4).later c5).step s6 (by have := (k3.later c4).lt; omega)
       have S8 : Stp (fun y => w.heap.size ≤ y) w w8 := (S8'.next (Stp.of_below (bnext c4 c5 (Nat.le_refl _)) (fun _ => False)) (fun _ h => h.elim)).next s6 (fun y hy => .inl (by subst hy; have := S8'.size; have := c4.size; omega))
       clear p8' x8' q8' S8' c4 c5 m5 n5 k5 s6 k3)
    | (refine at_getI (by rfl) _ (by rfl) gb0 (by rfl) Y0 k6 ?_)
    | (refine at_getI (by rfl) _ (by rfl) g6 (by rfl) x x8 ?_)
    | (refine at_getI (by rfl) _ (by rfl) ga0 (by rfl) Y0 k8 ?_))
  clear k6 k8
  rw [rounds_succ]
  have t1 : True := trivial
  go_wp2_with (first
    | (have _t := t1; refine at_getL (by rfl) _ (by rfl) g4 (by rfl) p p8 ?_; clear _t)
    | (have _t := t1; go_at_call 16; refine (hP1 _).mono ?_; rintro e u1 ⟨rfl, c1⟩; clear _t)
    | (have _t := t1; refine at_newI (by rfl) (by rfl) ?_; intro ga1 u2 m2 n2 k2 c2; clear _t)
    | (have _t := t1; refine at_putI (by rfl) _ _ (by rfl) ga1 (by rfl) Y1 (by rfl) Ino.zero k2 ?_; intro u3 k3 s3
       have p8' : Row u3 g4 p.l := ((p8.later c1).later c2).step s3 (by have := (p8.later c1).lt; omega)
       have x8' : Cs u3 g6 x.cs := ((x8.later c1).later c2).step s3 (by have := (x8.later c1).lt; omega)
       have q8' : Row u3 g10 q.l := ((q8.later c1).later c2).step s3 (by have := (q8.later c1).lt; omega)
       have S8' : Stp (fun y => w.heap.size ≤ y) w u3 := (S8.next (Stp.of_below (bnext c1 c2 (Nat.le_refl _)) (fun _ => False)) (fun _ h => h.elim)).next s3 (fun y hy => .inl (by subst hy; have := S8.size; have := c1.size; omega))
       clear _t t1 p8 x8 q8 S8 c1 c2 m2 n2 k2 s3)
    | (refine at_getL (by rfl) _ (by rfl) g10 (by rfl) q q8' ?_)
    | (go_at_call 16; refine (hQ1 _).mono ?_; rintro e u4 ⟨rfl, c4⟩)
    | (refine at_newI (by rfl) (by rfl) ?_; intro gb1 u5 m5 n5 k5 c5)
    | (refine at_putI (by rfl) _ _ (by rfl) gb1 (by rfl) x (by rfl) Ino.zero k5 ?_; intro w9 k6 s6
       have p9 : Row w9 g4 p.l := ((p8'.later c4).later c5).step s6 (by have := (p8'.later c4).lt; omega)
       have x9 : Cs w9 g6 x.cs := ((x8'.later c4).later c5).step s6 (by have := (x8'.later c4).lt; omega)
       have q9 : Row w9 g10 q.l := ((q8'.later c4).later c5).step s6 (by have := (q8'.later c4).lt; omega)
       have k9 : Cs w9 ga1 Y1.cs := ((k3.later c4).later c5).step s6 (by have := (k3.later c4).lt; omega)
       have S9 : Stp (fun y => w.heap.size ≤ y) w w9 := (S8'.next (Stp.of_below (bnext c4 c5 (Nat.le_refl _)) (fun _ => False)) (fun _ h => h.elim)).next s6 (fun y hy => .inl (by subst hy; have := S8'.size; have := c4.size; omega))
       clear p8' x8' q8' S8' c4 c5 m5 n5 k5 s6 k3)
    | (refine at_getI (by rfl) _ (by rfl) gb1 (by rfl) x k6 ?_)
    | (refine at_getI (by rfl) _ (by rfl) g6 (by rfl) x x9 ?_)
    | (refine at_getI (by rfl) _ (by rfl) ga1 (by rfl) Y1 k9 ?_))
  clear k6 k9
  rw [rounds_succ]
  have t1 : True := trivial
  go_wp2_with (first
    | (have _t := t1; refine at_getL (by rfl) _ (by rfl) g4 (by rfl) p p9 ?_; clear _t)
    | (have _t := t1; go_at_call 16; refine (hP2 _).mono ?_; rintro e u1 ⟨rfl, c1⟩; clear _t)
    | (have _t := t1; refine at_newI (by rfl) (by rfl) ?_; intro ga2 u2 m2 n2 k2 c2; clear _t)
    | (have _t := t1; refine at_putI (by rfl) _ _ (by rfl) ga2 (by rfl) Y2 (by rfl) Ino.zero k2 ?_; intro u3 k3 s3
       have p8' : Row u3 g4 p.l := ((p9.later c1).later c2).step s3 (by have := (p9.later c1).lt; omega)
       have x8' : Cs u3 g6 x.cs := ((x9.later c1).later c2).step s3 (by have := (x9.later c1).lt; omega)
       have q8' : Row u3 g10 q.l := ((q9.later c1).later c2).step s3 (by have := (q9.later c1).lt; omega)
       have S8' : Stp (fun y => w.heap.size ≤ y) w u3 := (S9.next (Stp.of_below (bnext c1 c2 (Nat.le_refl _)) (fun _ => False)) (fun _ h => h.elim)).next s3 (fun y hy => .inl (by subst hy; have := S9.size; have := c1.size; omega))
       clear _t t1 p9 x9 q9 S9 c1 c2 m2 n2 k2 s3)
    | (refine at_getL (by rfl) _ (by rfl) g10 (by rfl) q q8' ?_)
    | (go_at_call 16; refine (hQ2 _).mono ?_; rintro e u4 ⟨rfl, c4⟩)
    | (refine at_newI (by rfl) (by rfl) ?_; intro gb2 u5 m5 n5 k5 c5)
    | (refine at_putI (by rfl) _ _ (by rfl) gb2 (by rfl) Y2 (by rfl) Ino.zero k5 ?_; intro w10 k6 s6
       have p10 : Row w10 g4 p.l := ((p8'.later c4).later c5).step s6 (by have := (p8'.later c4).lt; omega)
       have x10 : Cs w10 g6 x.cs := ((x8'.later c4).later c5).step s6 (by have := (x8'.later c4).lt; omega)
       have q10 : Row w10 g10 q.l := ((q8'.later c4).later c5).step s6 (by have := (q8'.later c4).lt; omega)
       have k10 : Cs w10 ga2 Y2.cs := ((k3.later c4).later c5).step s6 (by have := (k3.later c4).lt; omega)
       have S10 : Stp (fun y => w.heap.size ≤ y) w w10 := (S8'.next (Stp.of_below (bnext c4 c5 (Nat.le_refl _)) (fun _ => False)) (fun _ h => h.elim)).next s6 (fun y hy => .inl (by subst hy; have := S8'.size; have := c4.size; omega))
       clear p8' x8' q8' S8' c4 c5 m5 n5 k5 s6 k3)
    | (refine at_getI (by rfl) _ (by rfl) gb2 (by rfl) Y2 k6 ?_)
    | (refine at_getI (by rfl) _ (by rfl) g6 (by rfl) x x10 ?_)
    | (refine at_getI (by rfl) _ (by rfl) ga2 (by rfl) Y2 k10 ?_))
  clear k6 k10
  rw [rounds_succ]
  have B10 := S10.below (Nat.le_refl _) (fun _ h => h)
  have T10 := hT.later B10
  go_wp2_with (go_at_call 20; refine (hO _ T10).mono ?_; rintro e V ⟨rfl, c⟩)
  have xV := x10.later c
  have qV := q10.later c
  have TV := T10.later c
  have BV := bnext B10 c (Nat.le_refl _)
  have kq : ∀ u, Below V.heap.size V u → Bs u (some ⟨g10, O, none⟩) M (54 - O) (ints P) := fun u hu => by
    have y := (qV.later hu).bs O M (54 - O) (by omega) (by omega) (by unfold maxLen; omega)
    rw [hPart.out] at y; exact y
  clear p10 x10 q10 S10 T10 B10 c hP0 hP1 hP2 hQ0 hQ1 hQ2 hex he0 he1 he2 hg hO
  refine wp_region_held_drew (S := fun u => Below V.heap.size V u) (by kernel_rfl) (Below.refl _ _).drew (fun hHeld => ?_)
  refine wpAnyH_take (i := 0) (oi := { dst := some 84, op := Op.move (Operand.tmp 19), type := 29, pos := _, after := #[], guard := none }) (v := .int .i64 0) rfl (by kernel_rfl) (by kernel_rfl) (by kernel_rfl) (fun _ _ _ h => h) (Or.inl ⟨by rfl, ?_⟩) hHeld ?_
  · intro u hu
    go_simp
  try simp only [Act.put, List.setIfInBounds_toArray, List.set_cons_zero, List.set_cons_succ]
  refine wpAnyH_take (i := 1) (oi := { dst := some 85, op := Op.binOp BinOp.eql 29 (Operand.tmp 84) (Operand.const (Value.int IntKind.i64 0)) 29, type := 4, pos := _, after := #[{ on := 0, ground := Ground.data }], guard := none }) (v := .bool true) rfl (by kernel_rfl) (by kernel_rfl) (by kernel_rfl) (fun _ _ _ h => h) (Or.inl ⟨by rfl, ?_⟩) hHeld ?_
  · intro u hu
    go_simp
  try simp only [Act.put, List.setIfInBounds_toArray, List.set_cons_zero, List.set_cons_succ]
  refine wpAnyH_take (i := 2) (oi := { dst := some 86, op := Op.move (Operand.tmp 85), type := 4, pos := _, after := #[{ on := 1, ground := Ground.data }], guard := none }) (v := .bool true) rfl (by kernel_rfl) (by kernel_rfl) (by kernel_rfl) (fun _ _ _ h => h) (Or.inl ⟨by rfl, ?_⟩) hHeld ?_
  · intro u hu
    go_simp
  try simp only [Act.put, List.setIfInBounds_toArray, List.set_cons_zero, List.set_cons_succ]
  refine wpAnyH_take (i := 3) (oi := { dst := some 87, op := Op.move (Operand.tmp 17), type := 3, pos := _, after := #[{ on := 2, ground := Ground.guard }], guard := some (2, true) }) (v := .int .i64 (O : Int)) rfl (by kernel_rfl) (by kernel_rfl) (by kernel_rfl) (fun _ _ _ h => h) (Or.inl ⟨by rfl, ?_⟩) hHeld ?_
  · intro u hu
    go_simp
  try simp only [Act.put, List.setIfInBounds_toArray, List.set_cons_zero, List.set_cons_succ]
  refine wpAnyH_take (i := 4) (oi := { dst := some 88, op := Op.move (Operand.tmp 17), type := 3, pos := _, after := #[{ on := 2, ground := Ground.guard }], guard := some (2, true) }) (v := .int .i64 (O : Int)) rfl (by kernel_rfl) (by kernel_rfl) (by kernel_rfl) (fun _ _ _ h => h) (Or.inl ⟨by rfl, ?_⟩) hHeld ?_
  · intro u hu
    go_simp
  try simp only [Act.put, List.setIfInBounds_toArray, List.set_cons_zero, List.set_cons_succ]
  refine wpAnyH_take (i := 5) (oi := { dst := some 89, op := Op.move (Operand.tmp 18), type := 3, pos := _, after := #[{ on := 2, ground := Ground.guard }], guard := some (2, true) }) (v := .int .i64 (M : Int)) rfl (by kernel_rfl) (by kernel_rfl) (by kernel_rfl) (fun _ _ _ h => h) (Or.inl ⟨by rfl, ?_⟩) hHeld ?_
  · intro u hu
    go_simp
  try simp only [Act.put, List.setIfInBounds_toArray, List.set_cons_zero, List.set_cons_succ]
  refine wpAnyH_take (i := 6) (oi := { dst := some 90, op := Op.binOp BinOp.add 3 (Operand.tmp 88) (Operand.tmp 89) 3, type := 3, pos := _, after := #[{ on := 4, ground := Ground.data }, { on := 5, ground := Ground.data }, { on := 2, ground := Ground.guard }], guard := some (2, true) }) (v := .int .i64 ((O : Int) + (M : Int))) rfl (by kernel_rfl) (by kernel_rfl) (by kernel_rfl) (fun _ _ _ h => h) (Or.inl ⟨by rfl, ?_⟩) hHeld ?_
  · intro u hu
    (go_simp; rw [IntKind.wrap_i64]; omega)
  try simp only [Act.put, List.setIfInBounds_toArray, List.set_cons_zero, List.set_cons_succ]
  refine wpAnyH_take (i := 7) (oi := { dst := some 91, op := Op.slice 39 (Operand.tmp 10) (some (Operand.tmp 87)) (some (Operand.tmp 90)) none, type := 32, pos := _, after := #[{ on := 3, ground := Ground.data }, { on := 6, ground := Ground.data }, { on := 2, ground := Ground.guard }], guard := some (2, true) }) (v := .slice (some ⟨g10, O, none⟩) M (54 - O)) rfl (by kernel_rfl) (by kernel_rfl) (by kernel_rfl) (fun _ _ _ h => h) (Or.inl ⟨by rfl, ?_⟩) hHeld ?_
  · intro u hu
    go_simp
  try simp only [Act.put, List.setIfInBounds_toArray, List.set_cons_zero, List.set_cons_succ]
  refine wpAnyH_take (i := 8) (oi := { dst := some 92, op := Op.load 26 (Operand.tmp 6), type := 26, pos := _, after := #[{ on := 2, ground := Ground.guard }], guard := some (2, true) }) (v := .agg x.cs.toArray) rfl (by kernel_rfl) (by kernel_rfl) (by kernel_rfl) (fun _ _ _ h => h)
    (yields_I (by rfl) (.tmp 6) rfl g6 (by rfl) x (fun u hu => xV.later hu)) hHeld ?_
  try simp only [Act.put, List.setIfInBounds_toArray, List.set_cons_zero, List.set_cons_succ]
  refine wpAnyH_take (i := 9) (oi := { dst := some 93, op := Op.move (Operand.tmp 3), type := 5, pos := _, after := #[{ on := 2, ground := Ground.guard }], guard := some (2, true) }) (v := .int .u8 f) rfl (by kernel_rfl) (by kernel_rfl) (by kernel_rfl) (fun _ _ _ h => h) (Or.inl ⟨by rfl, ?_⟩) hHeld ?_
  · intro u hu
    go_simp
  try simp only [Act.put, List.setIfInBounds_toArray, List.set_cons_zero, List.set_cons_succ]
  refine wpAnyH_take (i := 10) (oi := { dst := some 94, op := Op.binOp BinOp.rem 5 (Operand.tmp 93) (Operand.const (Value.int IntKind.u8 10)) 5, type := 5, pos := _, after := #[{ on := 9, ground := Ground.data }, { on := 2, ground := Ground.guard }], guard := some (2, true) }) (v := .int .u8 (F : Int)) rfl (by kernel_rfl) (by kernel_rfl) (by kernel_rfl) (fun _ _ _ h => h) (Or.inl ⟨by rfl, ?_⟩) hHeld ?_
  · intro u hu
    go_simp
  try simp only [Act.put, List.setIfInBounds_toArray, List.set_cons_zero, List.set_cons_succ]
  refine wpAnyH_take (i := 11) (oi := { dst := some 95, op := Op.convert 5 46 (Operand.tmp 94), type := 46, pos := _, after := #[{ on := 10, ground := Ground.data }, { on := 2, ground := Ground.guard }], guard := some (2, true) }) (v := .int .i64 (F : Int)) rfl (by kernel_rfl) (by kernel_rfl) (by kernel_rfl) (fun _ _ _ h => h) (Or.inl ⟨by rfl, ?_⟩) hHeld ?_
  · intro u hu
    (go_simp; rw [IntKind.wrap_i64]; omega)
  try simp only [Act.put, List.setIfInBounds_toArray, List.set_cons_zero, List.set_cons_succ]
  refine wpAnyH_ready (rs := [12]) (by kernel_rfl) (by simp) ?_
  refine (AllReadyH.cons (o := { dst := some 96, op := Op.call { callee := Callee.value (Operand.func 22), args := #[Operand.tmp 92, Operand.tmp 95], argTypes := #[26, 46] }, type := 32, pos := _, after := #[{ on := 8, ground := Ground.data }, { on := 11, ground := Ground.data }, { on := 2, ground := Ground.chain }, { on := 2, ground := Ground.guard }], guard := some (2, true) }) rfl (fun K hK => ?_) AllReadyH.nil)
  go_simp
  refine (hZ _ hF (TV.later hHeld)).mono ?_
  rintro e v12 ⟨g12, rfl, r12, c12⟩
  try go_wp2_with fail
  refine hK.out _ _ (bnext hHeld c12 (Nat.le_refl _)) (fun hHeld => ?_)
  clear hK K
  try simp only [Act.put, List.setIfInBounds_toArray, List.set_cons_zero, List.set_cons_succ]
  refine wpAnyH_ready (rs := [13]) (by kernel_rfl) (by simp) ?_
  refine (AllReadyH.cons (o := { dst := some 97, op := Op.call { callee := Callee.value (Operand.func 11), args := #[Operand.tmp 91, Operand.tmp 96], argTypes := #[32, 32] }, type := 4, pos := _, after := #[{ on := 7, ground := Ground.data }, { on := 12, ground := Ground.data }, { on := 12, ground := Ground.chain }, { on := 2, ground := Ground.guard }], guard := some (2, true) }) rfl (fun K hK => ?_) AllReadyH.nil)
  go_simp
  refine (sameBytes_yes _ _ M _ M M _ _ (kq _ hHeld) (by have y := r12.bs0 M M (by omega) (Nat.le_refl _) (by unfold maxLen; omega); rwa [List.take_of_length_le (by omega)] at y)).mono ?_
  rintro e v13 ⟨rfl, rfl⟩
  try go_wp2_with fail
  refine hK.out _ _ (hHeld) (fun hHeld => ?_)
  clear hK K
  try simp only [Act.put, List.setIfInBounds_toArray, List.set_cons_zero, List.set_cons_succ]
  refine wpAnyH_take (i := 14) (oi := { dst := some 98, op := Op.pick (Operand.tmp 86) (Operand.tmp 97) (Operand.const (Value.bool false)), type := 4, pos := _, after := #[{ on := 2, ground := Ground.data }, { on := 13, ground := Ground.data }], guard := none }) (v := .bool true) rfl (by kernel_rfl) (by kernel_rfl) (by kernel_rfl) (fun _ _ _ h => h) (Or.inl ⟨by rfl, ?_⟩) hHeld ?_
  · intro u hu
    go_simp
  try simp only [Act.put, List.setIfInBounds_toArray, List.set_cons_zero, List.set_cons_succ]
  refine wpAnyH_take (i := 15) (oi := { dst := some 8, op := Op.assign (Operand.tmp 98), type := 4, pos := _, after := #[{ on := 14, ground := Ground.data }, { on := 13, ground := Ground.chain }, { on := 0, ground := Ground.phase }, { on := 1, ground := Ground.phase }, { on := 2, ground := Ground.phase }, { on := 3, ground := Ground.phase }, { on := 4, ground := Ground.phase }, { on := 5, ground := Ground.phase }, { on := 6, ground := Ground.phase }, { on := 7, ground := Ground.phase }, { on := 8, ground := Ground.phase }, { on := 9, ground := Ground.phase }, { on := 10, ground := Ground.phase }, { on := 11, ground := Ground.phase }, { on := 12, ground := Ground.phase }, { on := 13, ground := Ground.phase }, { on := 14, ground := Ground.phase }], guard := none }) (v := .bool true) rfl (by kernel_rfl) (by kernel_rfl) (by kernel_rfl) (fun _ _ _ h => h) (Or.inl ⟨by rfl, ?_⟩) hHeld ?_
  · intro u hu
    go_simp
  try simp only [Act.put, List.setIfInBounds_toArray, List.set_cons_zero, List.set_cons_succ]
  refine wpAnyH_done (by kernel_rfl) ?_ _
  go_wp2_with fail
  go_returns
  exact ⟨rfl, bnext BV hHeld (Nat.le_refl _)⟩
set_option maxRecDepth 100000 in
set_option maxHeartbeats 8000000 in
theorem walk_2 (p : Ld) (s : Int) (x : Ino) (f : Int) (F : Nat) (w : World) (hs0 : 0 ≤ s) (hs1 : s ≤ 255) (hf0 : 0 ≤ f) (hf1 : f ≤ 255) (hm : s % 3 = 2) (hn : f % 10 = (F : Int)) (hF : F ≤ 9) (hT : Tb w) :
    Calls Tryd.prog 5 #[.agg p.cs.toArray, .int .u8 s, .agg x.cs.toArray, .int .u8 f] w fun e w' => e = .returned (.bool true) ∧ Below w.heap.size w w' := by
  have hm' : s.tmod 3 = 2 := by rw [Int.tmod_eq_emod_of_nonneg hs0]; exact hm
  have hn' : f.tmod 10 = (F : Int) := by rw [Int.tmod_eq_emod_of_nonneg hf0]; exact hn
  have hp := p.len
  have hW := iwith_2 p x
  have hq := (puts p 2 x).len
  have hQ0 := iat_0 (puts p 2 x)
  have hQ1 := iat_1 (puts p 2 x)
  have hQ2 := iat_2 (puts p 2 x)
  rw [slot_puts p 2 x (by omega), gI_iL] at hQ2
  rw [slot_other p 2 0 x (by omega) (by omega) (by omega)] at hQ0
  rw [slot_other p 2 1 x (by omega) (by omega) (by omega)] at hQ1
  have hP0 := iat_0 p
  have hP1 := iat_1 p
  have hP2 := iat_2 p
  have hO := fun w => offset_ok 2 F w (by omega) hF
  have hle := f_le F hF
  have hZ := fields_ok x F
  have hPart : Hid (((puts p 2 x).l.drop (18 * 2 + fAt F)).take (fSz F) = fPart x F) := part_puts p 2 x F (by omega) hF
  have hpl := fPart_len x F hF
  have hput := iput_any x
  have hget := fun w => iget_any (iL x) w (iL_len x)
  rw [gI_iL] at hget
  have hex := eqI x x
  rw [same_self] at hex
  have hg := guardI
  have he0 := eqI (gI (slot p 0)) (gI (slot p 0))
  rw [same_self] at he0
  have he1 := eqI (gI (slot p 1)) (gI (slot p 1))
  rw [same_self] at he1
  have he2 := eqI (gI (slot p 2)) (gI (slot p 2))
  rw [same_self] at he2
  generalize puts p 2 x = q at *
  generalize gI (slot p 0) = Y0 at *
  generalize gI (slot p 1) = Y1 at *
  generalize gI (slot p 2) = Y2 at *
  have hO1 : 18 * 2 + fAt F + fSz F ≤ 54 := by omega
  have hO2 : 18 * 2 + fAt F < 54 := by omega
  generalize fPart x F = P at *
  generalize 18 * 2 + fAt F = O at *
  generalize fSz F = M at *
  generalize iL x = D at *
  have hsub := fun w g => run_subA arrL w g O M hO1 hO2 ((O : Int) + (M : Int)) rfl
  go_enter Tryd.func5, Tryd.ntmps5
  go_wp2_with (first
    | (refine at_box 39 54 arrL (by rfl) _ (by rfl) p.l (by rfl) hp ?_; intro g4 w1 a1 z1 r1 b1)
    | (refine at_boxI (by rfl) _ (by rfl) x (by rfl) ?_; intro g6 w2 a2 z2 x2 b2; have p2 := r1.later b2; have B2 := bnext b1 b2 (Nat.le_refl _))
    | (go_at_call 15; refine (works10_any _ (hT.later B2)).mono ?_; rintro e w3 ⟨rfl, b3⟩; have p3 := p2.later b3; have x3 := x2.later b3)
    | (refine at_getL (by rfl) _ (by rfl) g4 (by rfl) p p3 ?_)
    | (refine at_getI (by rfl) _ (by rfl) g6 (by rfl) x x3 ?_)
    | (go_at_call 18; refine (hW _).mono ?_; rintro e w4 ⟨rfl, b4⟩)
    | (refine at_new 39 54 arrL (by rfl) (by rfl) ?_; intro g10 w5 a5 z5 r5 b5)
    | (refine at_put 39 54 arrL (by rfl) _ _ (by rfl) g10 (by rfl) q.l (by rfl) hq _ r5 (by simp) ?_; intro W q6 s6))
  have p6 : Row W g4 p.l := ((p3.later b4).later b5).step s6 (by have := (p3.later b4).lt; omega)
  have x6 : Cs W g6 x.cs := ((x3.later b4).later b5).step s6 (by have := (x3.later b4).lt; omega)
  have S6 : Stp (fun y => w.heap.size ≤ y) w W := (Stp.of_below (bnext (bnext (bnext B2 b3 (Nat.le_refl _)) b4 (Nat.le_refl _)) b5 (Nat.le_refl _)) _).next s6 (fun y hy => .inl (by subst hy; have := B2.size; have := b3.size; have := b4.size; omega))
  clear r1 b1 b2 a1 z1 a2 z2 p2 x2 B2 b3 b4 b5 a5 z5 r5 s6 p3 x3 hW
  refine wp_region_held_drew (S := fun u => Below W.heap.size W u) (by kernel_rfl) (Below.refl _ _).drew (fun hHeld => ?_)
  refine wpAnyH_take (i := 0) (oi := { dst := some 32, op := Op.move (Operand.tmp 11), type := 29, pos := _, after := #[], guard := none }) (v := .int .i64 0) rfl (by kernel_rfl) (by kernel_rfl) (by kernel_rfl) (fun _ _ _ h => h) (Or.inl ⟨by rfl, ?_⟩) hHeld ?_
  · intro u hu
    go_simp
  try simp only [Act.put, List.setIfInBounds_toArray, List.set_cons_zero, List.set_cons_succ]
  refine wpAnyH_take (i := 1) (oi := { dst := some 33, op := Op.binOp BinOp.neq 29 (Operand.tmp 32) (Operand.const (Value.int IntKind.i64 0)) 29, type := 4, pos := _, after := #[{ on := 0, ground := Ground.data }], guard := none }) (v := .bool false) rfl (by kernel_rfl) (by kernel_rfl) (by kernel_rfl) (fun _ _ _ h => h) (Or.inl ⟨by rfl, ?_⟩) hHeld ?_
  · intro u hu
    go_simp
  try simp only [Act.put, List.setIfInBounds_toArray, List.set_cons_zero, List.set_cons_succ]
  refine wpAnyH_take (i := 2) (oi := { dst := some 34, op := Op.move (Operand.tmp 33), type := 4, pos := _, after := #[{ on := 1, ground := Ground.data }], guard := none }) (v := .bool false) rfl (by kernel_rfl) (by kernel_rfl) (by kernel_rfl) (fun _ _ _ h => h) (Or.inl ⟨by rfl, ?_⟩) hHeld ?_
  · intro u hu
    go_simp
  try simp only [Act.put, List.setIfInBounds_toArray, List.set_cons_zero, List.set_cons_succ]
  refine wpAnyH_take (i := 3) (oi := { dst := some 35, op := Op.load 26 (Operand.tmp 6), type := 26, pos := _, after := #[{ on := 2, ground := Ground.guard }], guard := some (2, false) }) (v := .agg x.cs.toArray) rfl (by kernel_rfl) (by kernel_rfl) (by kernel_rfl) (fun _ _ _ h => h)
    (yields_I (by rfl) (.tmp 6) rfl g6 (by rfl) x (fun u hu => x6.later hu)) hHeld ?_
  try simp only [Act.put, List.setIfInBounds_toArray, List.set_cons_zero, List.set_cons_succ]
  refine wpAnyH_take (i := 6) (oi := { dst := some 38, op := Op.load 26 (Operand.tmp 6), type := 26, pos := _, after := #[{ on := 2, ground := Ground.guard }], guard := some (2, false) }) (v := .agg x.cs.toArray) rfl (by kernel_rfl) (by kernel_rfl) (by kernel_rfl) (fun _ _ _ h => h)
    (yields_I (by rfl) (.tmp 6) rfl g6 (by rfl) x (fun u hu => x6.later hu)) hHeld ?_
  try simp only [Act.put, List.setIfInBounds_toArray, List.set_cons_zero, List.set_cons_succ]
  refine wpAnyH_ready (rs := [4]) (by kernel_rfl) (by simp) ?_
  refine (AllReadyH.cons (o := { dst := some 36, op := Op.call { callee := Callee.value (Operand.func 8), args := #[Operand.tmp 35], argTypes := #[26] }, type := 27, pos := _, after := #[{ on := 3, ground := Ground.data }, { on := 2, ground := Ground.chain }, { on := 2, ground := Ground.guard }], guard := some (2, false) }) rfl (fun K hK => ?_) AllReadyH.nil)
  go_simp
  refine (hput _).mono ?_
  rintro e v4 ⟨rfl, c4⟩
  try go_wp2_with fail
  refine hK.out _ _ (bnext hHeld c4 (Nat.le_refl _)) (fun hHeld => ?_)
  clear hK K
  try simp only [Act.put, List.setIfInBounds_toArray, List.set_cons_zero, List.set_cons_succ]
  refine wpAnyH_ready (rs := [5]) (by kernel_rfl) (by simp) ?_
  refine (AllReadyH.cons (o := { dst := some 37, op := Op.call { callee := Callee.value (Operand.func 13), args := #[Operand.tmp 36], argTypes := #[27] }, type := 26, pos := _, after := #[{ on := 4, ground := Ground.data }, { on := 4, ground := Ground.chain }, { on := 2, ground := Ground.guard }], guard := some (2, false) }) rfl (fun K hK => ?_) AllReadyH.nil)
  go_simp
  refine (hget _).mono ?_
  rintro e v5 ⟨rfl, c5⟩
  try go_wp2_with fail
  refine hK.out _ _ (bnext hHeld c5 (Nat.le_refl _)) (fun hHeld => ?_)
  clear hK K
  try simp only [Act.put, List.setIfInBounds_toArray, List.set_cons_zero, List.set_cons_succ]
  refine wpAnyH_take (i := 7) (oi := { dst := some 39, op := Op.binOp BinOp.neq 26 (Operand.tmp 37) (Operand.tmp 38) 26, type := 4, pos := _, after := #[{ on := 5, ground := Ground.data }, { on := 6, ground := Ground.data }, { on := 2, ground := Ground.guard }], guard := some (2, false) }) (v := .bool false) rfl (by kernel_rfl) (by kernel_rfl) (by kernel_rfl) (fun _ _ _ h => h) (Or.inl ⟨by rfl, ?_⟩) hHeld ?_
  · intro u hu
    go_simp
  try simp only [Act.put, List.setIfInBounds_toArray, List.set_cons_zero, List.set_cons_succ]
  refine wpAnyH_take (i := 8) (oi := { dst := some 40, op := Op.pick (Operand.tmp 34) (Operand.const (Value.bool true)) (Operand.tmp 39), type := 4, pos := _, after := #[{ on := 2, ground := Ground.data }, { on := 7, ground := Ground.data }], guard := none }) (v := .bool false) rfl (by kernel_rfl) (by kernel_rfl) (by kernel_rfl) (fun _ _ _ h => h) (Or.inl ⟨by rfl, ?_⟩) hHeld ?_
  · intro u hu
    go_simp
  try simp only [Act.put, List.setIfInBounds_toArray, List.set_cons_zero, List.set_cons_succ]
  refine wpAnyH_done (by kernel_rfl) ?_ _
  have p7 := p6.later hHeld
  have x7 := x6.later hHeld
  have q7 := q6.later hHeld
  have S7 := S6.next (Stp.of_below hHeld (fun _ => False)) (fun _ h => h.elim)
  clear p6 x6 q6 S6 hHeld hput hget
  go_wp2_with fail
  refine wp_loop_rounds 4 ?_
  rw [rounds_succ]
  have t1 : True := trivial
  go_wp2_with (first
    | (have _t := t1; refine at_getL (by rfl) _ (by rfl) g4 (by rfl) p p7 ?_; clear _t)
    | (have _t := t1; go_at_call 16; refine (hP0 _).mono ?_; rintro e u1 ⟨rfl, c1⟩; clear _t)
    | (have _t := t1; refine at_newI (by rfl) (by rfl) ?_; intro ga0 u2 m2 n2 k2 c2; clear _t)
    | (have _t := t1; refine at_putI (by rfl) _ _ (by rfl) ga0 (by rfl) Y0 (by rfl) Ino.zero k2 ?_; intro u3 k3 s3
       have p8' : Row u3 g4 p.l := ((p7.later c1).later c2).step s3 (by have := (p7.later c1).lt; omega)
       have x8' : Cs u3 g6 x.cs := ((x7.later c1).later c2).step s3 (by have := (x7.later c1).lt; omega)
       have q8' : Row u3 g10 q.l := ((q7.later c1).later c2).step s3 (by have := (q7.later c1).lt; omega)
       have S8' : Stp (fun y => w.heap.size ≤ y) w u3 := (S7.next (Stp.of_below (bnext c1 c2 (Nat.le_refl _)) (fun _ => False)) (fun _ h => h.elim)).next s3 (fun y hy => .inl (by subst hy; have := S7.size; have := c1.size; omega))
       clear _t t1 p7 x7 q7 S7 c1 c2 m2 n2 k2 s3)
    | (refine at_getL (by rfl) _ (by rfl) g10 (by rfl) q q8' ?_)
    | (go_at_call 16; refine (hQ0 _).mono ?_; rintro e u4 ⟨rfl, c4⟩)
    | (refine at_newI (by rfl) (by rfl) ?_; intro gb0 u5 m5 n5 k5 c5)
    | (refine at_putI (by rfl) _ _ (by rfl) gb0 (by rfl) Y0 (by rfl) Ino.zero k5 ?_; intro w8 k6 s6
       have p8 : Row w8 g4 p.l := ((p8'.later c4).later c5).step s6 (by have := (p8'.later c4).lt; omega)
       have x8 : Cs w8 g6 x.cs := ((x8'.later c4).later c5).step s6 (by have := (x8'.later c4).lt; omega)
       have q8 : Row w8 g10 q.l := ((q8'.later c4).later c5).step s6 (by have := (q8'.later c4).lt; omega)
       have k8 : Cs w8 ga0 Y0.cs := ((k3.later c4).later c5).step s6 (by have := (k3.later c4).lt; omega)
       have S8 : Stp (fun y => w.heap.size ≤ y) w w8 := (S8'.next (Stp.of_below (bnext c4 c5 (Nat.le_refl _)) (fun _ => False)) (fun _ h => h.elim)).next s6 (fun y hy => .inl (by subst hy; have := S8'.size; have := c4.size; omega))
       clear p8' x8' q8' S8' c4 c5 m5 n5 k5 s6 k3)
    | (refine at_getI (by rfl) _ (by rfl) gb0 (by rfl) Y0 k6 ?_)
    | (refine at_getI (by rfl) _ (by rfl) g6 (by rfl) x x8 ?_)
    | (refine at_getI (by rfl) _ (by rfl) ga0 (by rfl) Y0 k8 ?_))
  clear k6 k8
  rw [rounds_succ]
  have t1 : True := trivial
  go_wp2_with (first
    | (have _t := t1; refine at_getL (by rfl) _ (by rfl) g4 (by rfl) p p8 ?_; clear _t)
    | (have _t := t1; go_at_call 16; refine (hP1 _).mono ?_; rintro e u1 ⟨rfl, c1⟩; clear _t)
    | (have _t := t1; refine at_newI (by rfl) (by rfl) ?_; intro ga1 u2 m2 n2 k2 c2; clear _t)
    | (have _t := t1; refine at_putI (by rfl) _ _ (by rfl) ga1 (by rfl) Y1 (by rfl) Ino.zero k2 ?_; intro u3 k3 s3
       have p8' : Row u3 g4 p.l := ((p8.later c1).later c2).step s3 (by have := (p8.later c1).lt; omega)
       have x8' : Cs u3 g6 x.cs := ((x8.later c1).later c2).step s3 (by have := (x8.later c1).lt; omega)
       have q8' : Row u3 g10 q.l := ((q8.later c1).later c2).step s3 (by have := (q8.later c1).lt; omega)
       have S8' : Stp (fun y => w.heap.size ≤ y) w u3 := (S8.next (Stp.of_below (bnext c1 c2 (Nat.le_refl _)) (fun _ => False)) (fun _ h => h.elim)).next s3 (fun y hy => .inl (by subst hy; have := S8.size; have := c1.size; omega))
       clear _t t1 p8 x8 q8 S8 c1 c2 m2 n2 k2 s3)
    | (refine at_getL (by rfl) _ (by rfl) g10 (by rfl) q q8' ?_)
    | (go_at_call 16; refine (hQ1 _).mono ?_; rintro e u4 ⟨rfl, c4⟩)
    | (refine at_newI (by rfl) (by rfl) ?_; intro gb1 u5 m5 n5 k5 c5)
    | (refine at_putI (by rfl) _ _ (by rfl) gb1 (by rfl) Y1 (by rfl) Ino.zero k5 ?_; intro w9 k6 s6
       have p9 : Row w9 g4 p.l := ((p8'.later c4).later c5).step s6 (by have := (p8'.later c4).lt; omega)
       have x9 : Cs w9 g6 x.cs := ((x8'.later c4).later c5).step s6 (by have := (x8'.later c4).lt; omega)
       have q9 : Row w9 g10 q.l := ((q8'.later c4).later c5).step s6 (by have := (q8'.later c4).lt; omega)
       have k9 : Cs w9 ga1 Y1.cs := ((k3.later c4).later c5).step s6 (by have := (k3.later c4).lt; omega)
       have S9 : Stp (fun y => w.heap.size ≤ y) w w9 := (S8'.next (Stp.of_below (bnext c4 c5 (Nat.le_refl _)) (fun _ => False)) (fun _ h => h.elim)).next s6 (fun y hy => .inl (by subst hy; have := S8'.size; have := c4.size; omega))
       clear p8' x8' q8' S8' c4 c5 m5 n5 k5 s6 k3)
    | (refine at_getI (by rfl) _ (by rfl) gb1 (by rfl) Y1 k6 ?_)
    | (refine at_getI (by rfl) _ (by rfl) g6 (by rfl) x x9 ?_)
    | (refine at_getI (by rfl) _ (by rfl) ga1 (by rfl) Y1 k9 ?_))
  clear k6 k9
  rw [rounds_succ]
  have t1 : True := trivial
  go_wp2_with (first
    | (have _t := t1; refine at_getL (by rfl) _ (by rfl) g4 (by rfl) p p9 ?_; clear _t)
    | (have _t := t1; go_at_call 16; refine (hP2 _).mono ?_; rintro e u1 ⟨rfl, c1⟩; clear _t)
    | (have _t := t1; refine at_newI (by rfl) (by rfl) ?_; intro ga2 u2 m2 n2 k2 c2; clear _t)
    | (have _t := t1; refine at_putI (by rfl) _ _ (by rfl) ga2 (by rfl) Y2 (by rfl) Ino.zero k2 ?_; intro u3 k3 s3
       have p8' : Row u3 g4 p.l := ((p9.later c1).later c2).step s3 (by have := (p9.later c1).lt; omega)
       have x8' : Cs u3 g6 x.cs := ((x9.later c1).later c2).step s3 (by have := (x9.later c1).lt; omega)
       have q8' : Row u3 g10 q.l := ((q9.later c1).later c2).step s3 (by have := (q9.later c1).lt; omega)
       have S8' : Stp (fun y => w.heap.size ≤ y) w u3 := (S9.next (Stp.of_below (bnext c1 c2 (Nat.le_refl _)) (fun _ => False)) (fun _ h => h.elim)).next s3 (fun y hy => .inl (by subst hy; have := S9.size; have := c1.size; omega))
       clear _t t1 p9 x9 q9 S9 c1 c2 m2 n2 k2 s3)
    | (refine at_getL (by rfl) _ (by rfl) g10 (by rfl) q q8' ?_)
    | (go_at_call 16; refine (hQ2 _).mono ?_; rintro e u4 ⟨rfl, c4⟩)
    | (refine at_newI (by rfl) (by rfl) ?_; intro gb2 u5 m5 n5 k5 c5)
    | (refine at_putI (by rfl) _ _ (by rfl) gb2 (by rfl) x (by rfl) Ino.zero k5 ?_; intro w10 k6 s6
       have p10 : Row w10 g4 p.l := ((p8'.later c4).later c5).step s6 (by have := (p8'.later c4).lt; omega)
       have x10 : Cs w10 g6 x.cs := ((x8'.later c4).later c5).step s6 (by have := (x8'.later c4).lt; omega)
       have q10 : Row w10 g10 q.l := ((q8'.later c4).later c5).step s6 (by have := (q8'.later c4).lt; omega)
       have k10 : Cs w10 ga2 Y2.cs := ((k3.later c4).later c5).step s6 (by have := (k3.later c4).lt; omega)
       have S10 : Stp (fun y => w.heap.size ≤ y) w w10 := (S8'.next (Stp.of_below (bnext c4 c5 (Nat.le_refl _)) (fun _ => False)) (fun _ h => h.elim)).next s6 (fun y hy => .inl (by subst hy; have := S8'.size; have := c4.size; omega))
       clear p8' x8' q8' S8' c4 c5 m5 n5 k5 s6 k3)
    | (refine at_getI (by rfl) _ (by rfl) gb2 (by rfl) x k6 ?_)
    | (refine at_getI (by rfl) _ (by rfl) g6 (by rfl) x x10 ?_)
    | (refine at_getI (by rfl) _ (by rfl) ga2 (by rfl) Y2 k10 ?_))
  clear k6 k10
  rw [rounds_succ]
  have B10 := S10.below (Nat.le_refl _) (fun _ h => h)
  have T10 := hT.later B10
  go_wp2_with (go_at_call 20; refine (hO _ T10).mono ?_; rintro e V ⟨rfl, c⟩)
  have xV := x10.later c
  have qV := q10.later c
  have TV := T10.later c
  have BV := bnext B10 c (Nat.le_refl _)
  have kq : ∀ u, Below V.heap.size V u → Bs u (some ⟨g10, O, none⟩) M (54 - O) (ints P) := fun u hu => by
    have y := (qV.later hu).bs O M (54 - O) (by omega) (by omega) (by unfold maxLen; omega)
    rw [hPart.out] at y; exact y
  clear p10 x10 q10 S10 T10 B10 c hP0 hP1 hP2 hQ0 hQ1 hQ2 hex he0 he1 he2 hg hO
  refine wp_region_held_drew (S := fun u => Below V.heap.size V u) (by kernel_rfl) (Below.refl _ _).drew (fun hHeld => ?_)
  refine wpAnyH_take (i := 0) (oi := { dst := some 84, op := Op.move (Operand.tmp 19), type := 29, pos := _, after := #[], guard := none }) (v := .int .i64 0) rfl (by kernel_rfl) (by kernel_rfl) (by kernel_rfl) (fun _ _ _ h => h) (Or.inl ⟨by rfl, ?_⟩) hHeld ?_
  · intro u hu
    go_simp
  try simp only [Act.put, List.setIfInBounds_toArray, List.set_cons_zero, List.set_cons_succ]
  refine wpAnyH_take (i := 1) (oi := { dst := some 85, op := Op.binOp BinOp.eql 29 (Operand.tmp 84) (Operand.const (Value.int IntKind.i64 0)) 29, type := 4, pos := _, after := #[{ on := 0, ground := Ground.data }], guard := none }) (v := .bool true) rfl (by kernel_rfl) (by kernel_rfl) (by kernel_rfl) (fun _ _ _ h => h) (Or.inl ⟨by rfl, ?_⟩) hHeld ?_
  · intro u hu
    go_simp
  try simp only [Act.put, List.setIfInBounds_toArray, List.set_cons_zero, List.set_cons_succ]
  refine wpAnyH_take (i := 2) (oi := { dst := some 86, op := Op.move (Operand.tmp 85), type := 4, pos := _, after := #[{ on := 1, ground := Ground.data }], guard := none }) (v := .bool true) rfl (by kernel_rfl) (by kernel_rfl) (by kernel_rfl) (fun _ _ _ h => h) (Or.inl ⟨by rfl, ?_⟩) hHeld ?_
  · intro u hu
    go_simp
  try simp only [Act.put, List.setIfInBounds_toArray, List.set_cons_zero, List.set_cons_succ]
  refine wpAnyH_take (i := 3) (oi := { dst := some 87, op := Op.move (Operand.tmp 17), type := 3, pos := _, after := #[{ on := 2, ground := Ground.guard }], guard := some (2, true) }) (v := .int .i64 (O : Int)) rfl (by kernel_rfl) (by kernel_rfl) (by kernel_rfl) (fun _ _ _ h => h) (Or.inl ⟨by rfl, ?_⟩) hHeld ?_
  · intro u hu
    go_simp
  try simp only [Act.put, List.setIfInBounds_toArray, List.set_cons_zero, List.set_cons_succ]
  refine wpAnyH_take (i := 4) (oi := { dst := some 88, op := Op.move (Operand.tmp 17), type := 3, pos := _, after := #[{ on := 2, ground := Ground.guard }], guard := some (2, true) }) (v := .int .i64 (O : Int)) rfl (by kernel_rfl) (by kernel_rfl) (by kernel_rfl) (fun _ _ _ h => h) (Or.inl ⟨by rfl, ?_⟩) hHeld ?_
  · intro u hu
    go_simp
  try simp only [Act.put, List.setIfInBounds_toArray, List.set_cons_zero, List.set_cons_succ]
  refine wpAnyH_take (i := 5) (oi := { dst := some 89, op := Op.move (Operand.tmp 18), type := 3, pos := _, after := #[{ on := 2, ground := Ground.guard }], guard := some (2, true) }) (v := .int .i64 (M : Int)) rfl (by kernel_rfl) (by kernel_rfl) (by kernel_rfl) (fun _ _ _ h => h) (Or.inl ⟨by rfl, ?_⟩) hHeld ?_
  · intro u hu
    go_simp
  try simp only [Act.put, List.setIfInBounds_toArray, List.set_cons_zero, List.set_cons_succ]
  refine wpAnyH_take (i := 6) (oi := { dst := some 90, op := Op.binOp BinOp.add 3 (Operand.tmp 88) (Operand.tmp 89) 3, type := 3, pos := _, after := #[{ on := 4, ground := Ground.data }, { on := 5, ground := Ground.data }, { on := 2, ground := Ground.guard }], guard := some (2, true) }) (v := .int .i64 ((O : Int) + (M : Int))) rfl (by kernel_rfl) (by kernel_rfl) (by kernel_rfl) (fun _ _ _ h => h) (Or.inl ⟨by rfl, ?_⟩) hHeld ?_
  · intro u hu
    (go_simp; rw [IntKind.wrap_i64]; omega)
  try simp only [Act.put, List.setIfInBounds_toArray, List.set_cons_zero, List.set_cons_succ]
  refine wpAnyH_take (i := 7) (oi := { dst := some 91, op := Op.slice 39 (Operand.tmp 10) (some (Operand.tmp 87)) (some (Operand.tmp 90)) none, type := 32, pos := _, after := #[{ on := 3, ground := Ground.data }, { on := 6, ground := Ground.data }, { on := 2, ground := Ground.guard }], guard := some (2, true) }) (v := .slice (some ⟨g10, O, none⟩) M (54 - O)) rfl (by kernel_rfl) (by kernel_rfl) (by kernel_rfl) (fun _ _ _ h => h) (Or.inl ⟨by rfl, ?_⟩) hHeld ?_
  · intro u hu
    go_simp
  try simp only [Act.put, List.setIfInBounds_toArray, List.set_cons_zero, List.set_cons_succ]
  refine wpAnyH_take (i := 8) (oi := { dst := some 92, op := Op.load 26 (Operand.tmp 6), type := 26, pos := _, after := #[{ on := 2, ground := Ground.guard }], guard := some (2, true) }) (v := .agg x.cs.toArray) rfl (by kernel_rfl) (by kernel_rfl) (by kernel_rfl) (fun _ _ _ h => h)
    (yields_I (by rfl) (.tmp 6) rfl g6 (by rfl) x (fun u hu => xV.later hu)) hHeld ?_
  try simp only [Act.put, List.setIfInBounds_toArray, List.set_cons_zero, List.set_cons_succ]
  refine wpAnyH_take (i := 9) (oi := { dst := some 93, op := Op.move (Operand.tmp 3), type := 5, pos := _, after := #[{ on := 2, ground := Ground.guard }], guard := some (2, true) }) (v := .int .u8 f) rfl (by kernel_rfl) (by kernel_rfl) (by kernel_rfl) (fun _ _ _ h => h) (Or.inl ⟨by rfl, ?_⟩) hHeld ?_
  · intro u hu
    go_simp
  try simp only [Act.put, List.setIfInBounds_toArray, List.set_cons_zero, List.set_cons_succ]
  refine wpAnyH_take (i := 10) (oi := { dst := some 94, op := Op.binOp BinOp.rem 5 (Operand.tmp 93) (Operand.const (Value.int IntKind.u8 10)) 5, type := 5, pos := _, after := #[{ on := 9, ground := Ground.data }, { on := 2, ground := Ground.guard }], guard := some (2, true) }) (v := .int .u8 (F : Int)) rfl (by kernel_rfl) (by kernel_rfl) (by kernel_rfl) (fun _ _ _ h => h) (Or.inl ⟨by rfl, ?_⟩) hHeld ?_
  · intro u hu
    go_simp
  try simp only [Act.put, List.setIfInBounds_toArray, List.set_cons_zero, List.set_cons_succ]
  refine wpAnyH_take (i := 11) (oi := { dst := some 95, op := Op.convert 5 46 (Operand.tmp 94), type := 46, pos := _, after := #[{ on := 10, ground := Ground.data }, { on := 2, ground := Ground.guard }], guard := some (2, true) }) (v := .int .i64 (F : Int)) rfl (by kernel_rfl) (by kernel_rfl) (by kernel_rfl) (fun _ _ _ h => h) (Or.inl ⟨by rfl, ?_⟩) hHeld ?_
  · intro u hu
    (go_simp; rw [IntKind.wrap_i64]; omega)
  try simp only [Act.put, List.setIfInBounds_toArray, List.set_cons_zero, List.set_cons_succ]
  refine wpAnyH_ready (rs := [12]) (by kernel_rfl) (by simp) ?_
  refine (AllReadyH.cons (o := { dst := some 96, op := Op.call { callee := Callee.value (Operand.func 22), args := #[Operand.tmp 92, Operand.tmp 95], argTypes := #[26, 46] }, type := 32, pos := _, after := #[{ on := 8, ground := Ground.data }, { on := 11, ground := Ground.data }, { on := 2, ground := Ground.chain }, { on := 2, ground := Ground.guard }], guard := some (2, true) }) rfl (fun K hK => ?_) AllReadyH.nil)
  go_simp
  refine (hZ _ hF (TV.later hHeld)).mono ?_
  rintro e v12 ⟨g12, rfl, r12, c12⟩
  try go_wp2_with fail
  refine hK.out _ _ (bnext hHeld c12 (Nat.le_refl _)) (fun hHeld => ?_)
  clear hK K
  try simp only [Act.put, List.setIfInBounds_toArray, List.set_cons_zero, List.set_cons_succ]
  refine wpAnyH_ready (rs := [13]) (by kernel_rfl) (by simp) ?_
  refine (AllReadyH.cons (o := { dst := some 97, op := Op.call { callee := Callee.value (Operand.func 11), args := #[Operand.tmp 91, Operand.tmp 96], argTypes := #[32, 32] }, type := 4, pos := _, after := #[{ on := 7, ground := Ground.data }, { on := 12, ground := Ground.data }, { on := 12, ground := Ground.chain }, { on := 2, ground := Ground.guard }], guard := some (2, true) }) rfl (fun K hK => ?_) AllReadyH.nil)
  go_simp
  refine (sameBytes_yes _ _ M _ M M _ _ (kq _ hHeld) (by have y := r12.bs0 M M (by omega) (Nat.le_refl _) (by unfold maxLen; omega); rwa [List.take_of_length_le (by omega)] at y)).mono ?_
  rintro e v13 ⟨rfl, rfl⟩
  try go_wp2_with fail
  refine hK.out _ _ (hHeld) (fun hHeld => ?_)
  clear hK K
  try simp only [Act.put, List.setIfInBounds_toArray, List.set_cons_zero, List.set_cons_succ]
  refine wpAnyH_take (i := 14) (oi := { dst := some 98, op := Op.pick (Operand.tmp 86) (Operand.tmp 97) (Operand.const (Value.bool false)), type := 4, pos := _, after := #[{ on := 2, ground := Ground.data }, { on := 13, ground := Ground.data }], guard := none }) (v := .bool true) rfl (by kernel_rfl) (by kernel_rfl) (by kernel_rfl) (fun _ _ _ h => h) (Or.inl ⟨by rfl, ?_⟩) hHeld ?_
  · intro u hu
    go_simp
  try simp only [Act.put, List.setIfInBounds_toArray, List.set_cons_zero, List.set_cons_succ]
  refine wpAnyH_take (i := 15) (oi := { dst := some 8, op := Op.assign (Operand.tmp 98), type := 4, pos := _, after := #[{ on := 14, ground := Ground.data }, { on := 13, ground := Ground.chain }, { on := 0, ground := Ground.phase }, { on := 1, ground := Ground.phase }, { on := 2, ground := Ground.phase }, { on := 3, ground := Ground.phase }, { on := 4, ground := Ground.phase }, { on := 5, ground := Ground.phase }, { on := 6, ground := Ground.phase }, { on := 7, ground := Ground.phase }, { on := 8, ground := Ground.phase }, { on := 9, ground := Ground.phase }, { on := 10, ground := Ground.phase }, { on := 11, ground := Ground.phase }, { on := 12, ground := Ground.phase }, { on := 13, ground := Ground.phase }, { on := 14, ground := Ground.phase }], guard := none }) (v := .bool true) rfl (by kernel_rfl) (by kernel_rfl) (by kernel_rfl) (fun _ _ _ h => h) (Or.inl ⟨by rfl, ?_⟩) hHeld ?_
  · intro u hu
    go_simp
  try simp only [Act.put, List.setIfInBounds_toArray, List.set_cons_zero, List.set_cons_succ]
  refine wpAnyH_done (by kernel_rfl) ?_ _
  go_wp2_with fail
  go_returns
  exact ⟨rfl, bnext BV hHeld (Nat.le_refl _)⟩
theorem walk (p : Ld) (s : Int) (x : Ino) (f : Int) (w : World) (hs : (Lit.int .u8 s).wf = true) (hf : (Lit.int .u8 f).wf = true) (hT : Tb w) :
    Calls Tryd.prog 5 #[.agg p.cs.toArray, .int .u8 s, .agg x.cs.toArray, .int .u8 f] w fun e w' => e = .returned (.bool true) ∧ Below w.heap.size w w' := by
  have h1 := bounds_u8 hs
  have h2 := bounds_u8 hf
  obtain ⟨F, hF⟩ := Int.eq_ofNat_of_zero_le (show 0 ≤ f % 10 by omega)
  have : s % 3 = 0 ∨ s % 3 = 1 ∨ s % 3 = 2 := by omega
  rcases this with h | h | h
  · exact walk_0 p s x f F w (by omega) (by omega) (by omega) (by omega) h hF (by omega) hT
  · exact walk_1 p s x f F w (by omega) (by omega) (by omega) (by omega) h hF (by omega) hT
  · exact walk_2 p s x f F w (by omega) (by omega) (by omega) (by omega) h hF (by omega) hT
theorem own : ownKnob Tryd.prog.godebug = none := by kernel_rfl
theorem laidOut : laidOutB Tryd.prog = true := by kernel_rfl
theorem table {W : World} (h : laidMetH Tryd.prog Rows.inodeBackRow.laid W) : Tb W := tab_of_laid (by kernel_rfl) h
set_option maxRecDepth 100000 in
theorem contract (H : Type) (enc : TypeId × Value → H) (W : World) (base : Nat) (args : Array Value) (ds gs : List (DataW H)) (before : List MemPlace)
    (hval : ∀ (j : Nat) t v, Tryd.f5.params[j]? = some t → args[j]? = some v → Value.okWide Tryd.prog W .any base t v)
    (hW : DataW.Whole enc Tryd.prog Tryd.f5.params.toList Rows.inodeBackSpec.vars false W args.toList ds gs before) (hL : laidMetH Tryd.prog Rows.inodeBackRow.laid W) :
    Calls Tryd.prog 5 args W fun e W' => ∃ v, e = .returned v ∧ Rows.inodeBackSpec.post enc Tryd.prog Tryd.f5 false true false false W args v W' := by
  have hW' := hW
  obtain ⟨p, q, hA0, hV, rfl, hfz, hnd⟩ := hW
  have hA : DataW.TrodAll enc Tryd.prog W 0 (fun _ => true) true Tryd.f5.params.toList args.toList ds p := hA0
  rw [Tryd.params5] at hA hval
  obtain ⟨v0, vs0, d0, ds0, p0, q0, hargs, rfl, rfl, h0, r0⟩ := trodAll_cons hA
  obtain ⟨v1, vs1, d1, ds1, p1, q1, rfl, rfl, rfl, h1, r1⟩ := trodAll_cons r0
  obtain ⟨v2, vs2, d2, ds2, p2, q2, rfl, rfl, rfl, h2, r2⟩ := trodAll_cons r1
  obtain ⟨v3, vs3, d3, ds3, p3, q3, rfl, rfl, rfl, h3, r3⟩ := trodAll_cons r2
  obtain ⟨rfl, rfl, rfl⟩ := trodAll_nil r3
  obtain rfl : args = #[v0, v1, v2, v3] := by cases args; simp_all
  obtain ⟨rfl, rfl⟩ := trodVars_none hV
  obtain ⟨cs0, rfl, _⟩ := okWide_row arrL.und (hval 0 39 v0 rfl rfl)
  have k0 := h0
  have lt0 : ∀ x ∈ p0, x.block < W.heap.size := by obtain ⟨m, hm⟩ := k0; exact DataW.trod_lt m _ _ _ hm
  obtain ⟨b0, e0⟩ : ∃ b : Ld, cs0 = b.cs.toArray := by
    obtain ⟨fuel, hf⟩ := h0
    obtain ⟨b, hb⟩ := ldOfTrod hf
    exact ⟨b, by rw [hb]; simp [Value.cells]⟩
  subst e0
  obtain ⟨a1, rfl, rfl, rfl, w1⟩ := open_int Tryd.underlying5 (hval 1 5 v1 rfl rfl) h1
  obtain ⟨cs2, rfl, _⟩ := okWide_struct Tryd.underlying26 (hval 2 26 v2 rfl rfl)
  have k2 := h2
  have lt2 : ∀ x ∈ p2, x.block < W.heap.size := by obtain ⟨m, hm⟩ := k2; exact DataW.trod_lt m _ _ _ hm
  obtain ⟨b2, e2⟩ : ∃ b : Ino, cs2 = b.cs.toArray := by
    obtain ⟨fuel, hf⟩ := h2
    obtain ⟨b, hb⟩ := inoOfTrod hf
    exact ⟨b, by rw [hb]; simp [Value.cells]⟩
  subst e2
  obtain ⟨a3, rfl, rfl, rfl, w3⟩ := open_int Tryd.underlying5 (hval 3 5 v3 rfl rfl) h3
  clear hA0
  refine (walk b0 a1 b2 a3 W w1 w3 (table hL)).mono fun e W' ⟨he, bel⟩ => ?_
  subst he
  exact ⟨_, rfl, _, _, _, [], _, [], hW', trodAll_mk1 (shut_bool Tryd.underlying4 _), (trodAll_cons_mk (Below.trod laidOut (by kernel_rfl) (of_decide_eq_true (by kernel_rfl)) k0 bel lt0) (trodAll_cons_mk (shut_int Tryd.underlying5 w1) (trodAll_cons_mk (Below.trod laidOut (by kernel_rfl) (of_decide_eq_true (by kernel_rfl)) k2 bel lt2) (trodAll_cons_mk (shut_int Tryd.underlying5 w3) trodAll_mk0)))), rfl, bel.frame _, fun h => by cases h⟩
theorem laid_met (os : Os) : laidMet Tryd.prog Rows.inodeBackRow.laid (({ World.holding Tryd.prog os ⟨#[], #[], []⟩ with heap := (World.holding Tryd.prog os ⟨#[], #[], []⟩).heap.modify 0 fun | .cells _ t frozen => .cells #[.int .i64 0, .int .i64 18, .int .i64 1, .int .i64 1, .int .i64 2, .int .i64 4, .int .i64 6, .int .i64 2, .int .i64 8, .int .i64 2, .int .i64 10, .int .i64 2, .int .i64 12, .int .i64 2, .int .i64 14, .int .i64 2, .int .i64 16, .int .i64 2, .int .i64 2, .int .i64 16] t frozen | o => o } : World).forCall (fun _ _ => 0) ⟨#[], #[.agg Ld.zero.cs.toArray, .int .u8 0, .agg Ino.zero.cs.toArray, .int .u8 0], []⟩).memory :=
  laidMet_of_run' 8 (by kernel_rfl) (by kernel_rfl)
theorem reads (os : Os) {H : Type} (enc : TypeId × Value → H) : ∃ places, DataW.whole enc Tryd.prog (({ World.holding Tryd.prog os ⟨#[], #[], []⟩ with heap := (World.holding Tryd.prog os ⟨#[], #[], []⟩).heap.modify 0 fun | .cells _ t frozen => .cells #[.int .i64 0, .int .i64 18, .int .i64 1, .int .i64 1, .int .i64 2, .int .i64 4, .int .i64 6, .int .i64 2, .int .i64 8, .int .i64 2, .int .i64 10, .int .i64 2, .int .i64 12, .int .i64 2, .int .i64 14, .int .i64 2, .int .i64 16, .int .i64 2, .int .i64 2, .int .i64 16] t frozen | o => o } : World).forCall (fun _ _ => 0) ⟨#[], #[.agg Ld.zero.cs.toArray, .int .u8 0, .agg Ino.zero.cs.toArray, .int .u8 0], []⟩).memory Tryd.f5.params.toList Rows.inodeBackSpec.vars false (#[.agg Ld.zero.cs.toArray, .int .u8 0, .agg Ino.zero.cs.toArray, .int .u8 0] : Array Value).toList 8 = some ([.agg (List.replicate 54 (.lit (.int .u8 0))), .lit (.int .u8 0), .agg [.lit (.int .u8 0), .lit (.int .u8 0), .lit (.int .u32 0), .agg [.lit (.int .u16 0), .lit (.int .u16 0), .lit (.int .u16 0), .lit (.int .u16 0)], .lit (.int .u16 0), .lit (.int .u16 0)], .lit (.int .u8 0)], [], places) :=
  ⟨[], by kernel_rfl⟩
set_option maxRecDepth 100000 in
theorem lifted (os : Os) (started : os.Started) (H : Type) (enc : TypeId × Value → H) (F : Stop.Interp) :
    ReturnsInHanded {} Tryd.checked os 5 .any ((OpenSpec.ofChange Rows.inodeBackSpec).preRow enc Tryd.prog Tryd.f5 Rows.inodeBackRow.domain false Rows.inodeBackRow.laid) (((OpenSpec.ofChange Rows.inodeBackSpec).at F).post enc Tryd.prog Tryd.f5 false true false false) := by
  obtain ⟨places, hx⟩ := reads os enc
  refine returnsInHanded_of_row (C := Tryd.checked) (s := OpenSpec.ofChange Rows.inodeBackSpec) own started (by kernel_rfl) Tryd.func5
    (witness_row_at (enc := enc) (C := Tryd.checked) false ({ World.holding Tryd.prog os ⟨#[], #[], []⟩ with heap := (World.holding Tryd.prog os ⟨#[], #[], []⟩).heap.modify 0 fun | .cells _ t frozen => .cells #[.int .i64 0, .int .i64 18, .int .i64 1, .int .i64 1, .int .i64 2, .int .i64 4, .int .i64 6, .int .i64 2, .int .i64 8, .int .i64 2, .int .i64 10, .int .i64 2, .int .i64 12, .int .i64 2, .int .i64 14, .int .i64 2, .int .i64 16, .int .i64 2, .int .i64 2, .int .i64 16] t frozen | o => o } : World) #[.agg Ld.zero.cs.toArray, .int .u8 0, .agg Ino.zero.cs.toArray, .int .u8 0] rfl (by kernel_rfl) (by kernel_rfl) (by kernel_rfl)
      (OpenSpec.preRow_of_cond 8 hx (by kernel_rfl) (fun k hk => by cases hk) (by kernel_rfl) (laid_met os))) ?_
  intro W base args ds gs before hval hW _ _ _ hL _ _
  exact contract H enc W base args ds gs before hval hW hL
theorem said : Rows.InodeBackSaid :=
  OpenClaim.holds_of_cond 5 Tryd.f5 rfl rfl rfl rfl rfl rfl rfl ⟨rfl, rfl, rfl, rfl, rfl⟩ rfl rfl rfl rfl rfl (by kernel_rfl) Tryd.func5 (by kernel_rfl)
    (of_decide_eq_true (by kernel_rfl)) (by unfold Func.isWrapper; first | (rw [if_pos (by decide +kernel)]; kernel_rfl) | (rw [if_neg (by decide +kernel)]; exact ⟨rfl, rfl⟩))
    (fun os started H enc _ F => by rw [OpenClaim.pre_eq_preRow]; exact lifted os started H enc F)
theorem plain (f : FuncId) (fn : Func) (hf : Tryd.pinned.checked.prog.funcNamed Rows.inodeBackRow.func = some f) (hfn : Tryd.pinned.checked.prog.funcs[f]? = some fn) :
    false = Tryd.pinned.checked.prog.looks [] ∧ ∀ (j : Nat) t, fn.params[j]? = some t → Tryd.pinned.checked.prog.wantsStandIn t = false := by
  obtain rfl : f = 5 := Option.some.inj ((show Tryd.prog.funcNamed Rows.inodeBackRow.func = some 5 by kernel_rfl).symm.trans hf) |>.symm
  obtain rfl : fn = Tryd.f5 := (Option.some.inj (Tryd.func5.symm.trans hfn)).symm
  refine ⟨by kernel_rfl, fun j t ht => ?_⟩
  rw [Tryd.params5] at ht
  have hm := Array.mem_of_getElem? ht
  have hm2 : t ∈ ([39, 5, 26, 5] : List TypeId) := by simpa using hm
  have ha : ([39, 5, 26, 5] : List TypeId).all (fun t => !Tryd.prog.wantsStandIn t) = true := by kernel_rfl
  have := List.all_eq_true.1 ha t hm2
  exact (show Tryd.prog.wantsStandIn t = false by simpa using this)
end Go.Proofs.YtbpnegklglaekaaDoor.inodeBack
namespace Go.Proofs.YtbpnegklglaekaaDoor
/-- The statement. -/
theorem inodeBack_holds : Rows.InodeBackCardSaid :=
  Claim7.holds_tied_plain_at .later [] _ _ _ _ inodeBack.said (fun _ h => by cases h) (by kernel_rfl) (fun _ h => by cases h) inodeBack_row_tie rfl ⟨rfl, rfl⟩ (by kernel_rfl) rfl inodeBack.plain (by kernel_rfl)
#print axioms inodeBack_holds
end Go.Proofs.YtbpnegklglaekaaDoor
