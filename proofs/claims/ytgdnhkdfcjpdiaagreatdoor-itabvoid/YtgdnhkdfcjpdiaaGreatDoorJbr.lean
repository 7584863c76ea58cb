/-
  Texts of my own, joined: no statement is proved here.
-/
import Derived.Test.YtgdnhkdfcjpdiaaGreatDoorJbq
set_option linter.unusedSimpArgs false
set_option linter.unusedVariables false
namespace Go.Proofs.YtgdnhkdfcjpdiaaGreatDoor
open Go.ChangeShapes Go.WideShapes Go.ChangeAt Go.RowKit
set_option maxRecDepth 100000
def lay0 (x : Ino) : List UInt8 := ((List.replicate 18 0).set 0 x.k).set 1 x.n
def lay1 (x : Ino) : List UInt8 := splice (lay0 x) 2 (u4 x.s.toNat)
def lay2 (x : Ino) : List UInt8 := splice (lay1 x) 6 (lo2 x.d0.toNat)
def lay3 (x : Ino) : List UInt8 := splice (lay2 x) 8 (lo2 x.d1.toNat)
def lay4 (x : Ino) : List UInt8 := splice (lay3 x) 10 (lo2 x.d2.toNat)
def lay5 (x : Ino) : List UInt8 := splice (lay4 x) 12 (lo2 x.d3.toNat)
def lay6 (x : Ino) : List UInt8 := splice (lay5 x) 14 (lo2 x.p.toNat)
theorem Cs.ino9 {w : World} {g : Nat} {x : Ino} (h : Cs w g x.cs) : w.cell? ⟨g, 0, none⟩ = some (.int .u8 (x.k.toNat : Int)) ∧ w.cell? ⟨g, 1, none⟩ = some (.int .u8 (x.n.toNat : Int)) ∧ w.cell? ⟨g, 2, none⟩ = some (.int .u32 (x.s.toNat : Int)) ∧ w.cell? ⟨g, 7, none⟩ = some (.int .u16 (x.p.toNat : Int)) ∧ w.cell? ⟨g, 8, none⟩ = some (.int .u16 (x.q.toNat : Int)) :=
  ⟨h.cell 0 _ rfl, h.cell 1 _ rfl, h.cell 2 _ rfl, h.cell 7 _ rfl, h.cell 8 _ rfl⟩
def dirs (x : Ino) : List Value := [.int .u16 (x.d0.toNat : Int), .int .u16 (x.d1.toNat : Int), .int .u16 (x.d2.toNat : Int), .int .u16 (x.d3.toNat : Int)]
set_option maxRecDepth 100000 in
set_option maxHeartbeats 2000000 in
theorem iput_any (x : Ino) (w : World) : Calls Tryz.prog 73 #[.agg x.cs.toArray] w fun e w' => e = .returned (.agg (cells (iL x)).toArray) ∧ Below w.heap.size w w' := by
  have t1 : True := trivial
  go_enter Tryz.func73, Tryz.ntmps73
  go_wp2_with (first
    | (refine at_boxI (by rfl) _ (by rfl) x (by rfl) ?_; intro g1 w1 a1 z1 r1 b1)
    | (have _t := t1; refine at_new 104 18 ar18 (by rfl) (by rfl) ?_; intro gr w2 a2 z2 r2 b2; clear _t t1)
    | (refine at_new 104 18 ar18 (by rfl) (by rfl) ?_; intro gb W a3 z3 r3 b3))
  have rx := (r1.later b2).later b3
  have rr := r2.later b3
  have B3 := bnext (bnext b1 b2 (Nat.le_refl _)) b3 (Nat.le_refl _)
  have hgr : w.heap.size ≤ gr := by have := b1.size; omega
  have hgb : w.heap.size ≤ gb := by have := b1.size; have := b2.size; omega
  have hxb : ¬ g1 = gb := by have := r1.lt; have := b2.size; omega
  have hrb : ¬ gr = gb := by omega
  clear r1 r2 a1 z1 a2 z2 a3 z3 b1 b2 b3
  refine wp_region_held_drew (S := fun u => Stp (fun y => y = gb) W u) (by kernel_rfl) (Stp.refl _ _).drew (fun hHeld => ?_)
  refine tl 0 (.pointer (some ⟨g1, 0, none⟩)) rfl ?_
  try simp only [z]
  refine tl 1 (.int .u8 (x.k.toNat : Int)) rfl ?_ (fun u hu => by (have y := (rx.step hu hxb).cell 0 _ rfl; go_simp))
  try simp only [z]
  refine tl 2 (.pointer (some ⟨g1, 1, none⟩)) rfl ?_
  try simp only [z]
  refine tl 3 (.int .u8 (x.n.toNat : Int)) rfl ?_ (fun u hu => by (have y := (rx.step hu hxb).cell 1 _ rfl; go_simp))
  try simp only [z]
  refine tl 4 (.pointer (some ⟨gb, 0, none⟩)) rfl ?_
  try simp only [z]
  refine rd 5 rfl (fun K hK => ?_)
  refine step_byte rfl (.tmp 11) (.tmp 8) rfl gb 0 (by rfl) x.k (by rfl) (List.replicate 18 0) (r3.later (Below.refl _ _).drew) (by simp) ?_
  intro v5 y5 s5
  refine hK.out _ _ (hHeld.next s5 (fun _ h => .inl h)) (fun hHeld => ?_)
  clear hK K
  try simp only [Act.put]
  refine tl 6 (.pointer (some ⟨gb, 1, none⟩)) rfl ?_
  try simp only [z]
  refine rd 7 rfl (fun K hK => ?_)
  refine step_byte rfl (.tmp 12) (.tmp 10) rfl gb 1 (by rfl) x.n (by rfl) _ y5 (by simp) ?_
  intro v7 y7 s7
  refine hK.out _ _ (hHeld.next s7 (fun _ h => .inl h)) (fun hHeld => ?_)
  clear hK K
  try simp only [Act.put]
  refine wpAnyH_done (by kernel_rfl) ?_ _
  have rx7 := rx.step hHeld hxb
  have rr7 := rr.step hHeld hrb
  have S7 : Stp (fun y => w.heap.size ≤ y) w v7 := (Stp.of_below B3 _).next hHeld (fun y hy => .inl (by subst hy; exact hgb))
  clear rx rr B3 hHeld s5 s7 y5 r3
  obtain ⟨q0, q1, q2, q3, q4⟩ := rx7.ino9
  go_wp2_with (first
    | (go_at_call 100; refine (put32_w x.s _).mono ?_; rintro e w8 ⟨rfl, b8⟩)
    | (refine at_new 206 4 ar4 (by rfl) (by rfl) ?_; intro gn w9 a9 z9 r9 b9)
    | (refine at_put 206 4 ar4 (by rfl) _ _ (by rfl) gn (by rfl) (u4 x.s.toNat) (by rfl) rfl _ r9 (by simp) ?_; intro w10 r10 s10))
  have B9 := bnext b8 b9 (Nat.le_refl _)
  have hgn : v7.heap.size ≤ gn := by have := b8.size; omega
  have rx10 : Cs w10 g1 x.cs := (rx7.later B9).step s10 (by have := rx7.lt; omega)
  have rr10 : Row w10 gr (List.replicate 18 0) := (rr7.later B9).step s10 (by have := rr7.lt; omega)
  have y10 : Row w10 gb (lay0 x) := (y7.later B9).step s10 (by have := y7.lt; omega)
  have S10 : Stp (fun y => w.heap.size ≤ y) w w10 := (S7.next (Stp.of_below B9 (fun _ => False)) (fun _ h => h.elim)).next s10 (fun y hy => .inl (by subst hy; have := S7.size; omega))
  clear q0 q1 q2 q3 q4 rx7 rr7 y7 S7 B9 b8 b9 a9 z9 r9 s10 hgn
  simp only [Act.put, List.setIfInBounds_toArray, List.set_cons_zero, List.set_cons_succ]
  go_region_law (refine step_copyR rfl (.tmp 16) (.tmp 17) rfl gb 2 16 16 gn 4 4 (by simp [Act.eval, Act.put]) (by simp [Act.eval, Act.put]) (lay0 x) (u4 x.s.toNat) (y10.later (by go_grown)) (r10.later (by go_grown)) (by omega) (by exact (show 2 + 4 ≤ 18 by decide)) (Nat.le_refl 4) ?_; intro w11 y11 s11)
  have rx11 : Cs w11 g1 x.cs := (rx10.later (w' := w10.drew) (by go_grown)).step s11 hxb
  have rr11 : Row w11 gr (List.replicate 18 0) := (rr10.later (w' := w10.drew) (by go_grown)).step s11 hrb
  have S11 : Stp (fun y => w.heap.size ≤ y) w w11 := S10.drew.next s11 (fun y hy => .inl (by subst hy; exact hgb))
  have y11' : Row w11 gb (lay1 x) := y11
  clear rx10 rr10 y10 r10 S10 s11 y11
  go_wp2_with (first
    | (refine at_getP 24 4 rowD szD (by rfl) _ (by rfl) g1 3 (by rfl) x.cs rx11 (dirs x) rfl rfl ?_))
  refine wp_loop_rounds 5 ?_
  rw [rounds_succ]
  unfold dirs
  go_wp2_with (first
    | (refine at_idx0 (by rfl) _ _ (by rfl) _ _ _ _ (.int .u16 (x.d0.toNat : Int)) 0 (by rfl) (by rfl) (fun w => by kernel_rfl) ?_)
    | (go_at_call 101; refine (putPointer_any gb 6 x.d0 (lay1 x) _ y11' rfl (by omega)).mono ?_; rintro e w12 ⟨rfl, y12', s12⟩))
  have rx12 := rx11.step s12 hxb
  have rr12 := rr11.step s12 hrb
  have S12 := S11.next s12 (fun y hy => .inl (by subst hy; exact hgb))
  clear rx11 rr11 S11 s12 y11'
  rw [rounds_succ]
  go_wp2_with (first
    | (refine at_idx0 (by rfl) _ _ (by rfl) _ _ _ _ (.int .u16 (x.d1.toNat : Int)) 1 (by rfl) (by rfl) (fun w => by kernel_rfl) ?_)
    | (go_at_call 101; refine (putPointer_any gb 8 x.d1 (lay2 x) _ y12' rfl (by omega)).mono ?_; rintro e w13 ⟨rfl, y13', s13⟩))
  have rx13 := rx12.step s13 hxb
  have rr13 := rr12.step s13 hrb
  have S13 := S12.next s13 (fun y hy => .inl (by subst hy; exact hgb))
  clear rx12 rr12 S12 s13 y12'
  rw [rounds_succ]
  go_wp2_with (first
    | (refine at_idx0 (by rfl) _ _ (by rfl) _ _ _ _ (.int .u16 (x.d2.toNat : Int)) 2 (by rfl) (by rfl) (fun w => by kernel_rfl) ?_)
    | (go_at_call 101; refine (putPointer_any gb 10 x.d2 (lay3 x) _ y13' rfl (by omega)).mono ?_; rintro e w14 ⟨rfl, y14', s14⟩))
  have rx14 := rx13.step s14 hxb
  have rr14 := rr13.step s14 hrb
  have S14 := S13.next s14 (fun y hy => .inl (by subst hy; exact hgb))
  clear rx13 rr13 S13 s14 y13'
  rw [rounds_succ]
  go_wp2_with (first
    | (refine at_idx0 (by rfl) _ _ (by rfl) _ _ _ _ (.int .u16 (x.d3.toNat : Int)) 3 (by rfl) (by rfl) (fun w => by kernel_rfl) ?_)
    | (go_at_call 101; refine (putPointer_any gb 12 x.d3 (lay4 x) _ y14' rfl (by omega)).mono ?_; rintro e w15 ⟨rfl, y15', s15⟩))
  have rx15 := rx14.step s15 hxb
  have rr15 := rr14.step s15 hrb
  have S15 := S14.next s15 (fun y hy => .inl (by subst hy; exact hgb))
  clear rx14 rr14 S14 s15 y14'
  rw [rounds_succ]
  obtain ⟨_, _, _, q3, _⟩ := rx15.ino9
  have t1 : True := trivial
  go_wp2_with (first
    | (have _t := t1; go_at_call 101; refine (putPointer_any gb 14 x.p (lay5 x) _ y15' rfl (by omega)).mono ?_; rintro e w16 ⟨rfl, y16', s16⟩; have rx16 := rx15.step s16 hxb; obtain ⟨_, _, _, _, q4⟩ := rx16.ino9; clear _t t1)
    | (go_at_call 101; refine (putPointer_any gb 16 x.q (lay6 x) _ y16' rfl (by omega)).mono ?_; rintro e w17 ⟨rfl, y17', s17⟩
       have y17 : Row w17 gb (iL x) := y17'
       have rr17 := (rr15.step s16 hrb).step s17 hrb)
    | (refine at_get 104 18 ar18 (by rfl) _ (by rfl) gb (by rfl) (iL x) y17 (iL_len x) ?_)
    | (refine at_put 104 18 ar18 (by rfl) _ _ (by rfl) gr (by rfl) (iL x) (by rfl) (iL_len x) _ rr17 (by simp) ?_; intro w18 r18 s18))
  have S18 := ((S15.next s16 (fun y hy => .inl (by subst hy; exact hgb))).next s17 (fun y hy => .inl (by subst hy; exact hgb))).next s18 (fun y hy => .inl (by subst hy; exact hgr))
  exact bodyPost_ret (retA ar18 Tryz.results73 rfl r18 (iL_len x)) rfl ⟨rfl, S18.below (Nat.le_refl _) (fun _ h => h)⟩
set_option maxRecDepth 100000
set_option maxRecDepth 100000 in
set_option maxHeartbeats 2000000 in
theorem iget_any (l : List UInt8) (w : World) (hl : l.length = 18) : Calls Tryz.prog 40 #[.agg (cells l).toArray] w fun e w' => e = .returned (.agg (gI l).cs.toArray) ∧ Below w.heap.size w w' := by
  have t1 : True := trivial
  obtain ⟨c0, hc0⟩ : ∃ c, Hid (l.getD 0 0 = c) := ⟨_, rfl⟩
  obtain ⟨c1, hc1⟩ : ∃ c, Hid (l.getD 1 0 = c) := ⟨_, rfl⟩
  go_enter Tryz.func40, Tryz.ntmps40
  go_wp2_with (first
    | (refine at_box 104 18 ar18 (by rfl) _ (by rfl) l (by rfl) hl ?_; intro g1 w1 a1 z1 r1 b1)
    | (have _t := t1; refine at_newI (by rfl) (by rfl) ?_; intro gr w2 a2 z2 r2 b2
       have q0 := (r1.later b2).cell 0 (by omega)
       have q1 := (r1.later b2).cell 1 (by omega)
       rw [hc0.out] at q0
       rw [hc1.out] at q1
       clear _t t1)
    | (refine at_bld2 (by rfl) _ _ (by rfl) c0 c1 (by rfl) (by rfl) ?_)
    | (refine at_newI (by rfl) (by rfl) ?_; intro gx w3 a3 z3 r3 b3)
    | (refine at_putI (by rfl) _ _ (by rfl) gx (by rfl) _ (by rfl) Ino.zero r3 ?_; intro W r4 s4
       have rb : Row W g1 l := ((r1.later b2).later b3).step s4 (by have := r1.lt; have := b2.size; omega)
       have rr : Cs W gr Ino.zero.cs := (r2.later b3).step s4 (by have := r2.lt; omega)
       have hgr : w.heap.size ≤ gr := (by have := b1.size; omega)
       have hgx : w.heap.size ≤ gx := (by have := b1.size; have := b2.size; omega)
       have hxb : ¬ g1 = gx := (by have := r1.lt; have := b2.size; omega)
       have hrb : ¬ gr = gx := (by have := r2.lt; omega)
       have S4 : Stp (fun y => w.heap.size ≤ y) w W := (Stp.of_below (bnext (bnext b1 b2 (Nat.le_refl _)) b3 (Nat.le_refl _)) _).next s4 (fun y hy => .inl (by subst hy; exact hgx))
       have yb := rb.bs0 18 18 (by omega) (Nat.le_refl _) (by decide)
       rw [List.take_of_length_le (by omega)] at yb
       clear r1 r2 r3 b1 b2 b3 s4 q0 q1 a1 z1 a2 z2 a3 z3)
    | (go_at_call 67; refine (get32_w _ 18 18 l 2 _ yb (by omega)).mono ?_; rintro e w5 ⟨rfl, rfl⟩)
    | (refine at_setC 22 .u32 szU32 (by rfl) _ _ (by rfl) gx 2 (by rfl) _ (by rfl) _ r4 (by exact (show 2 < 9 by decide)) ?_; intro w6 r6 s6
       have rb6 := rb.step s6 hxb
       have rr6 := rr.step s6 hrb
       have S6 := S4.next s6 (fun y hy => .inl (by subst hy; exact hgx))
       clear rb rr S4 s6 r4 yb))
  have y6 : Cs w6 gx (Ino.mk c0 c1 (qt l 2) 0 0 0 0 0 0).cs := r6
  clear r6
  refine wp_loop_rounds 5 ?_
  rw [rounds_succ]
  go_wp2_with (first
    | (refine at_get 104 18 ar18 (by rfl) _ (by rfl) g1 (by rfl) l rb6 hl ?_)
    | (go_at_call 68; refine (pointerAt_any l 6 _ hl (by omega)).mono ?_; rintro e v7 ⟨rfl, b7⟩; have x7 := y6.later b7)
    | (refine at_setC 23 .u16 szU16 (by rfl) _ _ (by rfl) gx 3 (by rfl) _ (by rfl) _ x7 (by exact (show 3 < 9 by decide)) ?_; intro w7 r7 s7))
  have y7 : Cs w7 gx (Ino.mk c0 c1 (qt l 2) (pt l 6) 0 0 0 0 0).cs := r7
  have rb7 := (rb6.later b7).step s7 hxb
  have rr7 := (rr6.later b7).step s7 hrb
  have S7 := (S6.next (Stp.of_below b7 (fun _ => False)) (fun _ h => h.elim)).next s7 (fun y hy => .inl (by subst hy; exact hgx))
  clear x7 r7 s7 rb6 rr6 S6 y6 b7
  rw [rounds_succ]
  go_wp2_with (first
    | (refine at_get 104 18 ar18 (by rfl) _ (by rfl) g1 (by rfl) l rb7 hl ?_)
    | (go_at_call 68; refine (pointerAt_any l 8 _ hl (by omega)).mono ?_; rintro e v8 ⟨rfl, b8⟩; have x8 := y7.later b8)
    | (refine at_setC 23 .u16 szU16 (by rfl) _ _ (by rfl) gx 4 (by rfl) _ (by rfl) _ x8 (by exact (show 4 < 9 by decide)) ?_; intro w8 r8 s8))
  have y8 : Cs w8 gx (Ino.mk c0 c1 (qt l 2) (pt l 6) (pt l 8) 0 0 0 0).cs := r8
  have rb8 := (rb7.later b8).step s8 hxb
  have rr8 := (rr7.later b8).step s8 hrb
  have S8 := (S7.next (Stp.of_below b8 (fun _ => False)) (fun _ h => h.elim)).next s8 (fun y hy => .inl (by subst hy; exact hgx))
  clear x8 r8 s8 rb7 rr7 S7 y7 b8
  rw [rounds_succ]
  go_wp2_with (first
    | (refine at_get 104 18 ar18 (by rfl) _ (by rfl) g1 (by rfl) l rb8 hl ?_)
    | (go_at_call 68; refine (pointerAt_any l 10 _ hl (by omega)).mono ?_; rintro e v9 ⟨rfl, b9⟩; have x9 := y8.later b9)
    | (refine at_setC 23 .u16 szU16 (by rfl) _ _ (by rfl) gx 5 (by rfl) _ (by rfl) _ x9 (by exact (show 5 < 9 by decide)) ?_; intro w9 r9 s9))
  have y9 : Cs w9 gx (Ino.mk c0 c1 (qt l 2) (pt l 6) (pt l 8) (pt l 10) 0 0 0).cs := r9
  have rb9 := (rb8.later b9).step s9 hxb
  have rr9 := (rr8.later b9).step s9 hrb
  have S9 := (S8.next (Stp.of_below b9 (fun _ => False)) (fun _ h => h.elim)).next s9 (fun y hy => .inl (by subst hy; exact hgx))
  clear x9 r9 s9 rb8 rr8 S8 y8 b9
  rw [rounds_succ]
  go_wp2_with (first
    | (refine at_get 104 18 ar18 (by rfl) _ (by rfl) g1 (by rfl) l rb9 hl ?_)
    | (go_at_call 68; refine (pointerAt_any l 12 _ hl (by omega)).mono ?_; rintro e v10 ⟨rfl, b10⟩; have x10 := y9.later b10)
    | (refine at_setC 23 .u16 szU16 (by rfl) _ _ (by rfl) gx 6 (by rfl) _ (by rfl) _ x10 (by exact (show 6 < 9 by decide)) ?_; intro w10 r10 s10))
  have y10 : Cs w10 gx (Ino.mk c0 c1 (qt l 2) (pt l 6) (pt l 8) (pt l 10) (pt l 12) 0 0).cs := r10
  have rb10 := (rb9.later b10).step s10 hxb
  have rr10 := (rr9.later b10).step s10 hrb
  have S10 := (S9.next (Stp.of_below b10 (fun _ => False)) (fun _ h => h.elim)).next s10 (fun y hy => .inl (by subst hy; exact hgx))
  clear x10 r10 s10 rb9 rr9 S9 y9 b10
  rw [rounds_succ]
  have t1 : True := trivial
  go_wp2_with (first
    | (have _t := t1; refine at_get 104 18 ar18 (by rfl) _ (by rfl) g1 (by rfl) l rb10 hl ?_; clear _t)
    | (have _t := t1; go_at_call 68; refine (pointerAt_any l 14 _ hl (by omega)).mono ?_; rintro e v11 ⟨rfl, b11⟩; have x11 := y10.later b11; clear _t t1)
    | (refine at_setC 23 .u16 szU16 (by rfl) _ _ (by rfl) gx 7 (by rfl) _ (by rfl) _ x11 (by exact (show 7 < 9 by decide)) ?_; intro w11 r11 s11
       have y11 : Cs w11 gx (Ino.mk c0 c1 (qt l 2) (pt l 6) (pt l 8) (pt l 10) (pt l 12) (pt l 14) 0).cs := r11
       have rb11 := (rb10.later b11).step s11 hxb
       have rr11 := (rr10.later b11).step s11 hrb
       have S11 := (S10.next (Stp.of_below b11 (fun _ => False)) (fun _ h => h.elim)).next s11 (fun y hy => .inl (by subst hy; exact hgx))
       clear x11 r11 s11 rb10 rr10 S10 y10 b11)
    | (refine at_get 104 18 ar18 (by rfl) _ (by rfl) g1 (by rfl) l rb11 hl ?_)
    | (go_at_call 68; refine (pointerAt_any l 16 _ hl (by omega)).mono ?_; rintro e v12 ⟨rfl, b12⟩; have x12 := y11.later b12)
    | (refine at_setC 23 .u16 szU16 (by rfl) _ _ (by rfl) gx 8 (by rfl) _ (by rfl) _ x12 (by exact (show 8 < 9 by decide)) ?_; intro w12 r12 s12
       have y12 : Cs w12 gx (Ino.mk c0 c1 (qt l 2) (pt l 6) (pt l 8) (pt l 10) (pt l 12) (pt l 14) (pt l 16)).cs := r12
       have rr12 := (rr11.later b12).step s12 hrb
       have S12 := (S11.next (Stp.of_below b12 (fun _ => False)) (fun _ h => h.elim)).next s12 (fun y hy => .inl (by subst hy; exact hgx))
       clear x12 r12 s12 rb11 rr11 S11 y11 b12)
    | (refine at_getI (by rfl) _ (by rfl) gx (by rfl) _ y12 ?_)
    | (refine at_putI (by rfl) _ _ (by rfl) gr (by rfl) _ (by rfl) Ino.zero rr12 ?_; intro w13 r13 s13))
  have S13 := S12.next s13 (fun y hy => .inl (by subst hy; exact hgr))
  refine bodyPost_ret (retC srtI Tryz.results40 rfl r13 rfl) rfl ⟨?_, S13.below (Nat.le_refl _) (fun _ h => h)⟩
  unfold gI
  rw [hc0.out, hc1.out]
theorem run_copyP (w : World) (tp : TypeId) (g off dLen dCap g2 o2 sLen sCap n : Nat) (l l2 : List UInt8) (hR : Row w g l) (hR2 : Row w g2 l2) (hn : n = Nat.min sLen dLen) (h2 : off + n ≤ l.length) (h3 : o2 + n ≤ l2.length) :
    (Builtin.copy_ #[105, 105] tp #[.slice (some ⟨g, off, none⟩) dLen dCap, .slice (some ⟨g2, o2, none⟩) sLen sCap]).run Tryz.prog w = .ok (goInt n) (w.setRow g (cells (splice l off ((l2.drop o2).take n))).toArray) := by
  have hlen : (cells ((l2.drop o2).take n)).length = n := by simp; omega
  obtain ⟨t, hg⟩ := hR
  have hrun := run_copy_row (P := Tryz.prog) w 105 105 tp 5 g off dLen dCap ⟨g2, o2, none⟩ sLen sCap (cells l).toArray t (cells ((l2.drop o2).take n)) (by kernel_rfl) (by kernel_rfl) hg
    (by rw [hlen]; exact hn) (fun j v hv => by
      have hj := (List.getElem?_eq_some_iff.1 hv).1
      rw [hlen] at hj
      have := hR2.range (o2 + j) v (by
        rw [List.getElem?_map, List.getElem?_take, if_pos hj, List.getElem?_drop] at hv
        rw [List.getElem?_map]; exact hv)
      rw [Addr.add_mid]; rwa [Nat.zero_add] at this) (by rw [hlen]; simpa using h2) (cells_one _)
  rw [hlen] at hrun
  have e : (List.take off (cells l).toArray.toList ++ cells ((l2.drop o2).take n) ++ List.drop (off + n) (cells l).toArray.toList) = cells (splice l off ((l2.drop o2).take n)) := by
    unfold splice
    have : ((l2.drop o2).take n).length = n := by simp; omega
    rw [this]; simp [cells]
  rw [e] at hrun
  exact hrun
theorem step_copyP {ops : Array Oper} {o : Oper} {a : Act} {w : World} {K : Act → World → Prop} {Q : Exit → Act → World → Prop} {E : Prop} (hgd : o.guard = none) (d s : Operand)
    (ho : o.op = .call { callee := .builtin .copy, args := #[d, s], argTypes := #[105, 105] }) (g off dLen dCap g2 o2 sLen sCap n : Nat)
    (hd : a.eval d = .slice (some ⟨g, off, none⟩) dLen dCap) (hs : a.eval s = .slice (some ⟨g2, o2, none⟩) sLen sCap) (l l2 : List UInt8) (hR : Row w g l) (hR2 : Row w g2 l2) (hn : n = Nat.min sLen dLen) (h2 : off + n ≤ l.length) (h3 : o2 + n ≤ l2.length)
    (h : ∀ w', Row w' g (splice l off ((l2.drop o2).take n)) → Stp (fun x => x = g) w w' → K (a.put o.dst (goInt n)) w') :
    if Region.wanted o (yielded ops a.tmps) = true then Oper.wp Tryz.prog o a w K Q else E := by
  have hw : Region.wanted o (yielded ops a.tmps) = true := by simp [Region.wanted, hgd]
  rw [if_pos hw]
  have hrun := run_copyP w o.type g off dLen dCap g2 o2 sLen sCap n l l2 hR hR2 hn h2 h3
  unfold Oper.wp
  simp only [execOp, ho, resolve, invoke, builtin]
  simp [hd, hs, hrun, Result.andThen]
  exact h _ (hR.setRow _) (stp_setRow _ _ _)
theorem at_copyP {ops : Array Oper} {rest : List Oper} {o : Oper} {a : Act} {w : World} {Q : Exit → Act → World → Prop} (hgd : o.guard = none) (d s : Operand)
    (ho : o.op = .call { callee := .builtin .copy, args := #[d, s], argTypes := #[105, 105] }) (g off dLen dCap g2 o2 sLen sCap n : Nat)
    (hd : a.eval d = .slice (some ⟨g, off, none⟩) dLen dCap) (hs : a.eval s = .slice (some ⟨g2, o2, none⟩) sLen sCap) (l l2 : List UInt8) (hR : Row w g l) (hR2 : Row w g2 l2) (hn : n = Nat.min sLen dLen) (h2 : off + n ≤ l.length) (h3 : o2 + n ≤ l2.length)
    (h : ∀ w', Row w' g (splice l off ((l2.drop o2).take n)) → Stp (fun x => x = g) w w' → wpList Tryz.prog ops Q rest (a.put o.dst (goInt n)) w') : wpList Tryz.prog ops Q (o :: rest) a w := by
  refine wpList_plain hgd fun K hK => ?_
  have hrun := run_copyP w o.type g off dLen dCap g2 o2 sLen sCap n l l2 hR hR2 hn h2 h3
  unfold Oper.wp
  simp only [execOp, ho, resolve, invoke, builtin]
  simp [hd, hs, hrun, Result.andThen]
  exact hK _ _ (h _ (hR.setRow _) (stp_setRow _ _ _))
theorem splice_all (l c : List UInt8) (h : c.length = l.length) : splice l 0 c = c := by
  unfold splice; rw [List.take_zero, List.nil_append, Nat.zero_add, h, List.drop_of_length_le (Nat.le_refl _), List.append_nil]
set_option maxRecDepth 100000
set_option maxRecDepth 100000 in
theorem iat_0 (p : Ld) (w : World) : Calls Tryz.prog 15 #[.agg p.cs.toArray, .int .i64 0] w fun e w' => e = .returned (.tuple #[.agg (gI (slot p 0)).cs.toArray, .int .i64 0]) ∧ Below w.heap.size w w' := by
  have hp := p.len
  have H1 := isSlot_any (0 : Int)
  rw [show decide (isSl (0 : Int)) = true from rfl] at H1
  have hwr : IntKind.i64.wrap 0 = 0 := rfl
  have hs := slot_len p 0 (by omega)
  go_enter Tryz.func15, Tryz.ntmps15
  go_wp2_with (first
    | (refine at_box 62 54 arrL (by rfl) _ (by rfl) p.l (by rfl) hp ?_; intro g1 w1 a1 z1 r1 b1)
    | (refine at_newI (by rfl) (by rfl) ?_; intro gr w2 a2 z2 r2 b2)
    | (go_at_call 39; refine (H1 _).mono ?_; rintro e u ⟨rfl, rfl⟩)
    | (refine at_new 104 18 ar18 (by rfl) (by rfl) ?_; intro gb w3 a3 z3 r3 b3))
  have rp := (r1.later b2).later b3
  have rr := r2.later b3
  have B3 := bnext (bnext b1 b2 (Nat.le_refl _)) b3 (Nat.le_refl _)
  have hgr : w.heap.size ≤ gr := by have := b1.size; omega
  have hgb : w.heap.size ≤ gb := by have := b1.size; have := b2.size; omega
  have hrb : ¬ gr = gb := by have := r2.lt; omega
  clear r1 r2 b1 b2 b3 a1 z1 a2 z2 a3 z3
  simp only [Act.put, List.setIfInBounds_toArray, List.set_cons_zero, List.set_cons_succ]
  go_region_law (refine step_copyP rfl (.tmp 11) (.tmp 14) rfl gb 0 18 18 g1 0 54 54 18 (by simp [Act.eval, Act.put]) (by simp [Act.eval, Act.put]) (List.replicate 18 0) p.l (r3.later (by go_grown)) (rp.later (by go_grown)) (by decide) (by simp) (by omega) ?_; intro w4 r4 s4)
  rw [splice_all _ _ (by simp; omega)] at r4
  have y4 : Row w4 gb (slot p 0) := r4
  have rr4 : Cs w4 gr Ino.zero.cs := (rr.later (w' := w3.drew) (by go_grown)).step s4 hrb
  have S4 : Stp (fun y => w.heap.size ≤ y) w w4 := (Stp.of_below B3 _).drew.next s4 (fun y hy => .inl (by subst hy; exact hgb))
  clear rp rr r3 B3 r4 s4
  go_wp2_with (first
    | (refine at_get 104 18 ar18 (by rfl) _ (by rfl) gb (by rfl) (slot p 0) y4 hs ?_)
    | (go_at_call 40; refine (iget_any (slot p 0) _ hs).mono ?_; rintro e w5 ⟨rfl, b5⟩)
    | (refine at_putI (by rfl) _ _ (by rfl) gr (by rfl) _ (by rfl) Ino.zero (rr4.later b5) ?_; intro w6 r6 s6))
  have S6 := (S4.next (Stp.of_below b5 (fun _ => False)) (fun _ h => h.elim)).next s6 (fun y hy => .inl (by subst hy; exact hgr))
  exact bodyPost_ret (retCt srtI Tryz.results15 rfl rfl r6 rfl) rfl ⟨rfl, S6.below (Nat.le_refl _) (fun _ h => h)⟩
set_option maxRecDepth 100000 in
theorem iat_1 (p : Ld) (w : World) : Calls Tryz.prog 15 #[.agg p.cs.toArray, .int .i64 1] w fun e w' => e = .returned (.tuple #[.agg (gI (slot p 1)).cs.toArray, .int .i64 0]) ∧ Below w.heap.size w w' := by
  have hp := p.len
  have H1 := isSlot_any (1 : Int)
  rw [show decide (isSl (1 : Int)) = true from rfl] at H1
  have hwr : IntKind.i64.wrap 18 = 18 := rfl
  have hs := slot_len p 1 (by omega)
  go_enter Tryz.func15, Tryz.ntmps15
  go_wp2_with (first
    | (refine at_box 62 54 arrL (by rfl) _ (by rfl) p.l (by rfl) hp ?_; intro g1 w1 a1 z1 r1 b1)
    | (refine at_newI (by rfl) (by rfl) ?_; intro gr w2 a2 z2 r2 b2)
    | (go_at_call 39; refine (H1 _).mono ?_; rintro e u ⟨rfl, rfl⟩)
    | (refine at_new 104 18 ar18 (by rfl) (by rfl) ?_; intro gb w3 a3 z3 r3 b3))
  have rp := (r1.later b2).later b3
  have rr := r2.later b3
  have B3 := bnext (bnext b1 b2 (Nat.le_refl _)) b3 (Nat.le_refl _)
  have hgr : w.heap.size ≤ gr := by have := b1.size; omega
  have hgb : w.heap.size ≤ gb := by have := b1.size; have := b2.size; omega
  have hrb : ¬ gr = gb := by have := r2.lt; omega
  clear r1 r2 b1 b2 b3 a1 z1 a2 z2 a3 z3
  simp only [Act.put, List.setIfInBounds_toArray, List.set_cons_zero, List.set_cons_succ]
  go_region_law (refine step_copyP rfl (.tmp 11) (.tmp 14) rfl gb 0 18 18 g1 18 36 36 18 (by simp [Act.eval, Act.put]) (by simp [Act.eval, Act.put]) (List.replicate 18 0) p.l (r3.later (by go_grown)) (rp.later (by go_grown)) (by decide) (by simp) (by omega) ?_; intro w4 r4 s4)
  rw [splice_all _ _ (by simp; omega)] at r4
  have y4 : Row w4 gb (slot p 1) := r4
  have rr4 : Cs w4 gr Ino.zero.cs := (rr.later (w' := w3.drew) (by go_grown)).step s4 hrb
  have S4 : Stp (fun y => w.heap.size ≤ y) w w4 := (Stp.of_below B3 _).drew.next s4 (fun y hy => .inl (by subst hy; exact hgb))
  clear rp rr r3 B3 r4 s4
  go_wp2_with (first
    | (refine at_get 104 18 ar18 (by rfl) _ (by rfl) gb (by rfl) (slot p 1) y4 hs ?_)
    | (go_at_call 40; refine (iget_any (slot p 1) _ hs).mono ?_; rintro e w5 ⟨rfl, b5⟩)
    | (refine at_putI (by rfl) _ _ (by rfl) gr (by rfl) _ (by rfl) Ino.zero (rr4.later b5) ?_; intro w6 r6 s6))
  have S6 := (S4.next (Stp.of_below b5 (fun _ => False)) (fun _ h => h.elim)).next s6 (fun y hy => .inl (by subst hy; exact hgr))
  exact bodyPost_ret (retCt srtI Tryz.results15 rfl rfl r6 rfl) rfl ⟨rfl, S6.below (Nat.le_refl _) (fun _ h => h)⟩
set_option maxRecDepth 100000 in
theorem iat_2 (p : Ld) (w : World) : Calls Tryz.prog 15 #[.agg p.cs.toArray, .int .i64 2] w fun e w' => e = .returned (.tuple #[.agg (gI (slot p 2)).cs.toArray, .int .i64 0]) ∧ Below w.heap.size w w' := by
  have hp := p.len
  have H1 := isSlot_any (2 : Int)
  rw [show decide (isSl (2 : Int)) = true from rfl] at H1
  have hwr : IntKind.i64.wrap 36 = 36 := rfl
  have hs := slot_len p 2 (by omega)
  go_enter Tryz.func15, Tryz.ntmps15
  go_wp2_with (first
    | (refine at_box 62 54 arrL (by rfl) _ (by rfl) p.l (by rfl) hp ?_; intro g1 w1 a1 z1 r1 b1)
    | (refine at_newI (by rfl) (by rfl) ?_; intro gr w2 a2 z2 r2 b2)
    | (go_at_call 39; refine (H1 _).mono ?_; rintro e u ⟨rfl, rfl⟩)
    | (refine at_new 104 18 ar18 (by rfl) (by rfl) ?_; intro gb w3 a3 z3 r3 b3))
  have rp := (r1.later b2).later b3
  have rr := r2.later b3
  have B3 := bnext (bnext b1 b2 (Nat.le_refl _)) b3 (Nat.le_refl _)
  have hgr : w.heap.size ≤ gr := by have := b1.size; omega
  have hgb : w.heap.size ≤ gb := by have := b1.size; have := b2.size; omega
  have hrb : ¬ gr = gb := by have := r2.lt; omega
  clear r1 r2 b1 b2 b3 a1 z1 a2 z2 a3 z3
  simp only [Act.put, List.setIfInBounds_toArray, List.set_cons_zero, List.set_cons_succ]
  go_region_law (refine step_copyP rfl (.tmp 11) (.tmp 14) rfl gb 0 18 18 g1 36 18 18 18 (by simp [Act.eval, Act.put]) (by simp [Act.eval, Act.put]) (List.replicate 18 0) p.l (r3.later (by go_grown)) (rp.later (by go_grown)) (by decide) (by simp) (by omega) ?_; intro w4 r4 s4)
  rw [splice_all _ _ (by simp; omega)] at r4
  have y4 : Row w4 gb (slot p 2) := r4
  have rr4 : Cs w4 gr Ino.zero.cs := (rr.later (w' := w3.drew) (by go_grown)).step s4 hrb
  have S4 : Stp (fun y => w.heap.size ≤ y) w w4 := (Stp.of_below B3 _).drew.next s4 (fun y hy => .inl (by subst hy; exact hgb))
  clear rp rr r3 B3 r4 s4
  go_wp2_with (first
    | (refine at_get 104 18 ar18 (by rfl) _ (by rfl) gb (by rfl) (slot p 2) y4 hs ?_)
    | (go_at_call 40; refine (iget_any (slot p 2) _ hs).mono ?_; rintro e w5 ⟨rfl, b5⟩)
    | (refine at_putI (by rfl) _ _ (by rfl) gr (by rfl) _ (by rfl) Ino.zero (rr4.later b5) ?_; intro w6 r6 s6))
  have S6 := (S4.next (Stp.of_below b5 (fun _ => False)) (fun _ h => h.elim)).next s6 (fun y hy => .inl (by subst hy; exact hgr))
  exact bodyPost_ret (retCt srtI Tryz.results15 rfl rfl r6 rfl) rfl ⟨rfl, S6.below (Nat.le_refl _) (fun _ h => h)⟩
theorem three {j : Int} (h : isSl j) : j = 0 ∨ j = 1 ∨ j = 2 := by have := h.1; have := h.2; omega
set_option maxRecDepth 100000 in
theorem iat_any (p : Ld) (k : Int) (w : World) : Calls Tryz.prog 15 #[.agg p.cs.toArray, .int .i64 k] w fun e w' => e = .returned (.tuple #[.agg (aI p k).cs.toArray, .int .i64 (slE k)]) ∧ Below w.heap.size w w' := by
  unfold aI slE
  by_cases h : isSl k
  · rw [if_pos h, if_pos h]
    rcases three h with rfl | rfl | rfl
    · exact iat_0 p w
    · exact iat_1 p w
    · exact iat_2 p w
  · rw [if_neg h, if_neg h]
    have hp := p.len
    have H1 := isSlot_any k
    rw [decide_eq_false h] at H1
    clear h
    go_enter Tryz.func15, Tryz.ntmps15
    go_wp2_with (first
      | (refine at_box 62 54 arrL (by rfl) _ (by rfl) p.l (by rfl) hp ?_; intro g1 w1 a1 z1 r1 b1)
      | (refine at_newI (by rfl) (by rfl) ?_; intro gr w2 a2 z2 r2 b2)
      | (go_at_call 39; refine (H1 _).mono ?_; rintro e u ⟨rfl, rfl⟩)
      | (refine at_bld0 (by rfl) (by rfl) ?_)
      | (refine at_putI (by rfl) _ _ (by rfl) gr (by rfl) Ino.zero (by rfl) Ino.zero r2 ?_; intro w6 r6 s6))
    have S6 : Stp (fun y => w.heap.size ≤ y) w w6 := (Stp.of_below (bnext b1 b2 (Nat.le_refl _)) _).next s6 (fun y hy => .inl (by subst hy; have := b1.size; omega))
    exact bodyPost_ret (retCt srtI Tryz.results15 rfl rfl r6 rfl) rfl ⟨rfl, S6.below (Nat.le_refl _) (fun _ h => h)⟩
end Go.Proofs.YtgdnhkdfcjpdiaaGreatDoor
