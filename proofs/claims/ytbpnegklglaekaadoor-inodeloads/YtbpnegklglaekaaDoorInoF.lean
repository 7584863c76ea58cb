/-
  What Get of layer 10 returns, for any bytes: no statement is proved here.
-/
import Derived.Test.YtbpnegklglaekaaDoorInoD
namespace Go.Proofs.YtbpnegklglaekaaDoor
open Go.ChangeShapes Go.WideShapes Go.ChangeAt Go.RowKit
set_option linter.unusedVariables false

set_option maxRecDepth 100000 in
set_option maxHeartbeats 2000000 in
theorem iget_any (l : List UInt8) (w : World) (hl : l.length = 18) : Calls Tryd.prog 13 #[.agg (cells l).toArray] w fun e w' => e = .returned (.agg (gI l).cs.toArray) ∧ Below w.heap.size w w' := by
  have t1 : True := trivial
  obtain ⟨c0, hc0⟩ : ∃ c, Hid (l.getD 0 0 = c) := ⟨_, rfl⟩
  obtain ⟨c1, hc1⟩ : ∃ c, Hid (l.getD 1 0 = c) := ⟨_, rfl⟩
  go_enter Tryd.func13, Tryd.ntmps13
  go_wp2_with (first
    | (refine at_box 27 18 ar18 (by rfl) _ (by rfl) l (by rfl) hl ?_; intro g1 w1 a1 z1 r1 b1)
    | (have _t := t1; refine at_newI (by rfl) (by rfl) ?_; intro gr w2 a2 z2 r2 b2
       have q0 := (r1.later b2).cell 0 (by omega)
       have q1 := (r1.later b2).cell 1 (by omega)
       rw [hc0.out] at q0
       rw [hc1.out] at q1
       clear _t t1)
    | (refine at_bld2 (by rfl) _ _ (by rfl) c0 c1 (by rfl) (by rfl) ?_)
    | (refine at_newI (by rfl) (by rfl) ?_; intro gx w3 a3 z3 r3 b3)
    | (refine at_putI (by rfl) _ _ (by rfl) gx (by rfl) _ (by rfl) Ino.zero r3 ?_; intro W r4 s4
       have rb : Row W g1 l := ((r1.later b2).later b3).step s4 (by have := r1.lt; have := b2.size; omega)
       have rr : Cs W gr Ino.zero.cs := (r2.later b3).step s4 (by have := r2.lt; omega)
       have hgr : w.heap.size ≤ gr := (by have := b1.size; omega)
       have hgx : w.heap.size ≤ gx := (by have := b1.size; have := b2.size; omega)
       have hxb : ¬ g1 = gx := (by have := r1.lt; have := b2.size; omega)
       have hrb : ¬ gr = gx := (by have := r2.lt; omega)
       have S4 : Stp (fun y => w.heap.size ≤ y) w W := (Stp.of_below (bnext (bnext b1 b2 (Nat.le_refl _)) b3 (Nat.le_refl _)) _).next s4 (fun y hy => .inl (by subst hy; exact hgx))
       have yb := rb.bs0 18 18 (by omega) (Nat.le_refl _) (by decide)
       rw [List.take_of_length_le (by omega)] at yb
       clear r1 r2 r3 b1 b2 b3 s4 q0 q1 a1 z1 a2 z2 a3 z3)
    | (go_at_call 29; refine (get32_w _ 18 18 l 2 _ yb (by omega)).mono ?_; rintro e w5 ⟨rfl, rfl⟩)
    | (refine at_setC 22 .u32 szU32 (by rfl) _ _ (by rfl) gx 2 (by rfl) _ (by rfl) _ r4 (by exact (show 2 < 9 by decide)) ?_; intro w6 r6 s6
       have rb6 := rb.step s6 hxb
       have rr6 := rr.step s6 hrb
       have S6 := S4.next s6 (fun y hy => .inl (by subst hy; exact hgx))
       clear rb rr S4 s6 r4 yb))
  have y6 : Cs w6 gx (Ino.mk c0 c1 (qt l 2) 0 0 0 0 0 0).cs := r6
  clear r6
  refine wp_loop_rounds 5 ?_
  rw [rounds_succ]
  go_wp2_with (first
    | (refine at_get 27 18 ar18 (by rfl) _ (by rfl) g1 (by rfl) l rb6 hl ?_)
    | (go_at_call 30; refine (pointerAt_any l 6 _ hl (by omega)).mono ?_; rintro e v7 ⟨rfl, b7⟩; have x7 := y6.later b7)
    | (refine at_setC 23 .u16 szU16 (by rfl) _ _ (by rfl) gx 3 (by rfl) _ (by rfl) _ x7 (by exact (show 3 < 9 by decide)) ?_; intro w7 r7 s7))
  have y7 : Cs w7 gx (Ino.mk c0 c1 (qt l 2) (pt l 6) 0 0 0 0 0).cs := r7
  have rb7 := (rb6.later b7).step s7 hxb
  have rr7 := (rr6.later b7).step s7 hrb
  have S7 := (S6.next (Stp.of_below b7 (fun _ => False)) (fun _ h => h.elim)).next s7 (fun y hy => .inl (by subst hy; exact hgx))
  clear x7 r7 s7 rb6 rr6 S6 y6 b7
  rw [rounds_succ]
  go_wp2_with (first
    | (refine at_get 27 18 ar18 (by rfl) _ (by rfl) g1 (by rfl) l rb7 hl ?_)
    | (go_at_call 30; refine (pointerAt_any l 8 _ hl (by omega)).mono ?_; rintro e v8 ⟨rfl, b8⟩; have x8 := y7.later b8)
    | (refine at_setC 23 .u16 szU16 (by rfl) _ _ (by rfl) gx 4 (by rfl) _ (by rfl) _ x8 (by exact (show 4 < 9 by decide)) ?_; intro w8 r8 s8))
  have y8 : Cs w8 gx (Ino.mk c0 c1 (qt l 2) (pt l 6) (pt l 8) 0 0 0 0).cs := r8
  have rb8 := (rb7.later b8).step s8 hxb
  have rr8 := (rr7.later b8).step s8 hrb
  have S8 := (S7.next (Stp.of_below b8 (fun _ => False)) (fun _ h => h.elim)).next s8 (fun y hy => .inl (by subst hy; exact hgx))
  clear x8 r8 s8 rb7 rr7 S7 y7 b8
  rw [rounds_succ]
  go_wp2_with (first
    | (refine at_get 27 18 ar18 (by rfl) _ (by rfl) g1 (by rfl) l rb8 hl ?_)
    | (go_at_call 30; refine (pointerAt_any l 10 _ hl (by omega)).mono ?_; rintro e v9 ⟨rfl, b9⟩; have x9 := y8.later b9)
    | (refine at_setC 23 .u16 szU16 (by rfl) _ _ (by rfl) gx 5 (by rfl) _ (by rfl) _ x9 (by exact (show 5 < 9 by decide)) ?_; intro w9 r9 s9))
  have y9 : Cs w9 gx (Ino.mk c0 c1 (qt l 2) (pt l 6) (pt l 8) (pt l 10) 0 0 0).cs := r9
  have rb9 := (rb8.later b9).step s9 hxb
  have rr9 := (rr8.later b9).step s9 hrb
  have S9 := (S8.next (Stp.of_below b9 (fun _ => False)) (fun _ h => h.elim)).next s9 (fun y hy => .inl (by subst hy; exact hgx))
  clear x9 r9 s9 rb8 rr8 S8 y8 b9
  rw [rounds_succ]
  go_wp2_with (first
    | (refine at_get 27 18 ar18 (by rfl) _ (by rfl) g1 (by rfl) l rb9 hl ?_)
    | (go_at_call 30; refine (pointerAt_any l 12 _ hl (by omega)).mono ?_; rintro e v10 ⟨rfl, b10⟩; have x10 := y9.later b10)
    | (refine at_setC 23 .u16 szU16 (by rfl) _ _ (by rfl) gx 6 (by rfl) _ (by rfl) _ x10 (by exact (show 6 < 9 by decide)) ?_; intro w10 r10 s10))
  have y10 : Cs w10 gx (Ino.mk c0 c1 (qt l 2) (pt l 6) (pt l 8) (pt l 10) (pt l 12) 0 0).cs := r10
  have rb10 := (rb9.later b10).step s10 hxb
  have rr10 := (rr9.later b10).step s10 hrb
  have S10 := (S9.next (Stp.of_below b10 (fun _ => False)) (fun _ h => h.elim)).next s10 (fun y hy => .inl (by subst hy; exact hgx))
  clear x10 r10 s10 rb9 rr9 S9 y9 b10
  rw [rounds_succ]
  have t1 : True := trivial
  go_wp2_with (first
    | (have _t := t1; refine at_get 27 18 ar18 (by rfl) _ (by rfl) g1 (by rfl) l rb10 hl ?_; clear _t)
    | (have _t := t1; go_at_call 30; refine (pointerAt_any l 14 _ hl (by omega)).mono ?_; rintro e v11 ⟨rfl, b11⟩; have x11 := y10.later b11; clear _t t1)
    | (refine at_setC 23 .u16 szU16 (by rfl) _ _ (by rfl) gx 7 (by rfl) _ (by rfl) _ x11 (by exact (show 7 < 9 by decide)) ?_; intro w11 r11 s11
       have y11 : Cs w11 gx (Ino.mk c0 c1 (qt l 2) (pt l 6) (pt l 8) (pt l 10) (pt l 12) (pt l 14) 0).cs := r11
       have rb11 := (rb10.later b11).step s11 hxb
       have rr11 := (rr10.later b11).step s11 hrb
       have S11 := (S10.next (Stp.of_below b11 (fun _ => False)) (fun _ h => h.elim)).next s11 (fun y hy => .inl (by subst hy; exact hgx))
       clear x11 r11 s11 rb10 rr10 S10 y10 b11)
    | (refine at_get 27 18 ar18 (by rfl) _ (by rfl) g1 (by rfl) l rb11 hl ?_)
    | (go_at_call 30; refine (pointerAt_any l 16 _ hl (by omega)).mono ?_; rintro e v12 ⟨rfl, b12⟩; have x12 := y11.later b12)
    | (refine at_setC 23 .u16 szU16 (by rfl) _ _ (by rfl) gx 8 (by rfl) _ (by rfl) _ x12 (by exact (show 8 < 9 by decide)) ?_; intro w12 r12 s12
       have y12 : Cs w12 gx (Ino.mk c0 c1 (qt l 2) (pt l 6) (pt l 8) (pt l 10) (pt l 12) (pt l 14) (pt l 16)).cs := r12
       have rr12 := (rr11.later b12).step s12 hrb
       have S12 := (S11.next (Stp.of_below b12 (fun _ => False)) (fun _ h => h.elim)).next s12 (fun y hy => .inl (by subst hy; exact hgx))
       clear x12 r12 s12 rb11 rr11 S11 y11 b12)
    | (refine at_getI (by rfl) _ (by rfl) gx (by rfl) _ y12 ?_)
    | (refine at_putI (by rfl) _ _ (by rfl) gr (by rfl) _ (by rfl) Ino.zero rr12 ?_; intro w13 r13 s13))
  have S13 := S12.next s13 (fun y hy => .inl (by subst hy; exact hgr))
  refine bodyPost_ret (retC srtI Tryd.results13 rfl r13 rfl) rfl ⟨?_, S13.below (Nat.le_refl _) (fun _ h => h)⟩
  unfold gI
  rw [hc0.out, hc1.out]
end Go.Proofs.YtbpnegklglaekaaDoor
