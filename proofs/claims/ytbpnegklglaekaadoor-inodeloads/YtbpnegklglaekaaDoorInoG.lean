/-
  What the document's Get of layer 10 returns, for any bytes: no statement is proved here.
-/
import Derived.Test.YtbpnegklglaekaaDoorInoD
namespace Go.Proofs.YtbpnegklglaekaaDoor
open Go.ChangeShapes Go.WideShapes Go.ChangeAt Go.RowKit
set_option linter.unusedVariables false

set_option maxRecDepth 100000 in
set_option maxHeartbeats 2000000 in
theorem riget_any (a : Option Addr) (c : Nat) (l : List UInt8) (w : World) (hl : l.length = 18) (hb : Bs w a 18 c (ints l)) : Calls Tryd.prog 14 #[.slice a 18 c] w fun e w' => e = .returned (.agg (gI l).cs.toArray) ∧ Below w.heap.size w w' := by
  obtain ⟨b, o, rfl, hc⟩ := hb.cell (by omega)
  have h0 := hc 0 (by omega)
  have h1 := hc 1 (by omega)
  rw [ints_getD] at h0 h1
  clear hc
  obtain ⟨c0, hc0⟩ : ∃ c, Hid (l.getD 0 0 = c) := ⟨_, rfl⟩
  obtain ⟨c1, hc1⟩ : ∃ c, Hid (l.getD 1 0 = c) := ⟨_, rfl⟩
  rw [hc0.out] at h0
  rw [hc1.out] at h1
  go_enter Tryd.func14, Tryd.ntmps14
  go_wp2_with (first
    | (refine at_newI (by rfl) (by rfl) ?_; intro gr W a2 z2 r2 b2))
  have hb2 := hb.later b2
  have hgr : w.heap.size ≤ gr := a2
  have k0 : ∀ u, Below W.heap.size W u → u.cell? ⟨b, o, none⟩ = some (.int .u8 (c0.toNat : Int)) := fun u hu => by
    obtain ⟨b', o', e, hc'⟩ := (hb2.later hu).cell (by omega)
    injection e with e; injection e with e1 e2; subst e1; subst e2
    have := hc' 0 (by omega)
    rw [ints_getD, hc0.out] at this; exact this
  have k1 : ∀ u, Below W.heap.size W u → u.cell? ⟨b, o + 1, none⟩ = some (.int .u8 (c1.toNat : Int)) := fun u hu => by
    obtain ⟨b', o', e, hc'⟩ := (hb2.later hu).cell (by omega)
    injection e with e; injection e with e1 e2; subst e1; subst e2
    have := hc' 1 (by omega)
    rw [ints_getD, hc1.out] at this; exact this
  clear h0 h1
  refine wp_region_held_drew (S := fun u => Below W.heap.size W u) (by kernel_rfl) (Below.refl _ _).drew (fun hHeld => ?_)
  refine wpAnyH_take (i := 0) (oi := { dst := some 5, op := Op.move (Operand.tmp 0), type := 32, pos := _, after := #[], guard := none }) (v := .slice (some ⟨b, o, none⟩) 18 c) rfl (by kernel_rfl) (by kernel_rfl) (by kernel_rfl) (fun _ _ _ h => h) (Or.inl ⟨by rfl, ?_⟩) hHeld ?_
  · intro u hu
    go_simp
  try simp only [Act.put, List.setIfInBounds_toArray, List.set_cons_zero, List.set_cons_succ]
  refine wpAnyH_take (i := 1) (oi := { dst := some 6, op := Op.indexAddr 32 (Operand.tmp 5) (Operand.const (Value.int IntKind.i64 0)), type := 0, pos := _, after := #[{ on := 0, ground := Ground.data }], guard := none }) (v := .pointer (some ⟨b, o, none⟩)) rfl (by kernel_rfl) (by kernel_rfl) (by kernel_rfl) (fun _ _ _ h => h) (Or.inl ⟨by rfl, ?_⟩) hHeld ?_
  · intro u hu
    go_simp
  try simp only [Act.put, List.setIfInBounds_toArray, List.set_cons_zero, List.set_cons_succ]
  refine wpAnyH_take (i := 2) (oi := { dst := some 7, op := Op.load 5 (Operand.tmp 6), type := 5, pos := _, after := #[{ on := 1, ground := Ground.data }], guard := none }) (v := .int .u8 (c0.toNat : Int)) rfl (by kernel_rfl) (by kernel_rfl) (by kernel_rfl) (fun _ _ _ h => h) (Or.inl ⟨by rfl, ?_⟩) hHeld ?_
  · intro u hu
    (have y := k0 u hu; go_simp)
  try simp only [Act.put, List.setIfInBounds_toArray, List.set_cons_zero, List.set_cons_succ]
  refine wpAnyH_take (i := 3) (oi := { dst := some 8, op := Op.move (Operand.tmp 0), type := 32, pos := _, after := #[], guard := none }) (v := .slice (some ⟨b, o, none⟩) 18 c) rfl (by kernel_rfl) (by kernel_rfl) (by kernel_rfl) (fun _ _ _ h => h) (Or.inl ⟨by rfl, ?_⟩) hHeld ?_
  · intro u hu
    go_simp
  try simp only [Act.put, List.setIfInBounds_toArray, List.set_cons_zero, List.set_cons_succ]
  refine wpAnyH_take (i := 4) (oi := { dst := some 9, op := Op.indexAddr 32 (Operand.tmp 8) (Operand.const (Value.int IntKind.i64 1)), type := 0, pos := _, after := #[{ on := 3, ground := Ground.data }], guard := none }) (v := .pointer (some ⟨b, o + 1, none⟩)) rfl (by kernel_rfl) (by kernel_rfl) (by kernel_rfl) (fun _ _ _ h => h) (Or.inl ⟨by rfl, ?_⟩) hHeld ?_
  · intro u hu
    go_simp
  try simp only [Act.put, List.setIfInBounds_toArray, List.set_cons_zero, List.set_cons_succ]
  refine wpAnyH_take (i := 5) (oi := { dst := some 10, op := Op.load 5 (Operand.tmp 9), type := 5, pos := _, after := #[{ on := 4, ground := Ground.data }], guard := none }) (v := .int .u8 (c1.toNat : Int)) rfl (by kernel_rfl) (by kernel_rfl) (by kernel_rfl) (fun _ _ _ h => h) (Or.inl ⟨by rfl, ?_⟩) hHeld ?_
  · intro u hu
    (have y := k1 u hu; go_simp)
  try simp only [Act.put, List.setIfInBounds_toArray, List.set_cons_zero, List.set_cons_succ]
  refine wpAnyH_take (i := 6) (oi := { dst := some 11, op := Op.build 26 #[(0, Operand.tmp 7), (1, Operand.tmp 10)], type := 26, pos := _, after := #[{ on := 2, ground := Ground.data }, { on := 5, ground := Ground.data }], guard := none }) (v := .agg (Ino.mk c0 c1 0 0 0 0 0 0 0).cs.toArray) rfl (by kernel_rfl) (by kernel_rfl) (by kernel_rfl) (fun _ _ _ h => h) (Or.inl ⟨by rfl, ?_⟩) hHeld ?_
  · intro u hu
    (simp [execOp, Act.eval, build2])
  try simp only [Act.put, List.setIfInBounds_toArray, List.set_cons_zero, List.set_cons_succ]
  refine wpAnyH_ready (rs := [7]) (by kernel_rfl) (by simp) ?_
  refine (AllReadyH.cons (o := { dst := some 3, op := Op.alloc 26, type := 0, pos := _, after := #[], guard := none }) rfl (fun K hK => ?_) AllReadyH.nil)
  refine step_newC 26 9 Ino.zero.cs srtI rfl rfl ?_
  intro gx v7 a7 z7 y7 b7
  have m7 : W.heap.size ≤ gx := Nat.le_trans hHeld.size a7
  refine hK.out _ _ (bnext hHeld b7 (Nat.le_refl _)) (fun hHeld => ?_)
  clear hK K
  try simp only [Act.put, List.setIfInBounds_toArray, List.set_cons_zero, List.set_cons_succ]
  refine wpAnyH_ready (rs := [8]) (by kernel_rfl) (by simp) ?_
  refine (AllReadyH.cons (o := { dst := none, op := Op.store 26 (Operand.tmp 3) (Operand.tmp 11), type := 0, pos := _, after := #[{ on := 7, ground := Ground.data }, { on := 6, ground := Ground.data }, { on := 0, ground := Ground.phase }, { on := 1, ground := Ground.phase }, { on := 2, ground := Ground.phase }, { on := 3, ground := Ground.phase }, { on := 4, ground := Ground.phase }, { on := 5, ground := Ground.phase }, { on := 6, ground := Ground.phase }, { on := 7, ground := Ground.phase }], guard := none }) rfl (fun K hK => ?_) AllReadyH.nil)
  refine step_putC 26 9 Ino.zero.cs srtI rfl (.tmp 3) (.tmp 11) rfl gx (by rfl) (Ino.mk c0 c1 0 0 0 0 0 0 0).cs (by rfl) rfl (Ino.cs_one _) _ y7 rfl ?_
  intro v8 y8 s8
  refine hK.out _ _ (((Stp.of_below hHeld (fun x => W.heap.size ≤ x)).next s8 (fun x hx => .inl (by subst hx; exact m7))).below (Nat.le_refl _) (fun _ h => h)) (fun hHeld => ?_)
  clear hK K
  try simp only [Act.put]
  refine wpAnyH_done (by kernel_rfl) ?_ _
  have rr8 := r2.later hHeld
  have hgx : w.heap.size ≤ gx := Nat.le_trans b2.size m7
  have hrb : ¬ gr = gx := by have := r2.lt; omega
  have S8 : Stp (fun y => w.heap.size ≤ y) w v8 := Stp.of_below (bnext b2 hHeld (Nat.le_refl _)) _
  have hb8 := hb.later (S8.below (Nat.le_refl _) (fun _ h => h))
  clear k0 k1 r2 b2 hb2 a7 z7 y7 b7 hHeld s8 m7 a2 z2
  go_wp2_with (first
    | (go_at_call 31; refine (rget32_w _ 18 c l 2 _ hb8 (by omega)).mono ?_; rintro e w5 ⟨rfl, rfl⟩)
    | (refine at_setC 22 .u32 szU32 (by rfl) _ _ (by rfl) gx 2 (by rfl) _ (by rfl) _ y8 (by exact (show 2 < 9 by decide)) ?_; intro w6 r6 s6))
  have rr6 := rr8.step s6 hrb
  have S6 := S8.next s6 (fun y hy => .inl (by subst hy; exact hgx))
  have hb6 := hb.later (S6.below (Nat.le_refl _) (fun _ h => h))
  have y6 : Cs w6 gx (Ino.mk c0 c1 (qt l 2) 0 0 0 0 0 0).cs := r6
  clear rr8 S8 hb8 y8 s6 r6
  refine wp_loop_rounds 5 ?_
  rw [rounds_succ]
  go_wp2_with (first
    | (go_at_call 32; refine (rget16_w _ 18 c l 6 _ hb6 (by omega)).mono ?_; rintro e v7 ⟨rfl, rfl⟩)
    | (refine at_setC 23 .u16 szU16 (by rfl) _ _ (by rfl) gx 3 (by rfl) _ (by rfl) _ y6 (by exact (show 3 < 9 by decide)) ?_; intro w7 r7 s7))
  have y7 : Cs w7 gx (Ino.mk c0 c1 (qt l 2) (pt l 6) 0 0 0 0 0).cs := r7
  have rr7 := rr6.step s7 hrb
  have S7 := S6.next s7 (fun y hy => .inl (by subst hy; exact hgx))
  have hb7 := hb.later (S7.below (Nat.le_refl _) (fun _ h => h))
  clear r7 s7 rr6 S6 y6 hb6
  rw [rounds_succ]
  go_wp2_with (first
    | (go_at_call 32; refine (rget16_w _ 18 c l 8 _ hb7 (by omega)).mono ?_; rintro e v8 ⟨rfl, rfl⟩)
    | (refine at_setC 23 .u16 szU16 (by rfl) _ _ (by rfl) gx 4 (by rfl) _ (by rfl) _ y7 (by exact (show 4 < 9 by decide)) ?_; intro w8 r8 s8))
  have y8 : Cs w8 gx (Ino.mk c0 c1 (qt l 2) (pt l 6) (pt l 8) 0 0 0 0).cs := r8
  have rr8 := rr7.step s8 hrb
  have S8 := S7.next s8 (fun y hy => .inl (by subst hy; exact hgx))
  have hb8 := hb.later (S8.below (Nat.le_refl _) (fun _ h => h))
  clear r8 s8 rr7 S7 y7 hb7
  rw [rounds_succ]
  go_wp2_with (first
    | (go_at_call 32; refine (rget16_w _ 18 c l 10 _ hb8 (by omega)).mono ?_; rintro e v9 ⟨rfl, rfl⟩)
    | (refine at_setC 23 .u16 szU16 (by rfl) _ _ (by rfl) gx 5 (by rfl) _ (by rfl) _ y8 (by exact (show 5 < 9 by decide)) ?_; intro w9 r9 s9))
  have y9 : Cs w9 gx (Ino.mk c0 c1 (qt l 2) (pt l 6) (pt l 8) (pt l 10) 0 0 0).cs := r9
  have rr9 := rr8.step s9 hrb
  have S9 := S8.next s9 (fun y hy => .inl (by subst hy; exact hgx))
  have hb9 := hb.later (S9.below (Nat.le_refl _) (fun _ h => h))
  clear r9 s9 rr8 S8 y8 hb8
  rw [rounds_succ]
  go_wp2_with (first
    | (go_at_call 32; refine (rget16_w _ 18 c l 12 _ hb9 (by omega)).mono ?_; rintro e v10 ⟨rfl, rfl⟩)
    | (refine at_setC 23 .u16 szU16 (by rfl) _ _ (by rfl) gx 6 (by rfl) _ (by rfl) _ y9 (by exact (show 6 < 9 by decide)) ?_; intro w10 r10 s10))
  have y10 : Cs w10 gx (Ino.mk c0 c1 (qt l 2) (pt l 6) (pt l 8) (pt l 10) (pt l 12) 0 0).cs := r10
  have rr10 := rr9.step s10 hrb
  have S10 := S9.next s10 (fun y hy => .inl (by subst hy; exact hgx))
  have hb10 := hb.later (S10.below (Nat.le_refl _) (fun _ h => h))
  clear r10 s10 rr9 S9 y9 hb9
  rw [rounds_succ]
  have t1 : True := trivial
  go_wp2_with (first
    | (have _t := t1; go_at_call 32; refine (rget16_w _ 18 c l 14 _ hb10 (by omega)).mono ?_; rintro e v11 ⟨rfl, rfl⟩; clear _t t1)
    | (refine at_setC 23 .u16 szU16 (by rfl) _ _ (by rfl) gx 7 (by rfl) _ (by rfl) _ y10 (by exact (show 7 < 9 by decide)) ?_; intro w11 r11 s11
       have y11 : Cs w11 gx (Ino.mk c0 c1 (qt l 2) (pt l 6) (pt l 8) (pt l 10) (pt l 12) (pt l 14) 0).cs := r11
       have rr11 := rr10.step s11 hrb
       have S11 := S10.next s11 (fun y hy => .inl (by subst hy; exact hgx))
       have hb11 := hb.later (S11.below (Nat.le_refl _) (fun _ h => h))
       clear r11 s11 rr10 S10 y10 hb10)
    | (go_at_call 32; refine (rget16_w _ 18 c l 16 _ hb11 (by omega)).mono ?_; rintro e v12 ⟨rfl, rfl⟩)
    | (refine at_setC 23 .u16 szU16 (by rfl) _ _ (by rfl) gx 8 (by rfl) _ (by rfl) _ y11 (by exact (show 8 < 9 by decide)) ?_; intro w12 r12 s12
       have y12 : Cs w12 gx (Ino.mk c0 c1 (qt l 2) (pt l 6) (pt l 8) (pt l 10) (pt l 12) (pt l 14) (pt l 16)).cs := r12
       have rr12 := rr11.step s12 hrb
       have S12 := S11.next s12 (fun y hy => .inl (by subst hy; exact hgx))
       clear r12 s12 rr11 S11 y11 hb11)
    | (refine at_getI (by rfl) _ (by rfl) gx (by rfl) _ y12 ?_)
    | (refine at_putI (by rfl) _ _ (by rfl) gr (by rfl) _ (by rfl) Ino.zero rr12 ?_; intro w13 r13 s13))
  have S13 := S12.next s13 (fun y hy => .inl (by subst hy; exact hgr))
  refine bodyPost_ret (retC srtI Tryd.results14 rfl r13 rfl) rfl ⟨?_, S13.below (Nat.le_refl _) (fun _ h => h)⟩
  unfold gI
  rw [hc0.out, hc1.out]
end Go.Proofs.YtbpnegklglaekaaDoor
