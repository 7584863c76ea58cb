/-
  What Head and HeadRight of layer 9, and the document's, return, for every input: no statement is proved here.
-/
import Derived.Test.YthanenbjfcndbaaMapA
namespace Go.Proofs.Ythanenbjfcndbaa
open Go.ChangeShapes Go.WideShapes Go.ChangeAt Go.RowKit
set_option linter.unusedVariables false

theorem arr2 : Arr 45 2 := ⟨by kernel_rfl, by kernel_rfl, fun w => (zero_of_info (v := .agg (cells (List.replicate 2 0)).toArray) (n := 2) (by kernel_rfl)).1 w⟩
theorem cells_two {g : Nat} (h : g < 8) : cells [UInt8.ofNat g, 0] = [.int .u8 ((g : Int) % 256), .int .u8 ((g : Int) / 256)] := by
  simp only [cells, List.map_cons, List.map_nil, Extern.Stop.cell]
  rw [u8_to (by omega)]
  rw [show (g : Int) % 256 = (g : Int) by omega, show (g : Int) / 256 = 0 by omega]; rfl
theorem head_lay (g : Nat) (h : g < 8) : splice (List.replicate 54 0) 0 ([UInt8.ofNat g, 0].take 2) = (hL g).l := by
  unfold hL
  rw [if_pos (show grp (g : Int) by unfold grp; omega)]
  rfl
set_option maxRecDepth 100000 in
set_option maxHeartbeats 1000000 in
theorem mhead_ok (g : Nat) (w : World) (h : g < 8) :
    Calls Try.prog 8 #[.int .i64 g] w fun e w' => e = .returned (.tuple #[.agg (hL g).cs.toArray, .int .i64 0]) ∧ Below w.heap.size w w' := by
  have hq := (hL g).len
  have hlay := head_lay g h
  generalize hL g = q at *
  have hc : Hid _ := cells_two h
  have t1 : True := trivial
  have ew : IntKind.u16.wrap (g : Int) = (g : Int) := by rw [IntKind.wrap_u16]; omega
  go_enter Try.func8, Try.ntmps8
  go_wp2_with (first
    | (have _t := t1; refine at_new 23 54 arrL (by rfl) (by rfl) ?_; intro gr w1 a1 z1 r1 b1; clear _t t1)
    | (refine at_new 23 54 arrL (by rfl) (by rfl) ?_; intro gp w2 a2 z2 r2 b2)
    | (go_at_call 26; refine (put16_any (g : Int) w2 (by omega) (by omega)).mono ?_; rintro e w3 ⟨rfl, b3⟩)
    | (refine at_new 45 2 arr2 (by rfl) (by rfl) ?_; intro gn w4 a4 z4 r4 b4)
    | (refine at_put 45 2 arr2 (by rfl) _ _ (by rfl) gn (by rfl) [UInt8.ofNat g, 0] (by rw [hc.out]; rfl) (by rfl) _ r4 (by simp) ?_; intro w5 r5 s5))
  have rp : Row w5 gp (List.replicate 54 0) := ((r2.later b3).later b4).step s5 (by have := b3.size; omega)
  have rr : Row w5 gr (List.replicate 54 0) := (((r1.later b2).later b3).later b4).step s5 (by have := b2.size; have := b3.size; omega)
  have S5 : Stp (fun x => w.heap.size ≤ x) w w5 := (Stp.of_below (bnext (bnext (bnext b1 b2 (Nat.le_refl _)) b3 (Nat.le_refl _)) b4 (Nat.le_refl _)) (fun x => w.heap.size ≤ x)).next s5 (fun x hx => .inl (by subst hx; have := b1.size; have := b2.size; have := b3.size; omega))
  have hgp : w.heap.size ≤ gp := by have := b1.size; omega
  have hne : gr ≠ gp := by omega
  clear r1 r2 r4 b1 b2 b3 b4 s5 a2 a4 z1 z2 z4 hc
  go_region_law (refine step_copyR rfl (.tmp 16) (.tmp 17) rfl gp 0 54 54 gn 2 2 (by simp [Act.eval, Act.put]) (by simp [Act.eval, Act.put]) (List.replicate 54 0) [UInt8.ofNat g, 0] (rp.later (by go_grown)) (r5.later (by go_grown)) (by omega) (by simp) (by simp) ?_; intro w6 r6 s6)
  rw [hlay] at r6
  have rr6 : Row w6 gr (List.replicate 54 0) := (rr.later (Below.refl _ _).drew).step s6 hne
  have S6 := S5.drew.next s6 (fun x hx => .inl (by subst hx; exact hgp))
  clear rr rp r5 S5 s6
  go_wp2_with (first
    | (refine at_getL (by rfl) _ (by rfl) gp (by rfl) q r6 ?_)
    | (refine at_put 23 54 arrL (by rfl) _ _ (by rfl) gr (by rfl) q.l (by rfl) hq _ rr6 (by simp) ?_; intro w8 r8 s8))
  have S8 := S6.next s8 (fun x hx => .inl (by subst hx; exact a1))
  exact bodyPost_ret (retAt arrL Try.results8 rfl rfl r8 hq) rfl ⟨rfl, S8.below (Nat.le_refl _) (fun _ h => h)⟩
set_option maxRecDepth 100000 in
set_option maxHeartbeats 1000000 in
theorem mhead_any (g : Int) (w : World) :
    Calls Try.prog 8 #[.int .i64 g] w fun e w' => e = .returned (.tuple #[.agg (hL g).cs.toArray, .int .i64 (hE g)]) ∧ Below w.heap.size w w' := by
  by_cases h : grp g
  · obtain ⟨j, rfl⟩ := Int.eq_ofNat_of_zero_le h.1
    rw [show hE j = 0 from if_pos h]
    exact mhead_ok j w (by have := h.2; omega)
  · have hE' : Hid (hL g = Ld.zero ∧ hE g = 2) := ⟨if_neg h, if_neg h⟩
    have hway : g < 0 ∨ (¬ g < 0 ∧ g ≥ 8) := by unfold grp at h; omega
    clear h
    rcases hway with h | ⟨h0, h⟩
    all_goals
      go_enter Try.func8, Try.ntmps8
      go_wp2_with (first
        | (refine at_new 23 54 arrL (by rfl) (by rfl) ?_; intro gr w1 a1 z1 r1 b1)
        | (refine at_bldL (by rfl) (by rfl) ?_)
        | (refine at_put 23 54 arrL (by rfl) _ _ (by rfl) gr (by rfl) Ld.zero.l (by rfl) (by rfl) _ r1 (by simp) ?_; intro w8 r8 s8))
      have S8 := (Stp.of_below b1 (fun x => w.heap.size ≤ x)).next s8 (fun x hx => .inl (by subst hx; exact a1))
      refine bodyPost_ret (retAt arrL Try.results8 rfl rfl r8 (by rfl)) rfl ⟨?_, S8.below (Nat.le_refl _) (fun _ h => h)⟩
      rw [hE'.out.1, hE'.out.2]; rfl
theorem rhead_lay (g : Nat) (h : g < 8) : (List.replicate 54 0).set 0 (UInt8.ofNat g) = (hL g).l := by
  unfold hL
  rw [if_pos (show grp (g : Int) by unfold grp; omega)]
  rfl
set_option maxRecDepth 100000 in
set_option maxHeartbeats 1000000 in
theorem rmhead_ok (g : Nat) (w : World) (h : g < 8) :
    Calls Try.prog 9 #[.int .i64 g] w fun e w' => e = .returned (.tuple #[.agg (hL g).cs.toArray, .int .i64 0]) ∧ Below w.heap.size w w' := by
  have hq := (hL g).len
  have hlay := rhead_lay g h
  generalize hL g = q at *
  have t1 : True := trivial
  have h8 : Hid ((g : Int) = ((UInt8.ofNat g).toNat : Int)) := by show _ = _; rw [u8_to (by omega)]
  have ew : IntKind.u8.wrap (g : Int) = (g : Int) := by rw [IntKind.wrap_u8]; omega
  go_enter Try.func9, Try.ntmps9
  go_wp2_with (first
    | (have _t := t1; refine at_new 23 54 arrL (by rfl) (by rfl) ?_; intro gr w1 a1 z1 r1 b1; clear _t t1)
    | (refine at_bldL (by rfl) (by rfl) ?_)
    | (refine at_new 23 54 arrL (by rfl) (by rfl) ?_; intro gp w2 a2 z2 r2 b2)
    | (refine at_put 23 54 arrL (by rfl) _ _ (by rfl) gp (by rfl) Ld.zero.l (by rfl) (by rfl) _ r2 (by simp) ?_; intro w3 r3 s3
       have rr : Row w3 gr (List.replicate 54 0) := (r1.later b2).step s3 (by omega)
       have S3 := (Stp.of_below (bnext b1 b2 (Nat.le_refl _)) (fun x => w.heap.size ≤ x)).next s3 (fun x hx => .inl (by subst hx; have := b1.size; omega))
       clear r1 r2)
    | (refine at_byte (by rfl) _ _ (by rfl) gp 0 (by rfl) (UInt8.ofNat g) _ (by rfl) h8.out _ r3 (by decide) ?_; intro w4 r4 s4
       have e4 : Row w4 gp q.l := (by rw [← hlay]; exact r4)
       have rr4 : Row w4 gr (List.replicate 54 0) := rr.step s4 (by omega)
       have S4 := S3.next s4 (fun x hx => .inl (by subst hx; have := b1.size; omega)))
    | (refine at_getL (by rfl) _ (by rfl) gp (by rfl) q e4 ?_)
    | (refine at_put 23 54 arrL (by rfl) _ _ (by rfl) gr (by rfl) q.l (by rfl) hq _ rr4 (by simp) ?_; intro w8 r8 s8))
  have S8 := S4.next s8 (fun x hx => .inl (by subst hx; exact a1))
  exact bodyPost_ret (retAt arrL Try.results9 rfl rfl r8 hq) rfl ⟨rfl, S8.below (Nat.le_refl _) (fun _ h => h)⟩
set_option maxRecDepth 100000 in
set_option maxHeartbeats 1000000 in
theorem rmhead_any (g : Int) (w : World) :
    Calls Try.prog 9 #[.int .i64 g] w fun e w' => e = .returned (.tuple #[.agg (hL g).cs.toArray, .int .i64 (hE g)]) ∧ Below w.heap.size w w' := by
  by_cases h : grp g
  · obtain ⟨j, rfl⟩ := Int.eq_ofNat_of_zero_le h.1
    rw [show hE j = 0 from if_pos h]
    exact rmhead_ok j w (by have := h.2; omega)
  · have hE' : Hid (hL g = Ld.zero ∧ hE g = 2) := ⟨if_neg h, if_neg h⟩
    have hway : g < 0 ∨ (¬ g < 0 ∧ g > 7) := by unfold grp at h; omega
    clear h
    rcases hway with h | ⟨h0, h⟩
    all_goals
      have t1 : True := trivial
      go_enter Try.func9, Try.ntmps9
      go_wp2_with (first
        | (have _t := t1; refine at_new 23 54 arrL (by rfl) (by rfl) ?_; intro gr w1 a1 z1 r1 b1; clear _t t1)
        | (refine at_bldL (by rfl) (by rfl) ?_)
        | (refine at_new 23 54 arrL (by rfl) (by rfl) ?_; intro gp w2 a2 z2 r2 b2)
        | (refine at_put 23 54 arrL (by rfl) _ _ (by rfl) gp (by rfl) Ld.zero.l (by rfl) (by rfl) _ r2 (by simp) ?_; intro w3 r3 s3
           have rr : Row w3 gr (List.replicate 54 0) := (r1.later b2).step s3 (by omega)
           have S3 := (Stp.of_below (bnext b1 b2 (Nat.le_refl _)) (fun x => w.heap.size ≤ x)).next s3 (fun x hx => .inl (by subst hx; have := b1.size; omega))
           clear r1 r2)
        | (refine at_getL (by rfl) _ (by rfl) gp (by rfl) Ld.zero r3 ?_)
        | (refine at_put 23 54 arrL (by rfl) _ _ (by rfl) gr (by rfl) Ld.zero.l (by rfl) (by rfl) _ rr (by simp) ?_; intro w8 r8 s8))
      have S8 := S3.next s8 (fun x hx => .inl (by subst hx; exact a1))
      refine bodyPost_ret (retAt arrL Try.results9 rfl rfl r8 (by rfl)) rfl ⟨?_, S8.below (Nat.le_refl _) (fun _ h => h)⟩
      rw [hE'.out.1, hE'.out.2]; rfl
/-- How a load is a group's head, or is none. -/
theorem hR_ways (p : Ld) (g : Int) : (hE g = 2 ∧ hR p g = false) ∨ (hE g = 0 ∧ decide (p = hL g) = false ∧ hR p g = false) ∨ (hE g = 0 ∧ decide (p = hL g) = true ∧ hR p g = true) := by
  unfold hE hR
  by_cases h : grp g
  · rw [if_pos h]
    by_cases e : p = hL g
    · exact .inr (.inr ⟨rfl, by simp [e], by simp [h, e]⟩)
    · exact .inr (.inl ⟨rfl, by simp [e], by simp [e]⟩)
  · rw [if_neg h]; exact .inl ⟨rfl, by simp [h]⟩
set_option maxRecDepth 100000 in
set_option maxHeartbeats 1000000 in
theorem headRight_any (p : Ld) (g : Int) (w : World) :
    Calls Try.prog 16 #[.agg p.cs.toArray, .int .i64 g] w fun e w' => e = .returned (.bool (hR p g)) ∧ Below w.heap.size w w' := by
  have hp := p.len
  have hq := (hL g).len
  have hway := hR_ways p g
  have heq := eqL p (hL g)
  have hgl := guardL
  have H1 : Hid _ := fun w => mhead_any g w
  generalize hL g = q at *
  generalize hE g = e0 at *
  generalize decide (p = q) = dd at *
  rcases hway with ⟨rfl, h1⟩ | ⟨rfl, rfl, h1⟩ | ⟨rfl, rfl, h1⟩
  all_goals
    have hE' : Hid (hR p g = _) := h1
    clear h1
    go_enter Try.func16, Try.ntmps16
    go_wp2_with (first
      | (refine at_box 23 54 arrL (by rfl) _ (by rfl) p.l (by rfl) hp ?_; intro g0 w0 a0 z0 r0 b0)
      | (go_at_call 8; refine (H1.out _).mono ?_; rintro e w1 ⟨rfl, b1⟩)
      | (refine at_new 23 54 arrL (by rfl) (by rfl) ?_; intro gq w2 a2 z2 r2 b2)
      | (refine at_put 23 54 arrL (by rfl) _ _ (by rfl) gq (by rfl) q.l (by rfl) hq _ r2 (by simp) ?_; intro w3 r3 s3
         have rp : Row w3 g0 p.l := ((r0.later b1).later b2).step s3 (by have := b1.size; omega)
         have S3 := (Stp.of_below (bnext (bnext b0 b1 (Nat.le_refl _)) b2 (Nat.le_refl _)) (fun x => w.heap.size ≤ x)).next s3 (fun x hx => .inl (by subst hx; have := b0.size; have := b1.size; omega)))
      | (refine at_getL (by rfl) _ (by rfl) g0 (by rfl) p rp ?_)
      | (refine at_getL (by rfl) _ (by rfl) gq (by rfl) q r3 ?_))
    go_returns
    refine ⟨?_, S3.below (Nat.le_refl _) (fun _ h => h)⟩
    rw [hE'.out]; rfl
set_option maxRecDepth 100000 in
set_option maxHeartbeats 1000000 in
theorem rheadRight_any (p : Ld) (g : Int) (w : World) :
    Calls Try.prog 17 #[.agg p.cs.toArray, .int .i64 g] w fun e w' => e = .returned (.bool (hR p g)) ∧ Below w.heap.size w w' := by
  have hp := p.len
  have hq := (hL g).len
  have hway := hR_ways p g
  have heq := eqL p (hL g)
  have hgl := guardL
  have H1 : Hid _ := fun w => rmhead_any g w
  generalize hL g = q at *
  generalize hE g = e0 at *
  generalize decide (p = q) = dd at *
  rcases hway with ⟨rfl, h1⟩ | ⟨rfl, rfl, h1⟩ | ⟨rfl, rfl, h1⟩
  all_goals
    have hE' : Hid (hR p g = _) := h1
    clear h1
    go_enter Try.func17, Try.ntmps17
    go_wp2_with (first
      | (refine at_box 23 54 arrL (by rfl) _ (by rfl) p.l (by rfl) hp ?_; intro g0 w0 a0 z0 r0 b0)
      | (go_at_call 9; refine (H1.out _).mono ?_; rintro e w1 ⟨rfl, b1⟩)
      | (refine at_new 23 54 arrL (by rfl) (by rfl) ?_; intro gq w2 a2 z2 r2 b2)
      | (refine at_put 23 54 arrL (by rfl) _ _ (by rfl) gq (by rfl) q.l (by rfl) hq _ r2 (by simp) ?_; intro w3 r3 s3
         have rp : Row w3 g0 p.l := ((r0.later b1).later b2).step s3 (by have := b1.size; omega)
         have S3 := (Stp.of_below (bnext (bnext b0 b1 (Nat.le_refl _)) b2 (Nat.le_refl _)) (fun x => w.heap.size ≤ x)).next s3 (fun x hx => .inl (by subst hx; have := b0.size; have := b1.size; omega)))
      | (refine at_getL (by rfl) _ (by rfl) g0 (by rfl) p rp ?_)
      | (refine at_getL (by rfl) _ (by rfl) gq (by rfl) q r3 ?_))
    go_returns
    refine ⟨?_, S3.below (Nat.le_refl _) (fun _ h => h)⟩
    rw [hE'.out]; rfl
end Go.Proofs.Ythanenbjfcndbaa
