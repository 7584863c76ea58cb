/-
  What Put of layer 12 returns, for every entry: no statement is proved here.
-/
import Derived.Test.YtbmfoefapbakmaaDirB
import Derived.Test.YtbmfoefapbakmaaInoD
namespace Go.Proofs.Ytbmfoefapbakmaa
open Go.ChangeShapes Go.WideShapes Go.ChangeAt Go.RowKit
set_option linter.unusedVariables false

theorem lay_dL (k : Nat) (s : List UInt8) (h : s.length ≤ 10) : splice ((splice (List.replicate 13 0) 0 ((lo2 k).take 2)).set 2 (UInt8.ofNat s.length)) 3 s = dL ⟨(k : Int), s⟩ := by
  have e : ((splice (List.replicate 13 0) 0 ((lo2 k).take 2)).set 2 (UInt8.ofNat s.length)) = (lo2 k ++ [UInt8.ofNat s.length]) ++ List.replicate 10 0 := rfl
  have hl : (lo2 k ++ [UInt8.ofNat s.length]).length = 3 := rfl
  rw [e]
  unfold splice dL
  rw [show List.take 3 ((lo2 k ++ [UInt8.ofNat s.length]) ++ List.replicate 10 0) = lo2 k ++ [UInt8.ofNat s.length] from rfl]
  have ed : List.drop (3 + s.length) (lo2 k ++ [UInt8.ofNat s.length] ++ List.replicate 10 0) = List.replicate (10 - s.length) 0 := by
    rw [← List.drop_drop, List.drop_left' hl, List.drop_replicate]
  rw [ed]
  simp
set_option maxRecDepth 100000 in
set_option maxHeartbeats 2000000 in
theorem dput_any (x : Ent) (w : World) : Calls Try.prog 8 #[.agg x.cs.toArray] w fun e w' => e = .returned (.tuple #[.agg (cells (dB x)).toArray, .int .i64 (dE x)]) ∧ Below w.heap.size w w' := by
  have H1 := isIno_any x.n
  have H2 := check_any x.s
  have hzz : z13.length = 13 := rfl
  by_cases h1 : isI x.n
  · rw [decide_eq_true h1] at H1
    have hd : dE x = nE x.s := by unfold dE; rw [if_pos h1]
    by_cases h2 : nm x.s = true
    · have hn : nE x.s = 0 := by unfold nE; rw [if_pos h2]
      have hl := (nm_is h2).1.2.1
      have hD : Hid (dB x = dL x) := by show _ = _; unfold dB; rw [hd, hn, if_pos rfl]
      have hL := dL_len hl
      rw [hd, hn, hD.out]
      rw [hn] at H2
      obtain ⟨k, hk⟩ : ∃ k : Nat, x.n = k := ⟨x.n.toNat, by have := h1.1; omega⟩
      have hk2 : k < 65536 := by have := h1.2; omega
      have hw1 : IntKind.u16.wrap x.n = ((UInt16.ofNat k).toNat : Int) := by
        rw [UInt16.toNat_ofNat', hk, IntKind.wrap_u16]; omega
      have hw2 : IntKind.u8.wrap (x.s.length : Int) = ((UInt8.ofNat x.s.length).toNat : Int) := by
        rw [u8_to (by omega), IntKind.wrap_u8]; omega
      have hz := str_size x.s
      have ey : (UInt16.ofNat k).toNat = k := by rw [UInt16.toNat_ofNat']; omega
      have hlay := lay_dL k x.s hl
      have e0 : Hid ((⟨(k : Int), x.s⟩ : Ent) = x) := by show _ = _; rw [← hk]
      rw [e0.out] at hlay
      have hLay : Hid (splice ((splice (List.replicate 13 0) 0 ((lo2 (UInt16.ofNat k).toNat).take 2)).set 2 (UInt8.ofNat x.s.length)) 3 x.s = dL x) := by rw [ey]; exact hlay
      clear hlay ey hk hk2 e0 h1 h2 hd hn hD
      generalize UInt16.ofNat k = y at *
      generalize UInt8.ofNat x.s.length = c at *
      generalize dL x = D at *
      have hl2 : (lo2 y.toNat).length = 2 := rfl
      have t1 : True := trivial
      go_enter Try.func8, Try.ntmps8
      go_wp2_with (first
        | (refine at_boxE (by rfl) _ (by rfl) x (by rfl) ?_; intro g1 w1 a1 z1 r1 b1)
        | (have _t := t1; refine at_new 24 13 ar13 (by rfl) (by rfl) ?_; intro gr w2 a2 z2 r2 b2; have x2 := r1.later b2; obtain ⟨q0, q1⟩ := x2.ent; clear _t t1)
        | (go_at_call 28; refine (H1 _).mono ?_; rintro e u ⟨rfl, rfl⟩)
        | (go_at_call 11; refine (H2 _).mono ?_; rintro e w3 ⟨rfl, b3⟩)
        | (refine at_new 24 13 ar13 (by rfl) (by rfl) ?_; intro gb w4 a4 z4 r4 b4
           have x4 := (x2.later b3).later b4
           have y4 := (r2.later b3).later b4
           have B4 := bnext (bnext (bnext b1 b2 (Nat.le_refl _)) b3 (Nat.le_refl _)) b4 (Nat.le_refl _)
           have hgr : w.heap.size ≤ gr := (by have := b1.size; omega)
           have hgb : w.heap.size ≤ gb := (by have := b1.size; have := b2.size; have := b3.size; omega)
           have hxb : ¬ g1 = gb := (by have := (x2.later b3).lt; omega)
           have hrb : ¬ gr = gb := (by have := (r2.later b3).lt; omega)
           clear q0 q1 r1 x2 r2 b1 b2 b3 b4 a1 z1 a2 z2 a4 z4
           obtain ⟨q0, q1⟩ := x4.ent)
        | (go_at_call 29; refine (put16_w y _).mono ?_; rintro e w5 ⟨rfl, b5⟩)
        | (refine at_new 54 2 ar2d (by rfl) (by rfl) ?_; intro g2 w6 a6 z6 r6 b6)
        | (refine at_put 54 2 ar2d (by rfl) _ _ (by rfl) g2 (by rfl) (lo2 y.toNat) (by rfl) hl2 _ r6 (by simp) ?_; intro w7 r7 s7))
      have B6 := bnext b5 b6 (Nat.le_refl _)
      have hg2 : w4.heap.size ≤ g2 := by have := b5.size; omega
      have x7 : Cs w7 g1 x.cs := (x4.later B6).step s7 (by have := x4.lt; omega)
      have y7 : Row w7 gr (List.replicate 13 0) := (y4.later B6).step s7 (by have := y4.lt; omega)
      have d7 : Row w7 gb (List.replicate 13 0) := (r4.later B6).step s7 (by have := r4.lt; omega)
      have S7 : Stp (fun y => w.heap.size ≤ y) w w7 := (Stp.of_below (bnext B4 B6 (Nat.le_refl _)) _).next s7 (fun y hy => .inl (by subst hy; have := B4.size; omega))
      clear q0 q1 x4 y4 r4 r6 b5 b6 B4 B6 a6 z6 s7
      simp only [Act.put, List.setIfInBounds_toArray, List.set_cons_zero, List.set_cons_succ]
      go_region_law (refine step_copyR rfl (.tmp 23) (.tmp 24) rfl gb 0 13 13 g2 2 2 (by simp [Act.eval, Act.put]) (by simp [Act.eval, Act.put]) (List.replicate 13 0) (lo2 y.toNat) (d7.later (by go_grown)) (r7.later (by go_grown)) (by omega) (by simp) (Nat.le_refl 2) ?_; intro w8 d8 s8)
      have x8 : Cs w8 g1 x.cs := (x7.later (w' := w7.drew) (by go_grown)).step s8 hxb
      have y8 : Row w8 gr (List.replicate 13 0) := (y7.later (w' := w7.drew) (by go_grown)).step s8 hrb
      have S8 : Stp (fun y => w.heap.size ≤ y) w w8 := S7.drew.next s8 (fun y hy => .inl (by subst hy; exact hgb))
      have hl8 : (splice (List.replicate 13 0) 0 ((lo2 y.toNat).take 2)).length = 13 := rfl
      generalize splice (List.replicate 13 0) 0 ((lo2 y.toNat).take 2) = L8 at *
      clear x7 y7 d7 r7 S7 s8
      obtain ⟨q0, q1⟩ := x8.ent
      go_wp2_with (first
        | (refine at_byte (by rfl) _ _ (by rfl) gb 2 (by rfl) c _ (by rfl) rfl L8 d8 (by omega) ?_; intro w9 d9 s9))
      have x9 : Cs w9 g1 x.cs := x8.step s9 hxb
      have y9 : Row w9 gr (List.replicate 13 0) := y8.step s9 hrb
      have S9 : Stp (fun y => w.heap.size ≤ y) w w9 := S8.next s9 (fun y hy => .inl (by subst hy; exact hgb))
      have hl9 : (L8.set 2 c).length = 13 := by simp [hl8]
      generalize L8.set 2 c = L9 at *
      clear q0 q1 x8 y8 d8 S8 s9
      obtain ⟨q0, q1⟩ := x9.ent
      simp only [Act.put]
      go_region_law (refine step_copyT rfl (.tmp 31) (.tmp 33) rfl gb 3 10 10 (by simp [Act.eval]) x.s (by simp [Act.eval]) L9 (d9.later (by go_grown)) (by omega) (by omega) ?_; intro w10 d10 s10)
      rw [hLay.out] at d10
      have y10 : Row w10 gr (List.replicate 13 0) := (y9.later (w' := w9.drew) (by go_grown)).step s10 hrb
      have S10 : Stp (fun y => w.heap.size ≤ y) w w10 := S9.drew.next s10 (fun y hy => .inl (by subst hy; exact hgb))
      clear x9 y9 d9 S9 s10 q0 q1 hLay
      go_wp2_with (first
        | (refine at_get 24 13 ar13 (by rfl) _ (by rfl) gb (by rfl) D d10 hL ?_)
        | (refine at_put 24 13 ar13 (by rfl) _ _ (by rfl) gr (by rfl) D (by rfl) hL _ y10 (by simp) ?_; intro w11 r11 s11))
      have S11 := S10.next s11 (fun y hy => .inl (by subst hy; exact hgr))
      exact bodyPost_ret (retAt ar13 Try.results8 rfl rfl r11 hL) rfl ⟨rfl, S11.below (Nat.le_refl _) (fun _ h => h)⟩
    · have hn : nE x.s = 45 := by unfold nE; rw [if_neg h2]
      have hD : dB x = z13 := by unfold dB; rw [hd, hn, if_neg (by decide)]
      rw [hd, hn, hD]
      rw [hn] at H2
      clear hD hd hn h1 h2
      go_enter Try.func8, Try.ntmps8
      go_wp2_with (first
        | (refine at_boxE (by rfl) _ (by rfl) x (by rfl) ?_; intro g1 w1 a1 z1 r1 b1)
        | (refine at_new 24 13 ar13 (by rfl) (by rfl) ?_; intro gr w2 a2 z2 r2 b2; have x2 := r1.later b2; obtain ⟨q0, q1⟩ := x2.ent)
        | (go_at_call 28; refine (H1 _).mono ?_; rintro e u ⟨rfl, rfl⟩)
        | (go_at_call 11; refine (H2 _).mono ?_; rintro e w3 ⟨rfl, b3⟩; have r3 := r2.later b3)
        | (refine at_bld13 (by rfl) (by rfl) ?_)
        | (refine at_put 24 13 ar13 (by rfl) _ _ (by rfl) gr (by rfl) z13 (by rfl) hzz _ r3 (by simp) ?_; intro w4 r4 s4))
      have S4 : Stp (fun y => w.heap.size ≤ y) w w4 := (Stp.of_below (bnext (bnext b1 b2 (Nat.le_refl _)) b3 (Nat.le_refl _)) _).next s4 (fun y hy => .inl (by subst hy; have := b1.size; omega))
      exact bodyPost_ret (retAt ar13 Try.results8 rfl rfl r4 hzz) rfl ⟨rfl, S4.below (Nat.le_refl _) (fun _ h => h)⟩
  · rw [decide_eq_false h1] at H1
    have hd : dE x = 2 := by unfold dE; rw [if_neg h1]
    have hD : dB x = z13 := by unfold dB; rw [hd, if_neg (by decide)]
    rw [hd, hD]
    clear hD hd h1
    go_enter Try.func8, Try.ntmps8
    go_wp2_with (first
      | (refine at_boxE (by rfl) _ (by rfl) x (by rfl) ?_; intro g1 w1 a1 z1 r1 b1)
      | (refine at_new 24 13 ar13 (by rfl) (by rfl) ?_; intro gr w2 a2 z2 r2 b2; have x2 := r1.later b2; obtain ⟨q0, q1⟩ := x2.ent)
      | (go_at_call 28; refine (H1 _).mono ?_; rintro e u ⟨rfl, rfl⟩)
      | (refine at_bld13 (by rfl) (by rfl) ?_)
      | (refine at_put 24 13 ar13 (by rfl) _ _ (by rfl) gr (by rfl) z13 (by rfl) hzz _ r2 (by simp) ?_; intro w4 r4 s4))
    have S4 : Stp (fun y => w.heap.size ≤ y) w w4 := (Stp.of_below (bnext b1 b2 (Nat.le_refl _)) _).next s4 (fun y hy => .inl (by subst hy; have := b1.size; omega))
    exact bodyPost_ret (retAt ar13 Try.results8 rfl rfl r4 hzz) rfl ⟨rfl, S4.below (Nat.le_refl _) (fun _ h => h)⟩
end Go.Proofs.Ytbmfoefapbakmaa
