/-
  The statement SuperTwice, proved: for every shape, number and sector the law returns true, and what came in reads as it did; no condition.
-/
import Derived.Test.YtjbgcbokffaemaaSupQ
import Derived.Lib.SmallJoins
namespace Go.Proofs.Ytjbgcbokffaemaa.superTwice
open Go.ChangeShapes Go.WideShapes Go.ChangeAt Go.RowKit
set_option linter.unusedVariables false

set_option maxRecDepth 100000 in
set_option maxHeartbeats 2000000 in
theorem walk_no (s : Gm) (x : Int) (b : Blk) (w : World) (hs : ¬ s.ok) :
    Calls Try.prog 5 #[.agg #[.int .i64 s.g, .int .i64 s.i, .int .i64 s.d], .int .u8 x, .agg b.cs.toArray] w fun e w' => e = .returned (.bool true) ∧ Below w.heap.size w w' := by
  have hb := b.len
  have h1 := total_any s
  rw [show s.total = 0 from if_neg hs] at h1
  have h2 := check_any s
  rw [show s.err = 2 from if_neg hs] at h2
  go_enter Try.func5, Try.ntmps5
  go_wp2_with (first
    | (refine at_boxG (by rfl) _ (by rfl) s (by rfl) ?_; intro g3 w1 a1 z1 r1 b1)
    | (refine at_box 32 64 arrB (by rfl) _ (by rfl) b.l (by rfl) hb ?_; intro g5 w2 a2 z2 r2 b2)
    | (go_at_call 13; refine (sworks_any _).mono ?_; rintro e w3 ⟨rfl, b3⟩; have q3 := (r1.later b2).later b3)
    | (refine at_getG (by rfl) _ (by rfl) g3 (by rfl) s q6 ?_)
    | (refine at_getG (by rfl) _ (by rfl) g3 (by rfl) s q3 ?_)
    | (go_at_call 19; refine (h1 _).mono ?_; rintro e w4 ⟨rfl, b4⟩)
    | (refine at_mkB (by rfl) _ (by rfl) 0 (by rfl) (by omega) ?_; intro gl w5 a5 d5 b5; have q6 := (q3.later b4).later b5)
    | (go_at_call 20; refine (h2 _).mono ?_; rintro e w6 ⟨rfl, b6⟩))
  go_returns
  exact ⟨rfl, bnext (bnext (bnext (bnext (bnext b1 b2 (Nat.le_refl _)) b3 (Nat.le_refl _)) b4 (Nat.le_refl _)) b5 (Nat.le_refl _)) b6 (Nat.le_refl _)⟩
/-- What the disks on the way have. -/
theorem ways0 (s : Gm) (hs : s.ok) (n : Nat) (hn : s.total = (n : Int)) (b : Blk) (A A1 A2 : List Blk) (hA : ((List.replicate n Blk.zero).set 0 (fB s)).set 1 b = A) (hA1 : A.set 0 Blk.zero = A1) (hA2 : A1.set 0 (fB s) = A2) :
    A.length = n ∧ A1.length = n ∧ A2.length = n ∧ fdE A = 0 ∧ fdE A2 = 0 ∧ (fdE A1 = 22 → fdG A = s) := by
  have h9 := total_pos hs
  have l0 : A.length = n := by rw [← hA]; simp
  have l1 : A1.length = n := by rw [← hA1]; simp [l0]
  have l2 : A2.length = n := by rw [← hA2]; simp [l1]
  have e0 : s0 A = fB s := by
    rw [← hA]; unfold s0
    rw [List.getD_eq_getElem?_getD, List.getElem?_set_ne (by omega), List.getElem?_set_self (by simp; omega)]; rfl
  have e2 : s0 A2 = fB s := by
    rw [← hA2]; unfold s0
    rw [List.getD_eq_getElem?_getD, List.getElem?_set_self (by omega)]; rfl
  have e1 : s1 A1 = s1 A := by
    rw [← hA1]; unfold s1
    rw [List.getD_eq_getElem?_getD, List.getElem?_set_ne (by omega), ← List.getD_eq_getElem?_getD]
  exact ⟨l0, l1, l2, fd_has hs (by rw [l0]; exact hn) (.inl e0), fd_has hs (by rw [l2]; exact hn) (.inl e2), fun h => fd_one0 hs (by rw [l0]; exact hn) (by rw [l1, l0]) e0 e1 h⟩
theorem ways1 (s : Gm) (hs : s.ok) (n : Nat) (hn : s.total = (n : Int)) (b : Blk) (A A1 A2 : List Blk) (hA : ((List.replicate n Blk.zero).set 1 (fB s)).set 0 b = A) (hA1 : A.set 1 Blk.zero = A1) (hA2 : A1.set 1 (fB s) = A2) :
    A.length = n ∧ A1.length = n ∧ A2.length = n ∧ fdE A = 0 ∧ fdE A2 = 0 ∧ (fdE A1 = 22 → fdG A = s) := by
  have h9 := total_pos hs
  have l0 : A.length = n := by rw [← hA]; simp
  have l1 : A1.length = n := by rw [← hA1]; simp [l0]
  have l2 : A2.length = n := by rw [← hA2]; simp [l1]
  have e0 : s1 A = fB s := by
    rw [← hA]; unfold s1
    rw [List.getD_eq_getElem?_getD, List.getElem?_set_ne (by omega), List.getElem?_set_self (by simp; omega)]; rfl
  have e2 : s1 A2 = fB s := by
    rw [← hA2]; unfold s1
    rw [List.getD_eq_getElem?_getD, List.getElem?_set_self (by omega)]; rfl
  have e1 : s0 A1 = s0 A := by
    rw [← hA1]; unfold s0
    rw [List.getD_eq_getElem?_getD, List.getElem?_set_ne (by omega), ← List.getD_eq_getElem?_getD]
  exact ⟨l0, l1, l2, fd_has hs (by rw [l0]; exact hn) (.inr e0), fd_has hs (by rw [l2]; exact hn) (.inr e2), fun h => fd_one1 hs (by rw [l0]; exact hn) (by rw [l1, l0]) e0 e1 h⟩
set_option maxRecDepth 100000 in
set_option maxHeartbeats 8000000 in
theorem walk0 (s : Gm) (x : Int) (b : Blk) (w : World) (hs : s.ok) (hx : x.tmod 2 = 0) :
    Calls Try.prog 5 #[.agg #[.int .i64 s.g, .int .i64 s.i, .int .i64 s.d], .int .u8 x, .agg b.cs.toArray] w fun e w' => e = .returned (.bool true) ∧ Below w.heap.size w w' := by
  have hb := b.len
  have h1 := total_any s
  have h9 := total_pos hs
  obtain ⟨n, hn⟩ := Int.eq_ofNat_of_zero_le (show 0 ≤ s.total by omega)
  have hF := format_any s
  rw [show s.err = 0 from if_pos hs] at hF
  obtain ⟨A, hA⟩ : ∃ A, ((List.replicate n Blk.zero).set 0 (fB s)).set 1 b = A := ⟨_, rfl⟩
  obtain ⟨A1, hA1⟩ : ∃ A1, A.set 0 Blk.zero = A1 := ⟨_, rfl⟩
  obtain ⟨A2, hA2⟩ : ∃ A2, A1.set 0 (fB s) = A2 := ⟨_, rfl⟩
  obtain ⟨l0, l1, l2, e0, e2, hG⟩ := ways0 s hs n hn b A A1 A2 hA hA1 hA2
  have h3 := fun a n c w (h : Bls w a n c A) => sfind_any a n c A w h
  rw [e0] at h3
  have h4 := fun a n c w (h : Bls w a n c A1) => sfind_any a n c A1 w h
  have h5 := fun a n c w (h : Bls w a n c A2) => smend_any a n c A2 w h
  rw [e2] at h5
  have h6 := fun a n c w (h : Bls w a n c (mK A2 2)) => smend_any a n c (mK A2 2) w h
  rw [mK_two, (mended_ok e2).1, (mended_ok e2).2] at h6
  have HA : Hid _ := hA
  have HA1 : Hid _ := hA1
  have HA2 : Hid _ := hA2
  have hway := fdE_or A1
  rw [hn] at h1 h9
  have hnb : 9 ≤ n ∧ n ≤ 1106 := by omega
  obtain ⟨n9, n1106⟩ := hnb
  have hFl := (fB s).len
  clear hA hA1 hA2 e0 h9 hn
  generalize fB s = F at *
  generalize fdG A = G at *
  generalize fdI A = I at *
  generalize fdG A1 = G1 at *
  generalize fdI A1 = I1 at *
  generalize fdE A1 = E1 at *
  generalize mdF (mended A2) = f2 at *
  have hcase : (E1 = 0) ∨ (E1 = 22 ∧ G = s) := by
    rcases hway with h | h
    · exact .inl h
    · exact .inr ⟨h, hG h⟩
  clear hway hG
  rcases hcase with rfl | ⟨rfl, rfl⟩
  all_goals
    have t1 : True := trivial
    have t2 : True := trivial
    have t3 : True := trivial
    have t4 : True := trivial
    go_enter Try.func5, Try.ntmps5
    go_wp2_with (first
      | (refine at_boxG (by rfl) _ (by rfl) _ (by rfl) ?_; intro g3 w1 a1 z1 r1 b1)
      | (refine at_box 32 64 arrB (by rfl) _ (by rfl) b.l (by rfl) hb ?_; intro g5 w2 a2 z2 r2 b2)
      | (go_at_call 13; refine (sworks_any _).mono ?_; rintro e w3 ⟨rfl, b3⟩; have q3 := (r1.later b2).later b3)
      | (have _t := t1; refine at_getG (by rfl) _ (by rfl) g3 (by rfl) _ q3 ?_; clear _t)
      | (go_at_call 19; refine (h1 _).mono ?_; rintro e w4 ⟨rfl, b4⟩)
      | (refine at_mkB (by rfl) _ (by rfl) n (by rfl) (by omega) ?_; intro gl w5 a5 d5 b5; clear t1
         have q5 := (q3.later b4).later b5
         have p5 : Row w5 g5 b.l := ((r2.later b3).later b4).later b5
         have B5 := bnext (bnext (bnext (bnext b1 b2 (Nat.le_refl _)) b3 (Nat.le_refl _)) b4 (Nat.le_refl _)) b5 (Nat.le_refl _)
         have hgl : w.heap.size ≤ gl := by have := b1.size; have := b2.size; have := b3.size; have := b4.size; omega
         have n3 : g3 ≠ gl := by have := q3.lt; have := b4.size; omega
         have n5 : g5 ≠ gl := by have := r2.lt; have := b3.size; have := b4.size; omega
         clear a1 z1 r1 b1 a2 z2 r2 b2 b3 q3 b4 a5 b5)
      | (have _t := t2; refine at_getG (by rfl) _ (by rfl) g3 (by rfl) _ q5 ?_; clear _t)
      | (go_at_call 11; have _t := t2; refine (hF _).mono ?_; rintro e w6 ⟨rfl, b6⟩; clear _t)
      | (have _t := t2; refine at_putM (by rfl) _ _ (by rfl) gl 0 n n _ _ (by rfl) rfl F (by rfl) (d5.later b6) (by omega) ?_; intro w7 d7 s7; clear _t t2
         have q7 := (q5.later b6).step s7 n3
         have p7 := (p5.later b6).step s7 n5
         have S7 := (Stp.of_below (bnext B5 b6 (Nat.le_refl _)) (fun x => w.heap.size ≤ x)).next s7 (fun x hx => .inl (by subst hx; exact hgl))
         clear d5 q5 p5 B5 b6 s7)
      | (refine at_getB (by rfl) _ (by rfl) g5 (by rfl) b p7 ?_)
      | (have _t := t3; refine at_putM (by rfl) _ _ (by rfl) gl 1 n n _ _ (by rfl) rfl b (by rfl) d7 (by omega) ?_; intro w8 d8 s8; clear _t t3
         rw [HA.out] at d8
         have q8 := q7.step s8 n3
         have S8 := S7.next s8 (fun x hx => .inl (by subst hx; exact hgl))
         clear d7 q7 p7 S7 s8)
      | (go_at_call 15; have _t := t4; refine (h3 _ _ _ _ d8.bls).mono ?_; rintro e w9 ⟨rfl, b9⟩; clear _t)
      | (have _t := t4; refine at_newG (by rfl) (by rfl) ?_; intro g9 w10 a10 z10 r10 b10; clear _t)
      | (have _t := t4; refine at_putG (by rfl) _ _ (by rfl) g9 (by rfl) _ (by rfl) _ r10 ?_; intro w11 r11 s11; clear _t t4
         have B10 := bnext b9 b10 (Nat.le_refl _)
         have d11 := (d8.later B10).step s11 (by have := d8.lt; have := b9.size; omega)
         have q11 := (q8.later B10).step s11 (by have := q8.lt; have := b9.size; omega)
         have S11 := (S8.next (Stp.of_below B10 (fun _ => False)) (fun _ h => h.elim)).next s11 (fun x hx => .inl (by subst hx; have := S8.size; have := b9.size; omega))
         have n9' : g9 ≠ gl := by have := d8.lt; have := b9.size; omega
         have t5 : True := trivial
         have t6 : True := trivial
         clear d8 q8 S8 b9 a10 z10 r10 b10 s11 B10)
      | (have _t := t5; refine at_bldB (by rfl) (by rfl) ?_; clear _t)
      | (have _t := t5; refine at_putM (by rfl) _ _ (by rfl) gl 0 n n _ _ (by rfl) rfl Blk.zero (by rfl) d11 (by omega) ?_; intro w12 d12 s12; clear _t t5
         rw [HA1.out] at d12
         have q12 := q11.step s12 n3
         have r12 := r11.step s12 n9'
         have S12 := S11.next s12 (fun x hx => .inl (by subst hx; exact hgl))
         clear d11 q11 r11 S11 s12)
      | (go_at_call 15; have _t := t6; refine (h4 _ _ _ _ d12.bls).mono ?_; rintro e w13 ⟨rfl, b13⟩; clear _t)
      | (have _t := t6; refine at_newG (by rfl) (by rfl) ?_; intro g12 w14 a14 z14 r14 b14; clear _t)
      | (have _t := t6; refine at_putG (by rfl) _ _ (by rfl) g12 (by rfl) G1 (by rfl) _ r14 ?_; intro w15 r15 s15; clear _t t6
         have B14 := bnext b13 b14 (Nat.le_refl _)
         have d15 := (d12.later B14).step s15 (by have := d12.lt; have := b13.size; omega)
         have q15 := (q12.later B14).step s15 (by have := q12.lt; have := b13.size; omega)
         have r15' := (r12.later B14).step s15 (by have := r12.lt; have := b13.size; omega)
         have S15 := (S12.next (Stp.of_below B14 (fun _ => False)) (fun _ h => h.elim)).next s15 (fun x hx => .inl (by subst hx; have := S12.size; have := b13.size; omega))
         have t7 : True := trivial
         clear d12 q12 r12 S12 b13 a14 z14 r14 b14 s15 B14 r15)
      | (refine at_getG (by rfl) _ (by rfl) g9 (by rfl) _ r15' ?_)
      | (have _t := t7; refine at_getG (by rfl) _ (by rfl) g3 (by rfl) _ q15 ?_; clear _t)
      | (go_at_call 11; refine (hF _).mono ?_; rintro e w16 ⟨rfl, b16⟩)
      | (refine at_putM (by rfl) _ _ (by rfl) gl 0 n n _ _ (by rfl) rfl F (by rfl) (d15.later b16) (by omega) ?_; intro w17 d17 s17; clear t7
         rw [HA2.out] at d17
         have S17 := (S15.next (Stp.of_below b16 (fun _ => False)) (fun _ h => h.elim)).next s17 (fun x hx => .inl (by subst hx; exact hgl))
         clear d15 q15 r15' S15 b16 s17)
      | (go_at_call 17; refine (h5 _ _ _ _ d17.bls).mono ?_; rintro e W ⟨v, rfl, mv, hv, b18⟩
         have dW := d17.later b18
         have SW := S17.next (Stp.of_below b18 (fun _ => False)) (fun _ h => h.elim)
         have hvW : ∀ b, v = .map (some b) → b ≠ gl := fun b e => by have := hv b e; have := d17.lt; omega
         clear d17 S17 b18 hv))
    have hvW2 : ∀ b, v = .map (some b) → ¬ (b = gl ∨ W.heap.size ≤ b) := fun b e => by
      have h0 := hvW b e
      rcases mv with ⟨e', _⟩ | ⟨b', e', hm⟩
      · rw [e'] at e; injection e with e; cases e
      · rw [e'] at e; injection e with e; injection e with e; subst e; have := hm.lt; omega
    clear h1 h3 h4 h5 hF HA HA1 HA2 hvW
    have hz : Hid (mK A2 2 = mended A2) := mK_two A2
    go_loopw [17] (fun i wr => ∃ k : Nat, k ≤ 2 ∧ i = .int .i64 k ∧ Wd wr gl n n (mK A2 k) ∧ Stp (fun x => x = gl ∨ W.heap.size ≤ x) W wr) (fun i _ => 2 - (intOf i).toNat)
    case atStart => exact ⟨0, Nat.zero_le _, rfl, dW, Stp.refl _ _⟩
    case round =>
      obtain ⟨k, hk, rfl, dk, sk⟩ := hrel
      by_cases hlt : k < 2
      · have mk := mv.step sk hvW2
        have hwf := wf_small k (by omega)
        have hkn : k < n := by omega
        cases hm : mdF A2 (k : Int) with
        | none =>
          have hd1 : Hid (mK A2 (k + 1) = mK A2 k) := mK_none hm
          have e1 : ((mdF A2) (k : Int)).isSome = false := by rw [hm]; rfl
          have e2' : (((mdF A2) (k : Int)).getD Blk.zero) = Blk.zero := by rw [hm]; rfl
          go_wp2_with (first
            | (refine at_mlook (by rfl) _ _ (by rfl) v _ _ (by rfl) mk (k : Int) (by rfl) hwf ?_; rw [e1, e2'])
            | (refine at_new 32 64 arrB (by rfl) (by rfl) ?_; intro g6 w6 a6 z6 r6 b6)
            | (refine at_put 32 64 arrB (by rfl) _ _ (by rfl) g6 (by rfl) Blk.zero.l (by rfl) Blk.zero.len _ r6 (by simp) ?_; intro w7 r7 s7
               have S7 : Stp (fun z => wr.heap.size ≤ z) wr w7 := (Stp.of_below b6 _).next s7 (fun z hz => .inl (by subst hz; exact a6))))
          go_roundw
          case rel => exact ⟨k + 1, by omega, by go_num, by rw [hd1.out]; exact dk.step S7 (by have := dk.lt; omega), sk.next S7 (fun z hz => .inr (Nat.le_trans sk.size hz))⟩
          case measure => simp [intOf]; omega
        | some y =>
          have hd1 : Hid (mK A2 (k + 1) = (mK A2 k).set k y) := mK_some hm
          have e1 : ((mdF A2) (k : Int)).isSome = true := by rw [hm]; rfl
          have e2' : (((mdF A2) (k : Int)).getD Blk.zero) = y := by rw [hm]; rfl
          have hly := y.len
          have t8 : True := trivial
          go_wp2_with (first
            | (refine at_mlook (by rfl) _ _ (by rfl) v _ _ (by rfl) mk (k : Int) (by rfl) hwf ?_; rw [e1, e2'])
            | (refine at_new 32 64 arrB (by rfl) (by rfl) ?_; intro g6 w6 a6 z6 r6 b6)
            | (have _t := t8; refine at_put 32 64 arrB (by rfl) _ _ (by rfl) g6 (by rfl) y.l (by rfl) hly _ r6 (by simp) ?_; intro w7 r7 s7; clear _t t8
               have S7 : Stp (fun z => wr.heap.size ≤ z) wr w7 := (Stp.of_below b6 _).next s7 (fun z hz => .inl (by subst hz; exact a6))
               have d7 := dk.step S7 (by have := dk.lt; omega))
            | (refine at_getB (by rfl) _ (by rfl) g6 (by rfl) y r7 ?_)
            | (refine at_putM (by rfl) _ _ (by rfl) gl k n n _ _ (by rfl) rfl y (by rfl) d7 hkn ?_; intro w8 d8 s8
               have S8 : Stp (fun z => z = gl ∨ wr.heap.size ≤ z) wr w8 := (S7.mono (F' := fun z => z = gl ∨ wr.heap.size ≤ z) (fun z hz => .inl (.inr hz))).next s8 (fun z hz => .inl (.inl hz))))
          go_roundw
          case rel => exact ⟨k + 1, by omega, by go_num, by rw [hd1.out]; exact d8, sk.next S8 (fun z hz => by rcases hz with hz | hz; exact .inl (.inl hz); exact .inr (Nat.le_trans sk.size hz))⟩
          case measure => simp [intOf]; omega
      · obtain rfl : k = 2 := by omega
        have SE := SW.next sk (fun z hz => .inl (by rcases hz with hz | hz; omega; exact Nat.le_trans SW.size hz))
        rw [hz.out] at dk
        go_wp2_with (first
          | (go_at_call 17; refine (h6 _ _ _ _ dk.bls).mono ?_; rintro e w20 ⟨v2, rfl, mv2, _, b20⟩)
          | (refine at_mlen (by rfl) _ (by rfl) v2 _ _ (by rfl) mv2 ?_))
        go_returns
        exact ⟨rfl, (SE.next (Stp.of_below b20 (fun _ => False)) (fun _ h => h.elim)).below (Nat.le_refl _) (fun _ h => h)⟩
set_option maxRecDepth 100000 in
set_option maxHeartbeats 8000000 in
theorem walk1 (s : Gm) (x : Int) (b : Blk) (w : World) (hs : s.ok) (hx : x.tmod 2 = 1) :
    Calls Try.prog 5 #[.agg #[.int .i64 s.g, .int .i64 s.i, .int .i64 s.d], .int .u8 x, .agg b.cs.toArray] w fun e w' => e = .returned (.bool true) ∧ Below w.heap.size w w' := by
  have hb := b.len
  have h1 := total_any s
  have h9 := total_pos hs
  obtain ⟨n, hn⟩ := Int.eq_ofNat_of_zero_le (show 0 ≤ s.total by omega)
  have hF := format_any s
  rw [show s.err = 0 from if_pos hs] at hF
  obtain ⟨A, hA⟩ : ∃ A, ((List.replicate n Blk.zero).set 1 (fB s)).set 0 b = A := ⟨_, rfl⟩
  obtain ⟨A1, hA1⟩ : ∃ A1, A.set 1 Blk.zero = A1 := ⟨_, rfl⟩
  obtain ⟨A2, hA2⟩ : ∃ A2, A1.set 1 (fB s) = A2 := ⟨_, rfl⟩
  obtain ⟨l0, l1, l2, e0, e2, hG⟩ := ways1 s hs n hn b A A1 A2 hA hA1 hA2
  have h3 := fun a n c w (h : Bls w a n c A) => sfind_any a n c A w h
  rw [e0] at h3
  have h4 := fun a n c w (h : Bls w a n c A1) => sfind_any a n c A1 w h
  have h5 := fun a n c w (h : Bls w a n c A2) => smend_any a n c A2 w h
  rw [e2] at h5
  have h6 := fun a n c w (h : Bls w a n c (mK A2 2)) => smend_any a n c (mK A2 2) w h
  rw [mK_two, (mended_ok e2).1, (mended_ok e2).2] at h6
  have HA : Hid _ := hA
  have HA1 : Hid _ := hA1
  have HA2 : Hid _ := hA2
  have hway := fdE_or A1
  rw [hn] at h1 h9
  have hnb : 9 ≤ n ∧ n ≤ 1106 := by omega
  obtain ⟨n9, n1106⟩ := hnb
  have hFl := (fB s).len
  clear hA hA1 hA2 e0 h9 hn
  generalize fB s = F at *
  generalize fdG A = G at *
  generalize fdI A = I at *
  generalize fdG A1 = G1 at *
  generalize fdI A1 = I1 at *
  generalize fdE A1 = E1 at *
  generalize mdF (mended A2) = f2 at *
  have hcase : (E1 = 0) ∨ (E1 = 22 ∧ G = s) := by
    rcases hway with h | h
    · exact .inl h
    · exact .inr ⟨h, hG h⟩
  clear hway hG
  rcases hcase with rfl | ⟨rfl, rfl⟩
  all_goals
    have t1 : True := trivial
    have t2 : True := trivial
    have t3 : True := trivial
    have t4 : True := trivial
    go_enter Try.func5, Try.ntmps5
    go_wp2_with (first
      | (refine at_boxG (by rfl) _ (by rfl) _ (by rfl) ?_; intro g3 w1 a1 z1 r1 b1)
      | (refine at_box 32 64 arrB (by rfl) _ (by rfl) b.l (by rfl) hb ?_; intro g5 w2 a2 z2 r2 b2)
      | (go_at_call 13; refine (sworks_any _).mono ?_; rintro e w3 ⟨rfl, b3⟩; have q3 := (r1.later b2).later b3)
      | (have _t := t1; refine at_getG (by rfl) _ (by rfl) g3 (by rfl) _ q3 ?_; clear _t)
      | (go_at_call 19; refine (h1 _).mono ?_; rintro e w4 ⟨rfl, b4⟩)
      | (refine at_mkB (by rfl) _ (by rfl) n (by rfl) (by omega) ?_; intro gl w5 a5 d5 b5; clear t1
         have q5 := (q3.later b4).later b5
         have p5 : Row w5 g5 b.l := ((r2.later b3).later b4).later b5
         have B5 := bnext (bnext (bnext (bnext b1 b2 (Nat.le_refl _)) b3 (Nat.le_refl _)) b4 (Nat.le_refl _)) b5 (Nat.le_refl _)
         have hgl : w.heap.size ≤ gl := by have := b1.size; have := b2.size; have := b3.size; have := b4.size; omega
         have n3 : g3 ≠ gl := by have := q3.lt; have := b4.size; omega
         have n5 : g5 ≠ gl := by have := r2.lt; have := b3.size; have := b4.size; omega
         clear a1 z1 r1 b1 a2 z2 r2 b2 b3 q3 b4 a5 b5)
      | (have _t := t2; refine at_getG (by rfl) _ (by rfl) g3 (by rfl) _ q5 ?_; clear _t)
      | (go_at_call 11; have _t := t2; refine (hF _).mono ?_; rintro e w6 ⟨rfl, b6⟩; clear _t)
      | (have _t := t2; refine at_putM (by rfl) _ _ (by rfl) gl 1 n n _ _ (by rfl) rfl F (by rfl) (d5.later b6) (by omega) ?_; intro w7 d7 s7; clear _t t2
         have q7 := (q5.later b6).step s7 n3
         have p7 := (p5.later b6).step s7 n5
         have S7 := (Stp.of_below (bnext B5 b6 (Nat.le_refl _)) (fun x => w.heap.size ≤ x)).next s7 (fun x hx => .inl (by subst hx; exact hgl))
         clear d5 q5 p5 B5 b6 s7)
      | (refine at_getB (by rfl) _ (by rfl) g5 (by rfl) b p7 ?_)
      | (have _t := t3; refine at_putM (by rfl) _ _ (by rfl) gl 0 n n _ _ (by rfl) rfl b (by rfl) d7 (by omega) ?_; intro w8 d8 s8; clear _t t3
         rw [HA.out] at d8
         have q8 := q7.step s8 n3
         have S8 := S7.next s8 (fun x hx => .inl (by subst hx; exact hgl))
         clear d7 q7 p7 S7 s8)
      | (go_at_call 15; have _t := t4; refine (h3 _ _ _ _ d8.bls).mono ?_; rintro e w9 ⟨rfl, b9⟩; clear _t)
      | (have _t := t4; refine at_newG (by rfl) (by rfl) ?_; intro g9 w10 a10 z10 r10 b10; clear _t)
      | (have _t := t4; refine at_putG (by rfl) _ _ (by rfl) g9 (by rfl) _ (by rfl) _ r10 ?_; intro w11 r11 s11; clear _t t4
         have B10 := bnext b9 b10 (Nat.le_refl _)
         have d11 := (d8.later B10).step s11 (by have := d8.lt; have := b9.size; omega)
         have q11 := (q8.later B10).step s11 (by have := q8.lt; have := b9.size; omega)
         have S11 := (S8.next (Stp.of_below B10 (fun _ => False)) (fun _ h => h.elim)).next s11 (fun x hx => .inl (by subst hx; have := S8.size; have := b9.size; omega))
         have n9' : g9 ≠ gl := by have := d8.lt; have := b9.size; omega
         have t5 : True := trivial
         have t6 : True := trivial
         clear d8 q8 S8 b9 a10 z10 r10 b10 s11 B10)
      | (have _t := t5; refine at_bldB (by rfl) (by rfl) ?_; clear _t)
      | (have _t := t5; refine at_putM (by rfl) _ _ (by rfl) gl 1 n n _ _ (by rfl) rfl Blk.zero (by rfl) d11 (by omega) ?_; intro w12 d12 s12; clear _t t5
         rw [HA1.out] at d12
         have q12 := q11.step s12 n3
         have r12 := r11.step s12 n9'
         have S12 := S11.next s12 (fun x hx => .inl (by subst hx; exact hgl))
         clear d11 q11 r11 S11 s12)
      | (go_at_call 15; have _t := t6; refine (h4 _ _ _ _ d12.bls).mono ?_; rintro e w13 ⟨rfl, b13⟩; clear _t)
      | (have _t := t6; refine at_newG (by rfl) (by rfl) ?_; intro g12 w14 a14 z14 r14 b14; clear _t)
      | (have _t := t6; refine at_putG (by rfl) _ _ (by rfl) g12 (by rfl) G1 (by rfl) _ r14 ?_; intro w15 r15 s15; clear _t t6
         have B14 := bnext b13 b14 (Nat.le_refl _)
         have d15 := (d12.later B14).step s15 (by have := d12.lt; have := b13.size; omega)
         have q15 := (q12.later B14).step s15 (by have := q12.lt; have := b13.size; omega)
         have r15' := (r12.later B14).step s15 (by have := r12.lt; have := b13.size; omega)
         have S15 := (S12.next (Stp.of_below B14 (fun _ => False)) (fun _ h => h.elim)).next s15 (fun x hx => .inl (by subst hx; have := S12.size; have := b13.size; omega))
         have t7 : True := trivial
         clear d12 q12 r12 S12 b13 a14 z14 r14 b14 s15 B14 r15)
      | (refine at_getG (by rfl) _ (by rfl) g9 (by rfl) _ r15' ?_)
      | (have _t := t7; refine at_getG (by rfl) _ (by rfl) g3 (by rfl) _ q15 ?_; clear _t)
      | (go_at_call 11; refine (hF _).mono ?_; rintro e w16 ⟨rfl, b16⟩)
      | (refine at_putM (by rfl) _ _ (by rfl) gl 1 n n _ _ (by rfl) rfl F (by rfl) (d15.later b16) (by omega) ?_; intro w17 d17 s17; clear t7
         rw [HA2.out] at d17
         have S17 := (S15.next (Stp.of_below b16 (fun _ => False)) (fun _ h => h.elim)).next s17 (fun x hx => .inl (by subst hx; exact hgl))
         clear d15 q15 r15' S15 b16 s17)
      | (go_at_call 17; refine (h5 _ _ _ _ d17.bls).mono ?_; rintro e W ⟨v, rfl, mv, hv, b18⟩
         have dW := d17.later b18
         have SW := S17.next (Stp.of_below b18 (fun _ => False)) (fun _ h => h.elim)
         have hvW : ∀ b, v = .map (some b) → b ≠ gl := fun b e => by have := hv b e; have := d17.lt; omega
         clear d17 S17 b18 hv))
    have hvW2 : ∀ b, v = .map (some b) → ¬ (b = gl ∨ W.heap.size ≤ b) := fun b e => by
      have h0 := hvW b e
      rcases mv with ⟨e', _⟩ | ⟨b', e', hm⟩
      · rw [e'] at e; injection e with e; cases e
      · rw [e'] at e; injection e with e; injection e with e; subst e; have := hm.lt; omega
    clear h1 h3 h4 h5 hF HA HA1 HA2 hvW
    have hz : Hid (mK A2 2 = mended A2) := mK_two A2
    go_loopw [17] (fun i wr => ∃ k : Nat, k ≤ 2 ∧ i = .int .i64 k ∧ Wd wr gl n n (mK A2 k) ∧ Stp (fun x => x = gl ∨ W.heap.size ≤ x) W wr) (fun i _ => 2 - (intOf i).toNat)
    case atStart => exact ⟨0, Nat.zero_le _, rfl, dW, Stp.refl _ _⟩
    case round =>
      obtain ⟨k, hk, rfl, dk, sk⟩ := hrel
      by_cases hlt : k < 2
      · have mk := mv.step sk hvW2
        have hwf := wf_small k (by omega)
        have hkn : k < n := by omega
        cases hm : mdF A2 (k : Int) with
        | none =>
          have hd1 : Hid (mK A2 (k + 1) = mK A2 k) := mK_none hm
          have e1 : ((mdF A2) (k : Int)).isSome = false := by rw [hm]; rfl
          have e2' : (((mdF A2) (k : Int)).getD Blk.zero) = Blk.zero := by rw [hm]; rfl
          go_wp2_with (first
            | (refine at_mlook (by rfl) _ _ (by rfl) v _ _ (by rfl) mk (k : Int) (by rfl) hwf ?_; rw [e1, e2'])
            | (refine at_new 32 64 arrB (by rfl) (by rfl) ?_; intro g6 w6 a6 z6 r6 b6)
            | (refine at_put 32 64 arrB (by rfl) _ _ (by rfl) g6 (by rfl) Blk.zero.l (by rfl) Blk.zero.len _ r6 (by simp) ?_; intro w7 r7 s7
               have S7 : Stp (fun z => wr.heap.size ≤ z) wr w7 := (Stp.of_below b6 _).next s7 (fun z hz => .inl (by subst hz; exact a6))))
          go_roundw
          case rel => exact ⟨k + 1, by omega, by go_num, by rw [hd1.out]; exact dk.step S7 (by have := dk.lt; omega), sk.next S7 (fun z hz => .inr (Nat.le_trans sk.size hz))⟩
          case measure => simp [intOf]; omega
        | some y =>
          have hd1 : Hid (mK A2 (k + 1) = (mK A2 k).set k y) := mK_some hm
          have e1 : ((mdF A2) (k : Int)).isSome = true := by rw [hm]; rfl
          have e2' : (((mdF A2) (k : Int)).getD Blk.zero) = y := by rw [hm]; rfl
          have hly := y.len
          have t8 : True := trivial
          go_wp2_with (first
            | (refine at_mlook (by rfl) _ _ (by rfl) v _ _ (by rfl) mk (k : Int) (by rfl) hwf ?_; rw [e1, e2'])
            | (refine at_new 32 64 arrB (by rfl) (by rfl) ?_; intro g6 w6 a6 z6 r6 b6)
            | (have _t := t8; refine at_put 32 64 arrB (by rfl) _ _ (by rfl) g6 (by rfl) y.l (by rfl) hly _ r6 (by simp) ?_; intro w7 r7 s7; clear _t t8
               have S7 : Stp (fun z => wr.heap.size ≤ z) wr w7 := (Stp.of_below b6 _).next s7 (fun z hz => .inl (by subst hz; exact a6))
               have d7 := dk.step S7 (by have := dk.lt; omega))
            | (refine at_getB (by rfl) _ (by rfl) g6 (by rfl) y r7 ?_)
            | (refine at_putM (by rfl) _ _ (by rfl) gl k n n _ _ (by rfl) rfl y (by rfl) d7 hkn ?_; intro w8 d8 s8
               have S8 : Stp (fun z => z = gl ∨ wr.heap.size ≤ z) wr w8 := (S7.mono (F' := fun z => z = gl ∨ wr.heap.size ≤ z) (fun z hz => .inl (.inr hz))).next s8 (fun z hz => .inl (.inl hz))))
          go_roundw
          case rel => exact ⟨k + 1, by omega, by go_num, by rw [hd1.out]; exact d8, sk.next S8 (fun z hz => by rcases hz with hz | hz; exact .inl (.inl hz); exact .inr (Nat.le_trans sk.size hz))⟩
          case measure => simp [intOf]; omega
      · obtain rfl : k = 2 := by omega
        have SE := SW.next sk (fun z hz => .inl (by rcases hz with hz | hz; omega; exact Nat.le_trans SW.size hz))
        rw [hz.out] at dk
        go_wp2_with (first
          | (go_at_call 17; refine (h6 _ _ _ _ dk.bls).mono ?_; rintro e w20 ⟨v2, rfl, mv2, _, b20⟩)
          | (refine at_mlen (by rfl) _ (by rfl) v2 _ _ (by rfl) mv2 ?_))
        go_returns
        exact ⟨rfl, (SE.next (Stp.of_below b20 (fun _ => False)) (fun _ h => h.elim)).below (Nat.le_refl _) (fun _ h => h)⟩
theorem walk (s : Gm) (x : Int) (b : Blk) (w : World) (hx : (Lit.int .u8 x).wf = true) :
    Calls Try.prog 5 #[.agg #[.int .i64 s.g, .int .i64 s.i, .int .i64 s.d], .int .u8 x, .agg b.cs.toArray] w fun e w' => e = .returned (.bool true) ∧ Below w.heap.size w w' := by
  by_cases hs : s.ok
  · have hr := bounds_u8 hx
    have ht : x.tmod 2 = x % 2 := Int.tmod_eq_emod_of_nonneg (by omega)
    by_cases h2 : x % 2 = 0
    · exact walk0 s x b w hs (by rw [ht]; exact h2)
    · exact walk1 s x b w hs (by rw [ht]; omega)
  · exact walk_no s x b w hs

theorem own : ownKnob Try.prog.godebug = none := by kernel_rfl
theorem laidOut : laidOutB Try.prog = true := by kernel_rfl
set_option maxRecDepth 100000 in
theorem lifted (os : Os) (started : os.Started) (H : Type) (enc : TypeId × Value → H) :
    ReturnsInHanded {} Try.checked os 5 .any (Rows.superTwiceSpec.pre6 enc Try.prog Try.f5 Rows.superTwiceRow.domain false) (Rows.superTwiceSpec.post enc Try.prog Try.f5 false true false false) := by
  refine returnsInHanded_of_change (C := Try.checked) own started (by kernel_rfl) Try.func5
    (ChangeSpec.witness6 (enc := enc) (C := Try.checked) false ⟨#[], #[.agg #[.int .i64 0, .int .i64 0, .int .i64 0], .int .u8 0, .agg Blk.zero.cs.toArray], []⟩ 8 (by kernel_rfl) (by kernel_rfl) (by kernel_rfl) (by kernel_rfl)) ?_
  intro W base args ds gs before hval0 hW hcnd _
  have hval : ∀ (j : Nat) t v, Try.f5.params[j]? = some t → args[j]? = some v → Value.okWide Try.prog W .any base t v := hval0
  have hW' := hW
  obtain ⟨p, q, hA0, hV, rfl, hfz, hnd⟩ := hW
  have hA : DataW.TrodAll enc Try.prog W 0 (fun _ => true) true Try.f5.params.toList args.toList ds p := hA0
  rw [Try.params5] at hA hval
  obtain ⟨v0, vs0, d0, ds0, p0, q0, hargs, rfl, rfl, h0, r0⟩ := trodAll_cons hA
  obtain ⟨v1, vs1, d1, ds1, p1, q1, rfl, rfl, rfl, h1, r1⟩ := trodAll_cons r0
  obtain ⟨v2, vs2, d2, ds2, p2, q2, rfl, rfl, rfl, h2, r2⟩ := trodAll_cons r1
  obtain ⟨rfl, rfl, rfl⟩ := trodAll_nil r2
  obtain rfl : args = #[v0, v1, v2] := by cases args; simp_all
  obtain ⟨rfl, rfl⟩ := trodVars_none hV
  have k0 := h0
  have lt0 : ∀ x ∈ p0, x.block < W.heap.size := by obtain ⟨m, hm⟩ := k0; exact DataW.trod_lt m _ _ _ hm
  obtain ⟨c00, c01, c02, y00, y01, y02, m0, rfl, rfl, rfl, hy00, hy01, hy02⟩ := Go.Joins.open_agg3 Try.underlying23 (by kernel_rfl) (by kernel_rfl) (hval 0 23 v0 rfl rfl) h0
  obtain ⟨x00, e00, _, _⟩ := DataW.trod_int Try.underlying3 hy00
  injection e00 with e00
  subst e00
  obtain ⟨x01, e01, _, _⟩ := DataW.trod_int Try.underlying3 hy01
  injection e01 with e01
  subst e01
  obtain ⟨x02, e02, _, _⟩ := DataW.trod_int Try.underlying3 hy02
  injection e02 with e02
  subst e02
  obtain ⟨a1, rfl, rfl, rfl, w1⟩ := open_int Try.underlying5 (hval 1 5 v1 rfl rfl) h1
  obtain ⟨cs2, rfl, _⟩ := okWide_row arrB.und (hval 2 32 v2 rfl rfl)
  have k2 := h2
  have lt2 : ∀ x ∈ p2, x.block < W.heap.size := by obtain ⟨m, hm⟩ := k2; exact DataW.trod_lt m _ _ _ hm
  obtain ⟨b2, e2⟩ : ∃ b : Blk, cs2 = b.cs.toArray := by
    obtain ⟨fuel, hf⟩ := h2
    obtain ⟨b, hb⟩ := blkOfTrod hf
    exact ⟨b, by rw [hb]; simp [Value.cells]⟩
  subst e2
  clear hA0 hval0
  refine (walk ⟨x00, x01, x02⟩ a1 b2 W w1).mono fun e W' ⟨he, bel⟩ => ?_
  subst he
  exact ⟨_, rfl, _, _, _, [], _, [], hW', trodAll_mk1 (shut_bool Try.underlying4 _), (trodAll_cons_mk (Below.trod laidOut (by kernel_rfl) (of_decide_eq_true (by kernel_rfl)) k0 bel lt0) (trodAll_cons_mk (shut_int Try.underlying5 w1) (trodAll_cons_mk (Below.trod laidOut (by kernel_rfl) (of_decide_eq_true (by kernel_rfl)) k2 bel lt2) trodAll_mk0))), rfl, bel.frame _, fun h => by cases h⟩
theorem over : Rows.superTwiceRow.holds Try.pinned (OpenSpec.ofChange Rows.superTwiceSpec) :=
  OpenClaim.holds_of_wide 5 Try.f5 rfl rfl rfl rfl rfl rfl rfl ⟨rfl, rfl, rfl, rfl, rfl⟩ rfl rfl rfl rfl rfl (by kernel_rfl) Try.func5 (by kernel_rfl)
    (of_decide_eq_true (by kernel_rfl)) (by unfold Func.isWrapper; first | (rw [if_pos (by decide +kernel)]; kernel_rfl) | (rw [if_neg (by decide +kernel)]; exact ⟨rfl, rfl⟩))
    (fun os started H enc _ => lifted os started H enc)
end Go.Proofs.Ytjbgcbokffaemaa.superTwice
namespace Go.Proofs.Ytjbgcbokffaemaa
/-- The statement. -/
theorem superTwice_holds : Rows.SuperTwiceSaid := superTwice.over
#print axioms superTwice_holds
end Go.Proofs.Ytjbgcbokffaemaa
