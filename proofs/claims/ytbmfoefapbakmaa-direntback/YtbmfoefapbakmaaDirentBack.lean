/-
  The statement DirentBack, proved: for every load, slot and entry the law returns true; no condition.
-/
import Derived.Test.YtbmfoefapbakmaaDirW
import Derived.Test.YtbmfoefapbakmaaDirIn
import Derived.Test.YtbmfoefapbakmaaBaseA
namespace Go.Proofs.Ytbmfoefapbakmaa.direntBack
open Go.ChangeShapes Go.WideShapes Go.ChangeAt Go.RowKit
set_option linter.unusedVariables false

/-- What stands in slot i of the three loads. -/
theorem there (p : Ld) (j : Nat) (X : Ent) (hj : j ≤ 3) (h : dE X = 0) : atE (dputs p j (dL X)) (j : Int) = X ∧ atI (dputs p j (dL X)) (j : Int) = 1 ∧ atI (dputs (dputs p j (dL X)) j z13) (j : Int) = 0 := by
  have hl := dL_len (nm_is (dE_is h).2).1.2.1
  rw [atE_at _ j hj, atI_at _ j hj, atI_at _ j hj, dslot_dputs p j _ hj hl, dslot_dputs _ j z13 hj rfl]
  exact ⟨tE_dL h, tI_dL h, tI_zero⟩
theorem others (p : Ld) (j i : Nat) (X : Ent) (hj : j ≤ 3) (hi : i ≤ 3) (hn : i ≠ j) (h : dE X = 0) : atE (dputs p j (dL X)) (i : Int) = atE p (i : Int) ∧ atI (dputs p j (dL X)) (i : Int) = atI p (i : Int) ∧ atE (dputs (dputs p j (dL X)) j z13) (i : Int) = atE p (i : Int) ∧ atI (dputs (dputs p j (dL X)) j z13) (i : Int) = atI p (i : Int) := by
  have hl := dL_len (nm_is (dE_is h).2).1.2.1
  have e1 := dslot_other p j i (dL X) hj hl hi hn
  have e2 := dslot_other (dputs p j (dL X)) j i z13 hj rfl hi hn
  rw [atE_at _ i hi, atI_at _ i hi, atE_at _ i hi, atI_at _ i hi, atE_at _ i hi, atI_at _ i hi, e2, e1]
  exact ⟨rfl, rfl, rfl, rfl⟩
set_option maxRecDepth 100000 in
set_option maxHeartbeats 8000000 in
theorem walk (p : Ld) (sl : Int) (x : Ent) (w : World) (hsl : (Lit.int .u8 sl).wf = true) : Calls Try.prog 6 #[.agg p.cs.toArray, .int .u8 sl, .agg x.cs.toArray] w fun e w' => e = .returned (.bool true) ∧ Below w.heap.size w w' := by
  have hp := p.len
  have hb := bounds_u8 hsl
  obtain ⟨j, hj0⟩ : ∃ j : Nat, Hid (sl % 4 = (j : Int)) := ⟨(sl % 4).toNat, by show _ = _; omega⟩
  have hj : j ≤ 3 := by have := hj0.out; omega
  have hm1 : sl.tmod 4 = (j : Int) := by rw [Int.tmod_eq_emod_of_nonneg (by omega)]; exact hj0.out
  have hm2 : sl % 4 = (j : Int) := hj0.out
  have hwj : wrap64 (j : Int) = (j : Int) := by simp only [wrap64]; omega
  have hAm := fun w => among_any x.n 65535 w (by decide) (by decide)
  have hlt := among_lt x.n 65535 (by decide)
  generalize among x.n 65535 = A at *
  have hwA : IntKind.i64.wrap (1 + (A : Int)) = 1 + (A : Int) := by rw [IntKind.wrap_i64]; omega
  obtain ⟨X, hX⟩ : ∃ X : Ent, Hid (⟨1 + (A : Int), x.s⟩ = X) := ⟨_, rfl⟩
  have hXs : Hid (X.s = x.s) := by show _ = _; rw [← hX.out]
  have hXn : isI X.n := by rw [← hX.out]; exact ⟨by show 1 ≤ 1 + (A : Int); omega, by show 1 + (A : Int) ≤ 65535; omega⟩
  have hDE : dE X = nE x.s := by unfold dE; rw [if_pos hXn, hXs.out]
  have hjD : isD (j : Int) := ⟨by omega, by omega⟩
  have hW := dwith_any p (j : Int) X
  have hwi : wiE (j : Int) X = nE x.s := by unfold wiE; rw [if_pos hjD, hDE]
  rw [hwi] at hW
  clear hj0 hwi hb hsl
  by_cases h : nE x.s = 0
  · have hd : dE X = 0 := by rw [hDE]; exact h
    have e1 : wiL p (j : Int) X = dputs p j (dL X) := by unfold wiL; rw [if_pos ⟨hjD, hd⟩]; rfl
    have hF := dwithout_any (dputs p j (dL X)) (j : Int)
    have e2 : woL (dputs p j (dL X)) (j : Int) = dputs (dputs p j (dL X)) j z13 := by unfold woL; rw [if_pos hjD]; rfl
    have e3 : skE (j : Int) = 0 := by unfold skE; rw [if_pos hjD]
    rw [e1, h] at hW
    rw [e2, e3] at hF
    have hT : Hid (atE (dputs p j (dL X)) (j : Int) = X ∧ atI (dputs p j (dL X)) (j : Int) = 1 ∧ atI (dputs (dputs p j (dL X)) j z13) (j : Int) = 0) := there p j X hj hd
    have hOt : Hid (∀ i : Nat, i ≤ 3 → i ≠ j → atE (dputs p j (dL X)) (i : Int) = atE p (i : Int) ∧ atI (dputs p j (dL X)) (i : Int) = atI p (i : Int) ∧ atE (dputs (dputs p j (dL X)) j z13) (i : Int) = atE p (i : Int) ∧ atI (dputs (dputs p j (dL X)) j z13) (i : Int) = atI p (i : Int)) := fun i hi hn => others p j i X hj hi hn hd
    have hq := (dputs p j (dL X)).len
    have hr := (dputs (dputs p j (dL X)) j z13).len
    clear hDE e1 e2 e3 h hd hXn hjD
    generalize dputs (dputs p j (dL X)) j z13 = R at *
    generalize dputs p j (dL X) = Q at *
    have t1 : True := trivial
    go_enter Try.func6, Try.ntmps6
    go_wp2_with (first
      | (refine at_box 36 54 arrL (by rfl) _ (by rfl) p.l (by rfl) hp ?_; intro g3 w1 a1 z1 r1 b1)
      | (refine at_boxE (by rfl) _ (by rfl) x (by rfl) ?_; intro g5 w2 a2 z2 r2 b2)
      | (go_at_call 13; refine (works12_any _).mono ?_; rintro e w3 ⟨rfl, b3⟩
         have r3 := r2.later b3
         obtain ⟨q0, q1⟩ := r3.ent)
      | (go_at_call 27; refine (hAm _).mono ?_; rintro e u ⟨rfl, rfl⟩)
      | (refine at_setN (by rfl) _ _ (by rfl) g5 (by rfl) (1 + (A : Int)) (by first | rfl | (show Value.int .i64 (IntKind.i64.wrap (1 + (A : Int))) = _; rw [hwA])) x r3 ?_; intro w4 x4 s4
         rw [hX.out] at x4
         have p4 : Row w4 g3 p.l := ((r1.later b2).later b3).step s4 (by have := r1.lt; omega)
         have S4 : Stp (fun y => w.heap.size ≤ y) w w4 := (Stp.of_below (bnext (bnext b1 b2 (Nat.le_refl _)) b3 (Nat.le_refl _)) _).next s4 (fun y hy => .inl (by subst hy; have := b1.size; omega))
         clear q0 q1 r1 r2 r3 b1 b2 b3 s4 a1 z1 a2 z2)
      | (have _t := t1; refine at_getL (by rfl) _ (by rfl) g3 (by rfl) p p4 ?_; clear _t)
      | (have _t := t1; refine at_getE (by rfl) _ (by rfl) g5 (by rfl) X x4 ?_; clear _t)
      | (go_at_call 16; refine (hW _).mono ?_; rintro e w5 ⟨rfl, b5⟩)
      | (have _t := t1; refine at_new 36 54 arrL (by rfl) (by rfl) ?_; intro g8 w6 a6 z6 r6 b6; clear _t)
      | (have _t := t1; refine at_put 36 54 arrL (by rfl) _ _ (by rfl) g8 (by rfl) Q.l (by rfl) hq _ r6 (by simp) ?_; intro w7 q7 s7
         have p7 : Row w7 g3 p.l := ((p4.later b5).later b6).step s7 (by have := (p4.later b5).lt; omega)
         have x7 : Cs w7 g5 X.cs := ((x4.later b5).later b6).step s7 (by have := (x4.later b5).lt; omega)
         have S7 : Stp (fun y => w.heap.size ≤ y) w w7 := (S4.next (Stp.of_below (bnext b5 b6 (Nat.le_refl _)) (fun _ => False)) (fun _ h => h.elim)).next s7 (fun y hy => .inl (by subst hy; have := S4.size; have := b5.size; omega))
         clear _t t1 p4 x4 S4 b5 b6 r6 a6 z6 s7)
      | (refine at_getL (by rfl) _ (by rfl) g8 (by rfl) Q q7 ?_)
      | (go_at_call 18; refine (hF _).mono ?_; rintro e w8 ⟨rfl, b8⟩)
      | (refine at_new 36 54 arrL (by rfl) (by rfl) ?_; intro g10 w9 a9 z9 r9 b9)
      | (refine at_put 36 54 arrL (by rfl) _ _ (by rfl) g10 (by rfl) R.l (by rfl) hr _ r9 (by simp) ?_; intro W rW s10
         have pW : Row W g3 p.l := ((p7.later b8).later b9).step s10 (by have := (p7.later b8).lt; omega)
         have xW : Cs W g5 X.cs := ((x7.later b8).later b9).step s10 (by have := (x7.later b8).lt; omega)
         have qW : Row W g8 Q.l := ((q7.later b8).later b9).step s10 (by have := (q7.later b8).lt; omega)
         have SW : Stp (fun y => w.heap.size ≤ y) w W := (S7.next (Stp.of_below (bnext b8 b9 (Nat.le_refl _)) (fun _ => False)) (fun _ h => h.elim)).next s10 (fun y hy => .inl (by subst hy; have := S7.size; have := b8.size; omega))
         clear p7 x7 q7 S7 b8 b9 r9 a9 z9 s10))
    have BW := SW.below (Nat.le_refl _) (fun _ h => h)
    clear SW hW hF hAm hwA hm1 hm2 hX
    go_loopw [12] (fun iv wr => ∃ i : Nat, i ≤ 4 ∧ iv = .int .i64 i ∧ Below W.heap.size W wr) (fun iv _ => 4 - (intOf iv).toNat)
    case atStart => exact ⟨0, by omega, rfl, Below.refl _ _⟩
    case round =>
      obtain ⟨i, hi, rfl, bi⟩ := hrel
      by_cases hlt4 : i < 4
      · have hlt' : (i : Int) < 4 := by omega
        have p0 := pW.later bi
        have x0 := xW.later bi
        have q0 := qW.later bi
        have r0 := rW.later bi
        have hA := dat_any p (i : Int)
        have hB := dat_any Q (i : Int)
        have hC := dat_any R (i : Int)
        have hcase : (i = j ∧ atE Q (i : Int) = X ∧ atI Q (i : Int) = 1 ∧ atI R (i : Int) = 0) ∨ (i ≠ j ∧ atE Q (i : Int) = atE p (i : Int) ∧ atI Q (i : Int) = atI p (i : Int) ∧ atE R (i : Int) = atE p (i : Int) ∧ atI R (i : Int) = atI p (i : Int)) := by
          by_cases hij : i = j
          · subst hij; exact .inl ⟨rfl, hT.out⟩
          · exact .inr ⟨hij, hOt.out i (by omega) hij⟩
        have hg1 := guardE
        rcases hcase with ⟨hij, f1, f2, f3⟩ | ⟨hij, f1, f2, f3, f4⟩
        · rw [f1, f2] at hB
          rw [f3] at hC
          subst hij
          have he := eqE X X
          rw [ent_self] at he
          clear f1 f2 f3 hT hOt
          generalize atE p (i : Int) = Ya at *
          generalize atI p (i : Int) = Ia at *
          generalize atE R (i : Int) = Yc at *
          have t1 : True := trivial
          have t2 : True := trivial
          have t3 : True := trivial
          go_wp2_with (first
            | (have _t := u1; refine at_getE (by rfl) _ (by rfl) g16 (by rfl) X y6' ?_; clear _t u1)
            | (have _t := u2; refine at_getE (by rfl) _ (by rfl) g5 (by rfl) X x3 ?_; clear _t u2)
            | (have _t := t1; refine at_getL (by rfl) _ (by rfl) g3 (by rfl) p p0 ?_; clear _t)
            | (have _t := t1; go_at_call 14; refine (hA _).mono ?_; rintro e v1 ⟨rfl, b1⟩; clear _t)
            | (have _t := t1; refine at_newE (by rfl) (by rfl) ?_; intro g13 v2 a2 z2 r2 b2; clear _t)
            | (have _t := t1; refine at_putE (by rfl) _ _ (by rfl) g13 (by rfl) Ya (by rfl) Ent.zero r2 ?_; intro v3 y3 s3
               have S3 : Stp (fun y => wr.heap.size ≤ y) wr v3 := (Stp.of_below (bnext b1 b2 (Nat.le_refl _)) _).next s3 (fun y hy => .inl (by subst hy; have := b1.size; omega))
               have c1 := S3.below (Nat.le_refl _) (fun _ h => h)
               have x1 := x0.later c1
               have q1 := q0.later c1
               have r1 := r0.later c1
               clear _t t1 p0 x0 q0 r0 b1 b2 s3 r2 a2 z2 S3)
            | (have _t := t2; refine at_getL (by rfl) _ (by rfl) g8 (by rfl) Q q1 ?_; clear _t)
            | (have _t := t2; go_at_call 14; refine (hB _).mono ?_; rintro e v4 ⟨rfl, b4⟩; clear _t)
            | (have _t := t2; refine at_newE (by rfl) (by rfl) ?_; intro g16 v5 a5 z5 r5 b5; clear _t)
            | (have _t := t2; refine at_putE (by rfl) _ _ (by rfl) g16 (by rfl) X (by rfl) Ent.zero r5 ?_; intro v6 y6 s6
               have S6 : Stp (fun y => v3.heap.size ≤ y) v3 v6 := (Stp.of_below (bnext b4 b5 (Nat.le_refl _)) _).next s6 (fun y hy => .inl (by subst hy; have := b4.size; omega))
               have c2' := S6.below (Nat.le_refl _) (fun _ h => h)
               have c2 := bnext c1 c2' (Nat.le_refl _)
               have x2 := x1.later c2'
               have rr2 := r1.later c2'
               have y3' := y3.later c2'
               clear _t t2 x1 q1 r1 y3 b4 b5 s6 r5 a5 z5 S6 c2' c1)
            | (have _t := t3; refine at_getL (by rfl) _ (by rfl) g10 (by rfl) R rr2 ?_; clear _t)
            | (have _t := t3; go_at_call 14; refine (hC _).mono ?_; rintro e v7 ⟨rfl, b7⟩; clear _t)
            | (have _t := t3; refine at_newE (by rfl) (by rfl) ?_; intro g19 v8 a8 z8 r8 b8; clear _t)
            | (have _t := t3; refine at_putE (by rfl) _ _ (by rfl) g19 (by rfl) Yc (by rfl) Ent.zero r8 ?_; intro v9 y9 s9
               have S9 : Stp (fun y => v6.heap.size ≤ y) v6 v9 := (Stp.of_below (bnext b7 b8 (Nat.le_refl _)) _).next s9 (fun y hy => .inl (by subst hy; have := b7.size; omega))
               have c3' := S9.below (Nat.le_refl _) (fun _ h => h)
               have c3 := bnext c2 c3' (Nat.le_refl _)
               have x3 := x2.later c3'
               have y3'' := y3'.later c3'
               have y6' := y6.later c3'
               clear _t t3 x2 rr2 y3' y6 b7 b8 s9 r8 a8 z8 S9 c3' c2
               have u1 : True := trivial
               have u2 : True := trivial
               have u3 : True := trivial
               have u4 : True := trivial))
          go_roundw
          case rel => exact ⟨i + 1, by omega, by go_num, bnext bi c3 (Nat.le_refl _)⟩
          case measure => simp [intOf]; omega
        · rw [f1, f2] at hB
          rw [f3, f4] at hC
          have he : ∀ w, (Op.equalIn 10000 23 (.agg #[.int .i64 (atE p (i : Int)).n, .string (str (atE p (i : Int)).s)]) (.agg #[.int .i64 (atE p (i : Int)).n, .string (str (atE p (i : Int)).s)])).run Try.prog w = .ok true w := fun w => by
            have := eqE (atE p (i : Int)) (atE p (i : Int)) w
            rw [ent_self] at this; exact this
          have hne : ¬ (i : Int) = (j : Int) := by omega
          have hne2 : ((i : Int) == (j : Int)) = false := by simpa using hne
          have hne3 : ((i : Int) != (j : Int)) = true := by simpa using hne
          clear f1 f2 f3 f4 hT hOt
          generalize atE p (i : Int) = Ya at *
          generalize atI p (i : Int) = Ia at *
          have t1 : True := trivial
          have t2 : True := trivial
          have t3 : True := trivial
          go_wp2_with (first
            | (have _t := t1; refine at_getL (by rfl) _ (by rfl) g3 (by rfl) p p0 ?_; clear _t)
            | (have _t := t1; go_at_call 14; refine (hA _).mono ?_; rintro e v1 ⟨rfl, b1⟩; clear _t)
            | (have _t := t1; refine at_newE (by rfl) (by rfl) ?_; intro g13 v2 a2 z2 r2 b2; clear _t)
            | (have _t := t1; refine at_putE (by rfl) _ _ (by rfl) g13 (by rfl) Ya (by rfl) Ent.zero r2 ?_; intro v3 y3 s3
               have S3 : Stp (fun y => wr.heap.size ≤ y) wr v3 := (Stp.of_below (bnext b1 b2 (Nat.le_refl _)) _).next s3 (fun y hy => .inl (by subst hy; have := b1.size; omega))
               have c1 := S3.below (Nat.le_refl _) (fun _ h => h)
               have x1 := x0.later c1
               have q1 := q0.later c1
               have r1 := r0.later c1
               clear _t t1 p0 x0 q0 r0 b1 b2 s3 r2 a2 z2 S3)
            | (have _t := t2; refine at_getL (by rfl) _ (by rfl) g8 (by rfl) Q q1 ?_; clear _t)
            | (have _t := t2; go_at_call 14; refine (hB _).mono ?_; rintro e v4 ⟨rfl, b4⟩; clear _t)
            | (have _t := t2; refine at_newE (by rfl) (by rfl) ?_; intro g16 v5 a5 z5 r5 b5; clear _t)
            | (have _t := t2; refine at_putE (by rfl) _ _ (by rfl) g16 (by rfl) Ya (by rfl) Ent.zero r5 ?_; intro v6 y6 s6
               have S6 : Stp (fun y => v3.heap.size ≤ y) v3 v6 := (Stp.of_below (bnext b4 b5 (Nat.le_refl _)) _).next s6 (fun y hy => .inl (by subst hy; have := b4.size; omega))
               have c2' := S6.below (Nat.le_refl _) (fun _ h => h)
               have c2 := bnext c1 c2' (Nat.le_refl _)
               have x2 := x1.later c2'
               have rr2 := r1.later c2'
               have y3' := y3.later c2'
               clear _t t2 x1 q1 r1 y3 b4 b5 s6 r5 a5 z5 S6 c2' c1)
            | (have _t := t3; refine at_getL (by rfl) _ (by rfl) g10 (by rfl) R rr2 ?_; clear _t)
            | (have _t := t3; go_at_call 14; refine (hC _).mono ?_; rintro e v7 ⟨rfl, b7⟩; clear _t)
            | (have _t := t3; refine at_newE (by rfl) (by rfl) ?_; intro g19 v8 a8 z8 r8 b8; clear _t)
            | (have _t := t3; refine at_putE (by rfl) _ _ (by rfl) g19 (by rfl) Ya (by rfl) Ent.zero r8 ?_; intro v9 y9 s9
               have S9 : Stp (fun y => v6.heap.size ≤ y) v6 v9 := (Stp.of_below (bnext b7 b8 (Nat.le_refl _)) _).next s9 (fun y hy => .inl (by subst hy; have := b7.size; omega))
               have c3' := S9.below (Nat.le_refl _) (fun _ h => h)
               have c3 := bnext c2 c3' (Nat.le_refl _)
               have x3 := x2.later c3'
               have y3'' := y3'.later c3'
               have y6' := y6.later c3'
               clear _t t3 x2 rr2 y3' y6 b7 b8 s9 r8 a8 z8 S9 c3' c2
               obtain ⟨k0, k1⟩ := y3''.ent
               obtain ⟨k2, k3⟩ := y6'.ent
               obtain ⟨k4, k5⟩ := y9.ent))
          go_roundw
          case rel => exact ⟨i + 1, by omega, by go_num, bnext bi c3 (Nat.le_refl _)⟩
          case measure => simp [intOf]; omega
      · obtain rfl : i = 4 := by omega
        clear hT hOt
        go_wp2
        go_returns
        exact ⟨rfl, bnext BW bi (Nat.le_refl _)⟩
  · have hd : ¬ dE X = 0 := by rw [hDE]; exact h
    have e1 : wiL p (j : Int) X = Ld.zero := by unfold wiL; rw [if_neg (fun hh => hd hh.2)]
    rw [e1] at hW
    have hK := check_any x.s
    have he := eqL Ld.zero Ld.zero
    rw [decide_eq_true rfl] at he
    have hg := guardL
    have hzl := Ld.zero.len
    clear hDE e1 hd hXn hjD
    generalize nE x.s = N at *
    go_enter Try.func6, Try.ntmps6
    go_wp2_with (first
      | (refine at_box 36 54 arrL (by rfl) _ (by rfl) p.l (by rfl) hp ?_; intro g3 w1 a1 z1 r1 b1)
      | (refine at_boxE (by rfl) _ (by rfl) x (by rfl) ?_; intro g5 w2 a2 z2 r2 b2)
      | (go_at_call 13; refine (works12_any _).mono ?_; rintro e w3 ⟨rfl, b3⟩
         have r3 := r2.later b3
         obtain ⟨q0, q1⟩ := r3.ent)
      | (go_at_call 27; refine (hAm _).mono ?_; rintro e u ⟨rfl, rfl⟩)
      | (refine at_setN (by rfl) _ _ (by rfl) g5 (by rfl) (1 + (A : Int)) (by first | rfl | (show Value.int .i64 (IntKind.i64.wrap (1 + (A : Int))) = _; rw [hwA])) x r3 ?_; intro w4 x4 s4
         rw [hX.out] at x4
         have p4 : Row w4 g3 p.l := ((r1.later b2).later b3).step s4 (by have := r1.lt; omega)
         have S4 : Stp (fun y => w.heap.size ≤ y) w w4 := (Stp.of_below (bnext (bnext b1 b2 (Nat.le_refl _)) b3 (Nat.le_refl _)) _).next s4 (fun y hy => .inl (by subst hy; have := b1.size; omega))
         clear q0 q1 r1 r2 r3 b1 b2 b3 s4 a1 z1 a2 z2)
      | (refine at_getL (by rfl) _ (by rfl) g3 (by rfl) p p4 ?_)
      | (refine at_getE (by rfl) _ (by rfl) g5 (by rfl) X x4 ?_)
      | (go_at_call 16; refine (hW _).mono ?_; rintro e w5 ⟨rfl, b5⟩)
      | (refine at_new 36 54 arrL (by rfl) (by rfl) ?_; intro g8 w6 a6 z6 r6 b6)
      | (refine at_put 36 54 arrL (by rfl) _ _ (by rfl) g8 (by rfl) Ld.zero.l (by rfl) hzl _ r6 (by simp) ?_; intro w7 q7 s7
         have x7 : Cs w7 g5 X.cs := ((x4.later b5).later b6).step s7 (by have := (x4.later b5).lt; omega)
         have S7 : Stp (fun y => w.heap.size ≤ y) w w7 := (S4.next (Stp.of_below (bnext b5 b6 (Nat.le_refl _)) (fun _ => False)) (fun _ h => h.elim)).next s7 (fun y hy => .inl (by subst hy; have := S4.size; have := b5.size; omega))
         have c1 : w7.cell? ⟨g5, 1, none⟩ = some (.string (str x.s)) := (by have := x7.ent.2; rwa [hXs.out] at this)
         clear p4 x4 S4 b5 b6 r6 a6 z6 s7)
      | (go_at_call 11; refine (hK _).mono ?_; rintro e w8 ⟨rfl, b8⟩; have q8 := q7.later b8)
      | (refine at_getL (by rfl) _ (by rfl) g8 (by rfl) Ld.zero q8 ?_)
      | (refine at_bldL (by rfl) (by rfl) ?_))
    go_returns
    exact ⟨rfl, (S7.next (Stp.of_below b8 (fun _ => False)) (fun _ h => h.elim)).below (Nat.le_refl _) (fun _ h => h)⟩
theorem own : ownKnob Try.prog.godebug = none := by kernel_rfl
theorem laidOut : laidOutB Try.prog = true := by kernel_rfl
set_option maxRecDepth 100000 in
theorem lifted (os : Os) (started : os.Started) (H : Type) (enc : TypeId × Value → H) :
    ReturnsInHanded {} Try.checked os 6 .any (Rows.direntBackSpec.pre6 enc Try.prog Try.f6 Rows.direntBackRow.domain false) (Rows.direntBackSpec.post enc Try.prog Try.f6 false true false false) := by
  refine returnsInHanded_of_change (C := Try.checked) own started (by kernel_rfl) Try.func6
    (ChangeSpec.witness6 (enc := enc) (C := Try.checked) false ⟨#[], #[.agg Ld.zero.cs.toArray, .int .u8 0, .agg Ent.zero.cs.toArray], []⟩ 8 (by kernel_rfl) (by kernel_rfl) (by kernel_rfl) (by kernel_rfl)) ?_
  intro W base args ds gs before hval0 hW hcnd _
  have hval : ∀ (j : Nat) t v, Try.f6.params[j]? = some t → args[j]? = some v → Value.okWide Try.prog W .any base t v := hval0
  have hW' := hW
  obtain ⟨p, q, hA0, hV, rfl, hfz, hnd⟩ := hW
  have hA : DataW.TrodAll enc Try.prog W 0 (fun _ => true) true Try.f6.params.toList args.toList ds p := hA0
  rw [Try.params6] at hA hval
  obtain ⟨v0, vs0, d0, ds0, p0, q0, hargs, rfl, rfl, h0, r0⟩ := trodAll_cons hA
  obtain ⟨v1, vs1, d1, ds1, p1, q1, rfl, rfl, rfl, h1, r1⟩ := trodAll_cons r0
  obtain ⟨v2, vs2, d2, ds2, p2, q2, rfl, rfl, rfl, h2, r2⟩ := trodAll_cons r1
  obtain ⟨rfl, rfl, rfl⟩ := trodAll_nil r2
  obtain rfl : args = #[v0, v1, v2] := by cases args; simp_all
  obtain ⟨rfl, rfl⟩ := trodVars_none hV
  obtain ⟨cs0, rfl, _⟩ := okWide_row arrL.und (hval 0 36 v0 rfl rfl)
  have k0 := h0
  have lt0 : ∀ x ∈ p0, x.block < W.heap.size := by obtain ⟨m, hm⟩ := k0; exact DataW.trod_lt m _ _ _ hm
  obtain ⟨b0, e0⟩ : ∃ b : Ld, cs0 = b.cs.toArray := by
    obtain ⟨fuel, hf⟩ := h0
    obtain ⟨b, hb⟩ := ldOfTrod hf
    exact ⟨b, by rw [hb]; simp [Value.cells]⟩
  subst e0
  obtain ⟨a1, rfl, rfl, rfl, w1⟩ := open_int Try.underlying5 (hval 1 5 v1 rfl rfl) h1
  obtain ⟨cs2, rfl, _⟩ := okWide_struct Try.underlying23 (hval 2 23 v2 rfl rfl)
  have k2 := h2
  have lt2 : ∀ x ∈ p2, x.block < W.heap.size := by obtain ⟨m, hm⟩ := k2; exact DataW.trod_lt m _ _ _ hm
  obtain ⟨b2, e2⟩ : ∃ b : Ent, cs2 = b.cs.toArray := by
    obtain ⟨fuel, hf⟩ := h2
    obtain ⟨b, hb⟩ := entOfTrod hf
    exact ⟨b, by rw [hb]; simp [Value.cells]⟩
  subst e2
  clear hA0 hval0
  refine (walk b0 a1 b2 W w1).mono fun e W' ⟨he, bel⟩ => ?_
  subst he
  exact ⟨_, rfl, _, _, _, [], _, [], hW', trodAll_mk1 (shut_bool Try.underlying4 _), (trodAll_cons_mk (Below.trod laidOut (by kernel_rfl) (of_decide_eq_true (by kernel_rfl)) k0 bel lt0) (trodAll_cons_mk (shut_int Try.underlying5 w1) (trodAll_cons_mk (Below.trod laidOut (by kernel_rfl) (of_decide_eq_true (by kernel_rfl)) k2 bel lt2) trodAll_mk0))), rfl, bel.frame _, fun h => by cases h⟩
theorem over : Rows.direntBackRow.holds Try.pinned (OpenSpec.ofChange Rows.direntBackSpec) :=
  OpenClaim.holds_of_wide 6 Try.f6 rfl rfl rfl rfl rfl rfl rfl ⟨rfl, rfl, rfl, rfl, rfl⟩ rfl rfl rfl rfl rfl (by kernel_rfl) Try.func6 (by kernel_rfl)
    (of_decide_eq_true (by kernel_rfl)) (by unfold Func.isWrapper; first | (rw [if_pos (by decide +kernel)]; kernel_rfl) | (rw [if_neg (by decide +kernel)]; exact ⟨rfl, rfl⟩))
    (fun os started H enc _ => lifted os started H enc)
end Go.Proofs.Ytbmfoefapbakmaa.direntBack
namespace Go.Proofs.Ytbmfoefapbakmaa
/-- The statement. -/
theorem direntBack_holds : Rows.DirentBackSaid := direntBack.over
#print axioms direntBack_holds
end Go.Proofs.Ytbmfoefapbakmaa
