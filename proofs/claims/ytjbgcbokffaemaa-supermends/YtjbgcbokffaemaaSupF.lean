/-
  What the document's Get of layer 8 returns, for every load; and Format, and the shape that a sector has: no statement is proved here.
-/
import Derived.Test.YtjbgcbokffaemaaSupE
import Derived.Test.YtjbgcbokffaemaaSealI
import Derived.Test.YtjbgcbokffaemaaGeoC
namespace Go.Proofs.Ytjbgcbokffaemaa
open Go.ChangeShapes Go.WideShapes Go.ChangeAt Go.RowKit
set_option linter.unusedVariables false

set_option maxRecDepth 100000 in
set_option maxHeartbeats 4000000 in
theorem rsget_any (p : Ld) (w : World) :
    Calls Try.prog 10 #[.agg p.cs.toArray] w fun e w' => e = .returned (.tuple #[gv (sgG p), .int .i64 (sgE p)]) ∧ Below w.heap.size w w' := by
  have hp := p.len
  have hput := rsput_any (nums p)
  have hway := sg_ways p
  have heq := eqL (spP (nums p)) p
  have hgl := guardL
  have hlq := (spP (nums p)).len
  have k4 := get2_lt p.l 4
  have k6 := get2_lt p.l 6
  have k8 := get2_lt p.l 8
  generalize spP (nums p) = q at *
  generalize (nums p).err = e0 at *
  generalize decide (q = p) = dd at *
  rcases hway with ⟨rfl, h1, h2⟩ | ⟨rfl, rfl, h1, h2⟩ | ⟨rfl, rfl, h1, h2⟩
  all_goals
    have hE : Hid (sgE p = _ ∧ sgG p = _) := ⟨h1, h2⟩
    clear h1 h2
    have t1 : True := trivial
    have t2 : True := trivial
    have t3 : True := trivial
    go_enter Try.func10, Try.ntmps10
    go_wp2_with (first
      | (refine at_box 25 54 arrL (by rfl) _ (by rfl) p.l (by rfl) hp ?_; intro g1 w1 a1 z1 r1 b1)
      | (have _t := t1; refine at_newG (by rfl) (by rfl) ?_; intro gr w2 a2 z2 r2 b2; clear _t t1; have u2 := r1.later b2)
      | (go_at_call 26; have _t := t2; refine (rget16_at g1 p.l 4 _ u2 hp (by omega)).mono ?_; rintro e w3 ⟨rfl, rfl⟩; clear _t t2)
      | (go_at_call 26; have _t := t3; refine (rget16_at g1 p.l 6 _ u2 hp (by omega)).mono ?_; rintro e w3 ⟨rfl, rfl⟩; clear _t t3)
      | (go_at_call 26; refine (rget16_at g1 p.l 8 _ u2 hp (by omega)).mono ?_; rintro e w3 ⟨rfl, rfl⟩)
      | (refine at_newG (by rfl) (by rfl) ?_; intro g7 w7 a7 z7 r7 b7)
      | (refine at_putG (by rfl) _ _ (by rfl) g7 (by rfl) (nums p) (by rfl) _ r7 ?_; intro v8 y8 s8
         have rr : GR v8 gr Gm.zero := (r2.later b7).step s8 (by omega)
         have rq : Row v8 g1 p.l := (u2.later b7).step s8 (by omega)
         have hgr : w.heap.size ≤ gr := by have := b1.size; omega
         have B8 : Below w.heap.size w v8 := ((Stp.of_below (bnext (bnext b1 b2 (Nat.le_refl _)) b7 (Nat.le_refl _)) (fun x => w.heap.size ≤ x)).next s8 (fun x hx => .inl (by subst hx; have := b1.size; have := b2.size; omega))).below (Nat.le_refl _) (fun _ h => h)
         clear a1 z1 r1 b1 a2 z2 r2 b2 u2 a7 z7 r7 b7 s8)
      | (refine at_getG (by rfl) _ (by rfl) g7 (by rfl) (nums p) y8 ?_)
      | (go_at_call 8; refine (hput _).mono ?_; rintro e w3 ⟨rfl, b3⟩)
      | (refine at_new 25 54 arrL (by rfl) (by rfl) ?_; intro gp w4 a4 z4 r4 b4)
      | (refine at_put 25 54 arrL (by rfl) _ _ (by rfl) gp (by rfl) q.l (by rfl) hlq _ r4 (by simp) ?_; intro w5 r5 s5
         have y9 : GR w5 g7 (nums p) := ((y8.later b3).later b4).step s5 (by have := y8.lt; have := b3.size; omega)
         have q9 : Row w5 g1 p.l := ((rq.later b3).later b4).step s5 (by have := rq.lt; have := b3.size; omega)
         have rr9 : GR w5 gr Gm.zero := ((rr.later b3).later b4).step s5 (by have := rr.lt; have := b3.size; omega)
         have S5 : Stp (fun x => w.heap.size ≤ x) w w5 := (Stp.of_below (bnext (bnext B8 b3 (Nat.le_refl _)) b4 (Nat.le_refl _)) _).next s5 (fun x hx => .inl (by subst hx; have := B8.size; have := b3.size; omega))
         clear y8 rq rr B8 b3 b4 a4 z4 r4 s5)
      | (refine at_getL (by rfl) _ (by rfl) gp (by rfl) q r5 ?_)
      | (refine at_getL (by rfl) _ (by rfl) g1 (by rfl) p q9 ?_)
      | (refine at_getG (by rfl) _ (by rfl) g7 (by rfl) (nums p) y9 ?_)
      | (refine at_putG (by rfl) _ _ (by rfl) gr (by rfl) Gm.zero (by rfl) _ rr9 ?_; intro w9 r9 s9)
      | (refine at_putG (by rfl) _ _ (by rfl) gr (by rfl) (nums p) (by rfl) _ rr9 ?_; intro w9 r9 s9))
    refine bodyPost_ret (retGt Try.results10 rfl rfl r9) rfl ⟨by obtain ⟨q1, q2⟩ := hE.out; rw [q1, q2]; rfl, (S5.next s9 (fun x hx => .inl (by subst hx; exact hgr))).below (Nat.le_refl _) (fun _ h => h)⟩
set_option maxRecDepth 100000 in
set_option maxHeartbeats 2000000 in
theorem format_any (s : Gm) (w : World) :
    Calls Try.prog 11 #[gv s] w fun e w' => e = .returned (.tuple #[.agg (fB s).cs.toArray, .int .i64 s.err]) ∧ Below w.heap.size w w' := by
  have hput := sput_any s
  have hlq := (spP s).len
  have hway : (s.err = 2 ∧ fB s = Blk.zero) ∨ (s.err = 0 ∧ fB s = pB 1 1 (spP s)) := by
    by_cases h : s.ok
    · exact .inr ⟨if_pos h, (pB_fB h).symm⟩
    · exact .inl ⟨if_neg h, if_neg h⟩
  have hsl := fun w => put_any 1 1 (spP s) w (by omega)
  have hlb := (pB 1 1 (spP s)).len
  rw [show pE 1 = 0 from rfl] at hsl
  generalize spP s = q at *
  generalize s.err = e0 at *
  generalize pB 1 1 q = b at *
  rcases hway with ⟨rfl, h2⟩ | ⟨rfl, h2⟩
  all_goals
    have hE : Hid (fB s = _) := h2
    clear h2
    go_enter Try.func11, Try.ntmps11
    go_wp2_with (first
      | (refine at_boxG (by rfl) _ (by rfl) s (by rfl) ?_; intro g1 w1 a1 z1 r1 b1)
      | (refine at_new 32 64 arrB (by rfl) (by rfl) ?_; intro gr w2 a2 z2 r2 b2)
      | (refine at_getG (by rfl) _ (by rfl) g1 (by rfl) s (r1.later b2) ?_)
      | (go_at_call 7; refine (hput _).mono ?_; rintro e w3 ⟨rfl, b3⟩)
      | (refine at_new 25 54 arrL (by rfl) (by rfl) ?_; intro gp w4 a4 z4 r4 b4)
      | (refine at_put 25 54 arrL (by rfl) _ _ (by rfl) gp (by rfl) q.l (by rfl) hlq _ r4 (by simp) ?_; intro w5 r5 s5
         have rr5 : Row w5 gr (List.replicate 64 0) := ((r2.later b3).later b4).step s5 (by have := b3.size; omega)
         have hgr : w.heap.size ≤ gr := by have := b1.size; omega
         have S5 : Stp (fun x => w.heap.size ≤ x) w w5 := (Stp.of_below (bnext (bnext (bnext b1 b2 (Nat.le_refl _)) b3 (Nat.le_refl _)) b4 (Nat.le_refl _)) _).next s5 (fun x hx => .inl (by subst hx; have := b1.size; have := b2.size; have := b3.size; omega))
         clear a1 z1 r1 b1 a2 z2 r2 b2 b3 b4 a4 z4 r4 s5)
      | (refine at_bldB (by rfl) (by rfl) ?_)
      | (refine at_put 32 64 arrB (by rfl) _ _ (by rfl) gr (by rfl) Blk.zero.l (by rfl) Blk.zero.len _ rr5 (by simp) ?_; intro w9 r9 s9)
      | (refine at_getL (by rfl) _ (by rfl) gp (by rfl) q r5 ?_)
      | (go_at_call 27; refine (hsl _).mono ?_; rintro e w6 ⟨rfl, b6⟩)
      | (refine at_put 32 64 arrB (by rfl) _ _ (by rfl) gr (by rfl) b.l (by rfl) hlb _ (rr5.later b6) (by simp) ?_; intro w9 r9 s9))
  · refine bodyPost_ret (retAt arrB Try.results11 rfl rfl r9 Blk.zero.len) rfl ⟨by rw [hE.out]; rfl, (S5.next s9 (fun x hx => .inl (by subst hx; exact hgr))).below (Nat.le_refl _) (fun _ h => h)⟩
  · refine bodyPost_ret (retAt arrB Try.results11 rfl rfl r9 hlb) rfl ⟨by rw [hE.out]; rfl, ((S5.next (Stp.of_below b6 (fun _ => False)) (fun _ h => h.elim)).next s9 (fun x hx => .inl (by subst hx; exact hgr))).below (Nat.le_refl _) (fun _ h => h)⟩
theorem si_ways (b : Blk) : ((gE 1 b = 21) ∧ siE b = 22 ∧ siG b = Gm.zero) ∨ (gE 1 b = 0 ∧ siE b = sgE (gP 1 b) ∧ siG b = sgG (gP 1 b)) := by
  unfold siE siG
  by_cases h : gE 1 b = 0
  · exact .inr ⟨h, if_pos h, if_pos h⟩
  · refine .inl ⟨?_, if_neg h, if_neg h⟩
    unfold gE at h ⊢
    rw [show isK 1 = true from rfl, if_pos rfl] at h ⊢
    split at h
    · exact absurd rfl h
    · rename_i hk; rw [if_neg hk]
set_option maxRecDepth 100000 in
set_option maxHeartbeats 2000000 in
theorem shapeIn_any (b : Blk) (w : World) :
    Calls Try.prog 31 #[.agg b.cs.toArray] w fun e w' => e = .returned (.tuple #[gv (siG b), .int .i64 (siE b)]) ∧ Below w.heap.size w w' := by
  have hb := b.len
  have hget := get_any 1 b
  have hlq := (gP 1 b).len
  have hsg := sget_any (gP 1 b)
  have hway := si_ways b
  generalize gP 1 b = q at *
  generalize gE 1 b = e0 at *
  generalize sgE q = e1 at *
  generalize sgG q = s1 at *
  rcases hway with ⟨rfl, h1, h2⟩ | ⟨rfl, h1, h2⟩
  all_goals
    have hE : Hid (siE b = _ ∧ siG b = _) := ⟨h1, h2⟩
    clear h1 h2
    have t1 : True := trivial
    go_enter Try.func31, Try.ntmps31
    go_wp2_with (first
      | (refine at_box 32 64 arrB (by rfl) _ (by rfl) b.l (by rfl) hb ?_; intro g1 w1 a1 z1 r1 b1)
      | (refine at_newG (by rfl) (by rfl) ?_; intro gr w2 a2 z2 r2 b2)
      | (refine at_getB (by rfl) _ (by rfl) g1 (by rfl) b (r1.later b2) ?_)
      | (go_at_call 45; refine (hget _).mono ?_; rintro e w3 ⟨rfl, b3⟩)
      | (refine at_new 25 54 arrL (by rfl) (by rfl) ?_; intro gp w4 a4 z4 r4 b4)
      | (refine at_put 25 54 arrL (by rfl) _ _ (by rfl) gp (by rfl) q.l (by rfl) hlq _ r4 (by simp) ?_; intro w5 r5 s5
         have rr5 : GR w5 gr Gm.zero := ((r2.later b3).later b4).step s5 (by have := b3.size; omega)
         have hgr : w.heap.size ≤ gr := by have := b1.size; omega
         have S5 : Stp (fun x => w.heap.size ≤ x) w w5 := (Stp.of_below (bnext (bnext (bnext b1 b2 (Nat.le_refl _)) b3 (Nat.le_refl _)) b4 (Nat.le_refl _)) _).next s5 (fun x hx => .inl (by subst hx; have := b1.size; have := b2.size; have := b3.size; omega))
         clear a1 z1 r1 b1 a2 z2 r2 b2 b3 b4 a4 z4 r4 s5)
      | (refine at_putG (by rfl) _ _ (by rfl) gr (by rfl) Gm.zero (by rfl) _ rr5 ?_; intro w9 r9 s9)
      | (refine at_getL (by rfl) _ (by rfl) gp (by rfl) q r5 ?_)
      | (go_at_call 9; refine (hsg _).mono ?_; rintro e w6 ⟨rfl, b6⟩)
      | (refine at_putG (by rfl) _ _ (by rfl) gr (by rfl) s1 (by rfl) _ (rr5.later b6) ?_; intro w9 r9 s9))
  · refine bodyPost_ret (retGt Try.results31 rfl rfl r9) rfl ⟨by obtain ⟨q1, q2⟩ := hE.out; rw [q1, q2]; rfl, (S5.next s9 (fun x hx => .inl (by subst hx; exact hgr))).below (Nat.le_refl _) (fun _ h => h)⟩
  · refine bodyPost_ret (retGt Try.results31 rfl rfl r9) rfl ⟨by obtain ⟨q1, q2⟩ := hE.out; rw [q1, q2]; rfl, ((S5.next (Stp.of_below b6 (fun _ => False)) (fun _ h => h.elim)).next s9 (fun x hx => .inl (by subst hx; exact hgr))).below (Nat.le_refl _) (fun _ h => h)⟩
end Go.Proofs.Ytjbgcbokffaemaa
