/-
  What With of layer 9 returns, for every input: no statement is proved here.
-/
import Derived.Test.YthanenbjfcndbaaMapB
namespace Go.Proofs.Ythanenbjfcndbaa
open Go.ChangeShapes Go.WideShapes Go.ChangeAt Go.RowKit
set_option linter.unusedVariables false

theorem withB_any (x : Option Addr) (n c : Nat) (l : List UInt8) (j : Nat) (on : Bool) (w : World) (hb : Bs w x n c (ints l)) (h : j / 8 < n) (hj : j ≤ 1000000) (hn : n ≤ 1000000) :
    Calls Try.prog 32 #[.slice x n c, .int .i64 j, .bool on] w fun e w' => ∃ y d, e = .returned (.tuple #[.slice y n d, .int .i64 0]) ∧ Bs w' y n d (ints (wB l j on)) ∧ Below w.heap.size w w' := by
  refine (with_ok x n c _ j on w hb h (by omega) (by omega)).mono ?_
  rintro e w' ⟨v, rfl, hown, hbel⟩
  obtain ⟨a', c', rfl, hb'⟩ := own_bs hown (putB_range hb.byte j on)
  exact ⟨a', c', rfl, by rw [show ints (wB l j on) = putB (ints l) j on from ints_wB l j on]; exact hb', hbel⟩
set_option maxRecDepth 100000 in
set_option maxHeartbeats 2000000 in
theorem mwith_any (p : Ld) (k i : Int) (on : Bool) (w : World) (hk : (Lit.int .i64 k).wf = true) :
    Calls Try.prog 12 #[.agg p.cs.toArray, .int .i64 k, .int .i64 i, .bool on] w fun e w' => e = .returned (.tuple #[.agg (mW p k i on).cs.toArray, .int .i64 (mE k i)]) ∧ Below w.heap.size w w' := by
  have hp := p.len
  by_cases h : plc k i
  · have hz := plc_z h
    have hl := s_le k
    have hq := (mW p k i on).len
    obtain ⟨j, rfl⟩ := Int.eq_ofNat_of_zero_le hz.1
    rw [Int.toNat_natCast] at hz
    have hW := mW_part p on h
    rw [Int.toNat_natCast] at hW
    have hE : Hid (mE k j = 0) := if_pos h
    have hs1 := spc_one (sA k) (sZ k)
    have H1 : Hid _ := fun w => mapOf_yes k j w hk h
    obtain ⟨_, hz1, hz2⟩ := hz
    generalize mW p k j on = q at *
    have hA := sA_lt k
    have hsub := fun w g => run_subL arrL w g (sA k) hA
    have t1 : True := trivial
    clear h
    go_enter Try.func12, Try.ntmps12
    go_wp2_with (first
      | (refine at_box 23 54 arrL (by rfl) _ (by rfl) p.l (by rfl) hp ?_; intro g0 w0 a0 z0 r0 b0)
      | (refine at_new 23 54 arrL (by rfl) (by rfl) ?_; intro gr w00 a00 z00 r00 b00; have rp0 := r0.later b00; have B0 := bnext b0 b00 (Nat.le_refl _); have hgr : w.heap.size ≤ gr := (by have := b0.size; omega); clear r0 b0)
      | (go_at_call 27; refine (H1.out _).mono ?_; rintro e w1 ⟨rfl, b1⟩)
      | (refine at_newC 50 2 (spc 0 0) srtS (by rfl) (by rfl) ?_; intro gs w3 a3 z3 r3 b3)
      | (refine at_putC 50 2 (spc 0 0) srtS (by rfl) _ _ (by rfl) gs (by rfl) (spc (sA k) (sZ k)) (by rfl) rfl hs1 _ r3 rfl ?_; intro w4 r4 s4
         have rp : Row w4 g0 p.l := ((rp0.later b1).later b3).step s4 (by have := rp0.lt; have := b1.size; omega)
         have rr : Row w4 gr (List.replicate 54 0) := ((r00.later b1).later b3).step s4 (by have := r00.lt; have := b1.size; omega)
         have S4 : Stp (fun x => w.heap.size ≤ x) w w4 := (Stp.of_below (bnext (bnext B0 b1 (Nat.le_refl _)) b3 (Nat.le_refl _)) (fun x => w.heap.size ≤ x)).next s4 (fun x hx => .inl (by subst hx; have := B0.size; have := b1.size; omega))
         clear rp0 r00 B0 b1 b3 s4 r3)
      | (refine at_getC 50 2 (spc 0 0) srtS (by rfl) _ (by rfl) gs (by rfl) _ r4 rfl ?_)
      | (have _t := t1; refine at_getL (by rfl) _ (by rfl) g0 (by rfl) p rp ?_; clear _t)
      | (go_at_call 29; refine (bits_any k _ _ p _ rfl rfl).mono ?_; rintro e w5 ⟨x5, c5, rfl, y5, b5⟩)
      | (go_at_call 32; refine (withB_any _ _ _ _ j on _ y5 hz1 (by omega) (by omega)).mono ?_; rintro e w6 ⟨x6, c6, rfl, y6, b6⟩
         have B6 := bnext b5 b6 (Nat.le_refl _)
         have rp6 := rp.later B6
         have rr6 := rr.later B6
         have c0 := (r4.later B6).cell 0 _ rfl
         have S6 := S4.next (Stp.of_below B6 (fun _ => False)) (fun _ h => h.elim)
         clear rp rr S4 B6 b5 b6 y5 r4 t1)
      | (refine at_copyB rfl _ _ (by rfl) g0 (sA k) (54 - sA k) (54 - sA k) x6 (sZ k) c6 (by rfl) (by rfl) p.l _ rp6 y6 (by omega) (by omega) (by omega) ?_; intro w7 r7 s7
         rw [← hW] at r7
         have rr7 := rr6.step s7 (by omega)
         have S7 := S6.next s7 (fun x hx => .inl (by subst hx; assumption)))
      | (refine at_getL (by rfl) _ (by rfl) g0 (by rfl) q r7 ?_)
      | (refine at_put 23 54 arrL (by rfl) _ _ (by rfl) gr (by rfl) q.l (by rfl) hq _ rr7 (by simp) ?_; intro w8 r8 s8))
    have S8 := S7.next s8 (fun x hx => .inl (by subst hx; exact hgr))
    refine bodyPost_ret (retAt arrL Try.results12 rfl rfl r8 hq) rfl ⟨?_, S8.below (Nat.le_refl _) (fun _ h => h)⟩
    rw [hE.out]; rfl
  · have hE : Hid (mE k i = 2 ∧ mW p k i on = Ld.zero) := ⟨if_neg h, if_neg h⟩
    have H1 : Hid _ := fun w => mapOf_no k i w hk h
    clear h
    go_enter Try.func12, Try.ntmps12
    go_wp2_with (first
      | (refine at_box 23 54 arrL (by rfl) _ (by rfl) p.l (by rfl) hp ?_; intro g0 w0 a0 z0 r0 b0)
      | (refine at_new 23 54 arrL (by rfl) (by rfl) ?_; intro gr w00 a00 z00 r00 b00; have B0 := bnext b0 b00 (Nat.le_refl _); have hgr : w.heap.size ≤ gr := (by have := b0.size; omega); clear r0 b0)
      | (go_at_call 27; refine (H1.out _).mono ?_; rintro e w1 ⟨rfl, b1⟩)
      | (refine at_newC 50 2 (spc 0 0) srtS (by rfl) (by rfl) ?_; intro gs w3 a3 z3 r3 b3)
      | (refine at_putC 50 2 (spc 0 0) srtS (by rfl) _ _ (by rfl) gs (by rfl) (spc 0 0) (by rfl) rfl (spc_one 0 0) _ r3 rfl ?_; intro w4 r4 s4
         have rr : Row w4 gr (List.replicate 54 0) := ((r00.later b1).later b3).step s4 (by have := r00.lt; have := b1.size; omega)
         have S4 : Stp (fun x => w.heap.size ≤ x) w w4 := (Stp.of_below (bnext (bnext B0 b1 (Nat.le_refl _)) b3 (Nat.le_refl _)) (fun x => w.heap.size ≤ x)).next s4 (fun x hx => .inl (by subst hx; have := B0.size; have := b1.size; omega)))
      | (refine at_bldL (by rfl) (by rfl) ?_)
      | (refine at_put 23 54 arrL (by rfl) _ _ (by rfl) gr (by rfl) Ld.zero.l (by rfl) (by rfl) _ rr (by simp) ?_; intro w8 r8 s8))
    have S8 := S4.next s8 (fun x hx => .inl (by subst hx; exact hgr))
    refine bodyPost_ret (retAt arrL Try.results12 rfl rfl r8 (by rfl)) rfl ⟨?_, S8.below (Nat.le_refl _) (fun _ h => h)⟩
    rw [hE.out.1, hE.out.2]; rfl
end Go.Proofs.Ythanenbjfcndbaa
