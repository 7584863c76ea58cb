/-
  What Get, Next and Same of layer 7 return, each for every input: no statement is proved here.
-/
import Derived.Test.YteceapdkgidenaaSealD
namespace Go.Proofs.Yteceapdkgidenaa
open Go.ChangeShapes Go.WideShapes Go.ChangeAt Go.RowKit
set_option linter.unusedVariables false

set_option maxRecDepth 100000 in
set_option maxHeartbeats 2000000 in
theorem get_any (k : Int) (b : Blk) (w : World) :
    Calls Try.prog 33 #[.int .i64 k, .agg b.cs.toArray] w fun e w' => e = .returned (.tuple #[.agg (gP k b).cs.toArray, .int .u32 (gT k b : Nat), .int .i64 (gE k b)]) ∧ Below w.heap.size w w' := by
  have hb := b.len
  have hlp := (oP b).len
  cases hk : isK k
  · have he : gE k b = 2 := by unfold gE; rw [hk]; rfl
    have hE : Hid (gP k b = Ld.zero ∧ gT k b = 0 ∧ gE k b = 2) := ⟨by unfold gP; rw [he]; rfl, by unfold gT; rw [he]; rfl, he⟩
    clear he
    go_enter Try.func33, Try.ntmps33
    go_wp2_with (first
      | (refine at_box 23 64 arrB (by rfl) _ (by rfl) b.l (by rfl) hb ?_; intro gb w1 a1 z1 r1 b1)
      | (refine at_new 35 54 arrL (by rfl) (by rfl) ?_; intro gr w2 a2 z2 r2 b2)
      | (go_at_call 45; refine (isKind_any _ _).mono ?_; rintro e w3 ⟨rfl, rfl⟩; rw [hk])
      | (refine at_bldL (by rfl) (by rfl) ?_)
      | (refine at_put 35 54 arrL (by rfl) _ _ (by rfl) gr (by rfl) Ld.zero.l (by rfl) Ld.zero.len _ r2 (by simp) ?_; intro w9 r9 s9))
    have S2 : Stp (fun x => w.heap.size ≤ x) w w2 := Stp.of_below (bnext b1 b2 (Nat.le_refl _)) _
    have hgr : w.heap.size ≤ gr := by have := b1.size; omega
    refine bodyPost_ret (retAtt arrL Try.results33 rfl rfl rfl r9 Ld.zero.len) rfl ⟨by obtain ⟨q1, q2, q3⟩ := hE.out; rw [q1, q2, q3]; rfl, (S2.next s9 (fun x hx => .inl (by subst hx; exact hgr))).below (Nat.le_refl _) (fun _ h => h)⟩
  · have tok : True := trivial
    by_cases hx : (oK b : Int) = k
    · have he : gE k b = 0 := by unfold gE; rw [hk, if_pos rfl, if_pos hx]
      have hE : Hid (gP k b = oP b ∧ gT k b = oT b ∧ gE k b = 0) := ⟨by unfold gP; rw [he]; rfl, by unfold gT; rw [he]; rfl, he⟩
      clear he
      subst hx
      go_enter Try.func33, Try.ntmps33
      go_wp2_with (first
        | (refine at_box 23 64 arrB (by rfl) _ (by rfl) b.l (by rfl) hb ?_; intro gb w1 a1 z1 r1 b1)
        | (have _t := tok; refine at_new 35 54 arrL (by rfl) (by rfl) ?_; intro gr w2 a2 z2 r2 b2; clear _t tok)
        | (go_at_call 45; refine (isKind_any _ _).mono ?_; rintro e w3 ⟨rfl, rfl⟩; rw [hk])
        | (refine at_get 23 64 arrB (by rfl) _ (by rfl) gb (by rfl) _ (r1.later b2) hb ?_)
        | (go_at_call 48; refine (open_any b _).mono ?_; rintro e w4 ⟨rfl, b4⟩)
        | (refine at_new 35 54 arrL (by rfl) (by rfl) ?_; intro gp w5 a5 z5 r5 b5)
        | (refine at_put 35 54 arrL (by rfl) _ _ (by rfl) gp (by rfl) (oP b).l (by rfl) hlp _ r5 (by simp) ?_; intro w6 r6 s6)
        | (refine at_get 35 54 arrL (by rfl) _ (by rfl) gp (by rfl) _ r6 hlp ?_)
        | (refine at_put 35 54 arrL (by rfl) _ _ (by rfl) gr (by rfl) (oP b).l (by rfl) hlp _ (((r2.later b4).later b5).step s6 (by have := b4.size; omega)) (by simp) ?_; intro w9 r9 s9))
      have S5 : Stp (fun x => w.heap.size ≤ x) w w5 := Stp.of_below (bnext (bnext (bnext b1 b2 (Nat.le_refl _)) b4 (Nat.le_refl _)) b5 (Nat.le_refl _)) _
      have hgr : w.heap.size ≤ gr := by have := b1.size; omega
      have hgp : w.heap.size ≤ gp := by have := b1.size; have := b2.size; have := b4.size; omega
      have S6 := S5.next s6 (fun x hx => .inl (by subst hx; exact hgp))
      refine bodyPost_ret (retAtt arrL Try.results33 rfl rfl rfl r9 hlp) rfl ⟨by obtain ⟨q1, q2, q3⟩ := hE.out; rw [q1, q2, q3]; rfl, (S6.next s9 (fun x hx => .inl (by subst hx; exact hgr))).below (Nat.le_refl _) (fun _ h => h)⟩
    · have he : gE k b = 21 := by unfold gE; rw [hk, if_pos rfl, if_neg hx]
      have hE : Hid (gP k b = Ld.zero ∧ gT k b = 0 ∧ gE k b = 21) := ⟨by unfold gP; rw [he]; rfl, by unfold gT; rw [he]; rfl, he⟩
      clear he
      go_enter Try.func33, Try.ntmps33
      go_wp2_with (first
        | (refine at_box 23 64 arrB (by rfl) _ (by rfl) b.l (by rfl) hb ?_; intro gb w1 a1 z1 r1 b1)
        | (have _t := tok; refine at_new 35 54 arrL (by rfl) (by rfl) ?_; intro gr w2 a2 z2 r2 b2; clear _t tok)
        | (go_at_call 45; refine (isKind_any _ _).mono ?_; rintro e w3 ⟨rfl, rfl⟩; rw [hk])
        | (refine at_get 23 64 arrB (by rfl) _ (by rfl) gb (by rfl) _ (r1.later b2) hb ?_)
        | (go_at_call 48; refine (open_any b _).mono ?_; rintro e w4 ⟨rfl, b4⟩)
        | (refine at_new 35 54 arrL (by rfl) (by rfl) ?_; intro gp w5 a5 z5 r5 b5)
        | (refine at_put 35 54 arrL (by rfl) _ _ (by rfl) gp (by rfl) (oP b).l (by rfl) hlp _ r5 (by simp) ?_; intro w6 r6 s6)
        | (refine at_bldL (by rfl) (by rfl) ?_)
        | (refine at_put 35 54 arrL (by rfl) _ _ (by rfl) gr (by rfl) Ld.zero.l (by rfl) Ld.zero.len _ (((r2.later b4).later b5).step s6 (by have := b4.size; omega)) (by simp) ?_; intro w9 r9 s9))
      have S5 : Stp (fun x => w.heap.size ≤ x) w w5 := Stp.of_below (bnext (bnext (bnext b1 b2 (Nat.le_refl _)) b4 (Nat.le_refl _)) b5 (Nat.le_refl _)) _
      have hgr : w.heap.size ≤ gr := by have := b1.size; omega
      have hgp : w.heap.size ≤ gp := by have := b1.size; have := b2.size; have := b4.size; omega
      have S6 := S5.next s6 (fun x hx => .inl (by subst hx; exact hgp))
      refine bodyPost_ret (retAtt arrL Try.results33 rfl rfl rfl r9 Ld.zero.len) rfl ⟨by obtain ⟨q1, q2, q3⟩ := hE.out; rw [q1, q2, q3]; rfl, (S6.next s9 (fun x hx => .inl (by subst hx; exact hgr))).below (Nat.le_refl _) (fun _ h => h)⟩
theorem nT_int (b : Blk) : IntKind.u32.wrap ((oT b : Int) + 1) = (nT b : Int) := by
  unfold nT; rw [IntKind.wrap_u32']; omega
end Go.Proofs.Yteceapdkgidenaa
