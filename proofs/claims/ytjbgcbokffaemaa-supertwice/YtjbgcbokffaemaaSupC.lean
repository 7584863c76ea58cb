/-
  What Put of layer 8 returns, for every shape: no statement is proved here.
-/
import Derived.Test.YtjbgcbokffaemaaSupB
namespace Go.Proofs.Ytjbgcbokffaemaa
open Go.ChangeShapes Go.WideShapes Go.ChangeAt Go.RowKit
set_option linter.unusedVariables false

theorem lay_ld (g i d : Nat) : splice (splice (splice (splice (List.replicate 54 0) 0 [83, 67, 85, 80]) 4 (u2 g)) 6 (u2 i)) 8 (u2 d) = ldL ⟨(g : Int), (i : Int), (d : Int)⟩ := rfl
set_option maxRecDepth 100000 in
set_option maxHeartbeats 1000000 in
theorem sput_no (s : Gm) (w : World) (h : ¬ s.ok) :
    Calls Try.prog 7 #[gv s] w fun e w' => e = .returned (.tuple #[.agg Ld.zero.cs.toArray, .int .i64 2]) ∧ Below w.heap.size w w' := by
  have hc := check_any s
  rw [show s.err = 2 from if_neg h] at hc
  go_enter Try.func7, Try.ntmps7
  go_wp2_with (first
    | (refine at_boxG (by rfl) _ (by rfl) s (by rfl) ?_; intro g1 w1 a1 z1 r1 b1)
    | (refine at_new 25 54 arrL (by rfl) (by rfl) ?_; intro gr w2 a2 z2 r2 b2)
    | (refine at_getG (by rfl) _ (by rfl) g1 (by rfl) s (r1.later b2) ?_)
    | (go_at_call 20; refine (hc _).mono ?_; rintro e w3 ⟨rfl, b3⟩)
    | (refine at_bldL (by rfl) (by rfl) ?_)
    | (refine at_put 25 54 arrL (by rfl) _ _ (by rfl) gr (by rfl) Ld.zero.l (by rfl) Ld.zero.len _ (r2.later b3) (by simp) ?_; intro w9 r9 s9))
  have S2 : Stp (fun x => w.heap.size ≤ x) w w3 := Stp.of_below (bnext (bnext b1 b2 (Nat.le_refl _)) b3 (Nat.le_refl _)) _
  have hgr : w.heap.size ≤ gr := by have := b1.size; omega
  refine bodyPost_ret (retAt arrL Try.results7 rfl rfl r9 Ld.zero.len) rfl ⟨rfl, (S2.next s9 (fun x hx => .inl (by subst hx; exact hgr))).below (Nat.le_refl _) (fun _ h => h)⟩
set_option maxRecDepth 100000 in
set_option maxHeartbeats 2000000 in
theorem sput_yes (g i d : Nat) (w : World) (h : Gm.ok ⟨(g : Int), (i : Int), (d : Int)⟩) :
    Calls Try.prog 7 #[.agg #[.int .i64 (g : Int), .int .i64 (i : Int), .int .i64 (d : Int)]] w fun e w' => e = .returned (.tuple #[.agg (ldP ⟨(g : Int), (i : Int), (d : Int)⟩).cs.toArray, .int .i64 0]) ∧ Below w.heap.size w w' := by
  have hc := check_any ⟨(g : Int), (i : Int), (d : Int)⟩
  rw [show Gm.err ⟨(g : Int), (i : Int), (d : Int)⟩ = 0 from if_pos h] at hc
  have hg : g < 65536 := by unfold Gm.ok at h; simp only at h; omega
  have hi : i < 65536 := by unfold Gm.ok at h; simp only at h; omega
  have hd : d < 65536 := by unfold Gm.ok at h; simp only at h; omega
  clear h
  have hlp := (ldP ⟨(g : Int), (i : Int), (d : Int)⟩).len
  have hld : Hid (_ = _) := lay_ld g i d
  have tok : True := trivial
  have l5 : (splice (List.replicate 54 (0 : UInt8)) 0 [83, 67, 85, 80]).length = 54 := rfl
  have l6 : (splice (splice (List.replicate 54 (0 : UInt8)) 0 [83, 67, 85, 80]) 4 (u2 g)).length = 54 := rfl
  have l7 : (splice (splice (splice (List.replicate 54 (0 : UInt8)) 0 [83, 67, 85, 80]) 4 (u2 g)) 6 (u2 i)).length = 54 := rfl
  go_enter Try.func7, Try.ntmps7
  go_wp2_with (first
    | (refine at_boxG (by rfl) _ (by rfl) ⟨(g : Int), (i : Int), (d : Int)⟩ (by rfl) ?_; intro g1 w1 a1 z1 r1 b1)
    | (have _t := tok; refine at_new 25 54 arrL (by rfl) (by rfl) ?_; intro gr w2 a2 z2 r2 b2; clear _t tok)
    | (refine at_getG (by rfl) _ (by rfl) g1 (by rfl) ⟨(g : Int), (i : Int), (d : Int)⟩ (r1.later b2) ?_)
    | (go_at_call 20; refine (hc _).mono ?_; rintro e w3 ⟨rfl, b3⟩)
    | (refine at_new 25 54 arrL (by rfl) (by rfl) ?_; intro gp w4 a4 z4 r4 b4
       have q4 : GR w4 g1 ⟨(g : Int), (i : Int), (d : Int)⟩ := ((r1.later b2).later b3).later b4
       have o4 : Row w4 gr (List.replicate 54 0) := (r2.later b3).later b4
       have S4 : Stp (fun x => w.heap.size ≤ x) w w4 := Stp.of_below (bnext (bnext (bnext b1 b2 (Nat.le_refl _)) b3 (Nat.le_refl _)) b4 (Nat.le_refl _)) _
       have n1 : g1 ≠ gp := by have := b2.size; have := b3.size; omega
       have n2 : gr ≠ gp := by have := b3.size; omega
       have hgp : w.heap.size ≤ gp := by have := b1.size; have := b2.size; have := b3.size; omega
       have hgr : w.heap.size ≤ gr := by have := b1.size; omega
       clear a1 z1 a2 z2 a4 z4 r1 r2 b1 b2 b3 b4)
    | (refine at_copyS (by rfl) _ _ (by rfl) gp 54 54 (by rfl) ⟨#[83, 67, 85, 80]⟩ (by rfl) (List.replicate 54 0) r4 (by decide) (by decide) ?_
       intro w5 r5 s5
       have q5 := q4.step s5 n1
       have c50 := q5.c0
       have o5 := o4.step s5 n2
       have S5 := S4.next s5 (fun x hx => .inl (by subst hx; exact hgp))
       clear r4 q4 o4 S4 s5)
    | (go_at_call 22; refine (sputAt_4 gp g _ _ r5 l5 hg).mono ?_; rintro e w6 ⟨rfl, r6, s6⟩
       have q6 := q5.step s6 n1
       have c61 := q6.c1
       have o6 := o5.step s6 n2
       have S6 := S5.next s6 (fun x hx => .inl (by subst hx; exact hgp))
       clear r5 q5 o5 S5 s6 c50)
    | (go_at_call 22; refine (sputAt_6 gp i _ _ r6 l6 hi).mono ?_; rintro e w7 ⟨rfl, r7, s7⟩
       have q7 := q6.step s7 n1
       have c72 := q7.c2
       have o7 := o6.step s7 n2
       have S7 := S6.next s7 (fun x hx => .inl (by subst hx; exact hgp))
       clear r6 q6 o6 S6 s7 c61)
    | (go_at_call 22; refine (sputAt_8 gp d _ _ r7 l7 hd).mono ?_; rintro e w8 ⟨rfl, r8, s8⟩
       rw [hld.out] at r8
       have o8 := o7.step s8 n2
       have S8 := S7.next s8 (fun x hx => .inl (by subst hx; exact hgp))
       clear r7 q7 o7 S7 s8 c72)
    | (refine at_get 25 54 arrL (by rfl) _ (by rfl) gp (by rfl) _ r8 hlp ?_)
    | (refine at_put 25 54 arrL (by rfl) _ _ (by rfl) gr (by rfl) _ (by rfl) hlp _ o8 (by simp) ?_; intro w9 r9 s9))
  refine bodyPost_ret (retAt arrL Try.results7 rfl rfl r9 hlp) rfl ⟨rfl, (S8.next s9 (fun x hx => .inl (by subst hx; exact hgr))).below (Nat.le_refl _) (fun _ h => h)⟩
theorem gm_nat {s : Gm} (h : s.ok) : ∃ g i d : Nat, s = ⟨(g : Int), (i : Int), (d : Int)⟩ := by
  unfold Gm.ok at h
  exact ⟨s.g.toNat, s.i.toNat, s.d.toNat, Gm.ext3 (by show s.g = ((s.g.toNat : Nat) : Int); omega) (by show s.i = ((s.i.toNat : Nat) : Int); omega) (by show s.d = ((s.d.toNat : Nat) : Int); omega)⟩
theorem sput_any (s : Gm) (w : World) :
    Calls Try.prog 7 #[gv s] w fun e w' => e = .returned (.tuple #[.agg (spP s).cs.toArray, .int .i64 s.err]) ∧ Below w.heap.size w w' := by
  by_cases h : s.ok
  · rw [show s.err = 0 from if_pos h, show spP s = ldP s from if_pos h]
    obtain ⟨g, i, d, rfl⟩ := gm_nat h
    exact sput_yes g i d w h
  · rw [show s.err = 2 from if_neg h, show spP s = Ld.zero from if_neg h]
    exact sput_no s w h
end Go.Proofs.Ytjbgcbokffaemaa
