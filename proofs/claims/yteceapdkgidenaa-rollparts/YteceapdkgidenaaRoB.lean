/-
  What Load and Turn of layer 15 return, and the document's: no statement is proved here.
-/
import Derived.Test.YteceapdkgidenaaRoA
namespace Go.Proofs.Yteceapdkgidenaa
open Go.ChangeShapes Go.WideShapes Go.ChangeAt Go.RowKit
set_option linter.unusedVariables false
set_option linter.unusedSimpArgs false

theorem gT_oK (b : Blk) : gT (oK b : Nat) b = oT b := by
  by_cases h : oK b = 0
  · rw [oT_none h]
    unfold gT gE
    rw [h]; rfl
  · exact gT_own h
set_option maxRecDepth 100000 in
set_option maxHeartbeats 2000000 in
theorem rload_any (b : Blk) (k : Int) (w : World) :
    Calls Try.prog 13 #[.agg b.cs.toArray, .int .i64 k] w fun e w' => e = .returned (.agg (gP k b).cs.toArray) ∧ Below w.heap.size w w' := by
  have H := get_any k b
  have hb := b.len
  have hq := (gP k b).len
  generalize gP k b = q at *
  generalize gT k b = t at *
  generalize gE k b = e0 at *
  have t1 : True := trivial
  have t2 : True := trivial
  have t3 : True := trivial
  go_enter Try.func13, Try.ntmps13
  go_wp2_with (first
    | (refine at_box 23 64 arrB (by rfl) _ (by rfl) b.l (by rfl) hb ?_; intro gb w1 a1 z1 r1 b1)
    | (clear t1; refine at_new 35 54 arrL (by rfl) (by rfl) ?_; intro gr w2 a2 z2 r2 b2)
    | (refine at_get 23 64 arrB (by rfl) _ (by rfl) gb (by rfl) _ (r1.later b2) hb ?_)
    | (go_at_call 33; refine (H _).mono ?_; rintro e w3 ⟨rfl, b3⟩)
    | (clear t2; refine at_new 35 54 arrL (by rfl) (by rfl) ?_; intro gp w4 a4 z4 r4 b4)
    | (clear t3; refine at_put 35 54 arrL (by rfl) _ _ (by rfl) gp (by rfl) q.l (by rfl) hq _ r4 (by simp) ?_; intro w5 r5 s5)
    | (refine at_get 35 54 arrL (by rfl) _ (by rfl) gp (by rfl) _ r5 hq ?_)
    | (refine at_put 35 54 arrL (by rfl) _ _ (by rfl) gr (by rfl) q.l (by rfl) hq _ (((r2.later b3).later b4).step s5 (by have := b3.size; omega)) (by simp) ?_; intro w9 r9 s9))
  have S4 : Stp (fun x => w.heap.size ≤ x) w w4 := Stp.of_below (bnext (bnext (bnext b1 b2 (Nat.le_refl _)) b3 (Nat.le_refl _)) b4 (Nat.le_refl _)) _
  have hgr : w.heap.size ≤ gr := by have := b1.size; omega
  have hgp : w.heap.size ≤ gp := by have := b1.size; have := b2.size; have := b3.size; omega
  have S5 := S4.next s5 (fun x hx => .inl (by subst hx; exact hgp))
  exact bodyPost_ret (retA arrL Try.results13 rfl r9 hq) rfl ⟨rfl, (S5.next s9 (fun x hx => .inl (by subst hx; exact hgr))).below (Nat.le_refl _) (fun _ h => h)⟩
set_option maxRecDepth 100000 in
set_option maxHeartbeats 2000000 in
theorem rrload_any (b : Blk) (k : Int) (w : World) :
    Calls Try.prog 14 #[.agg b.cs.toArray, .int .i64 k] w fun e w' => e = .returned (.agg (gP k b).cs.toArray) ∧ Below w.heap.size w w' := by
  have H := rget_any k b
  have hb := b.len
  have hq := (gP k b).len
  generalize gP k b = q at *
  generalize gT k b = t at *
  generalize gE k b = e0 at *
  have t1 : True := trivial
  have t2 : True := trivial
  have t3 : True := trivial
  go_enter Try.func14, Try.ntmps14
  go_wp2_with (first
    | (refine at_box 23 64 arrB (by rfl) _ (by rfl) b.l (by rfl) hb ?_; intro gb w1 a1 z1 r1 b1)
    | (clear t1; refine at_new 35 54 arrL (by rfl) (by rfl) ?_; intro gr w2 a2 z2 r2 b2)
    | (refine at_get 23 64 arrB (by rfl) _ (by rfl) gb (by rfl) _ (r1.later b2) hb ?_)
    | (go_at_call 28; refine (H _).mono ?_; rintro e w3 ⟨rfl, b3⟩)
    | (clear t2; refine at_new 35 54 arrL (by rfl) (by rfl) ?_; intro gp w4 a4 z4 r4 b4)
    | (clear t3; refine at_put 35 54 arrL (by rfl) _ _ (by rfl) gp (by rfl) q.l (by rfl) hq _ r4 (by simp) ?_; intro w5 r5 s5)
    | (refine at_get 35 54 arrL (by rfl) _ (by rfl) gp (by rfl) _ r5 hq ?_)
    | (refine at_put 35 54 arrL (by rfl) _ _ (by rfl) gr (by rfl) q.l (by rfl) hq _ (((r2.later b3).later b4).step s5 (by have := b3.size; omega)) (by simp) ?_; intro w9 r9 s9))
  have S4 : Stp (fun x => w.heap.size ≤ x) w w4 := Stp.of_below (bnext (bnext (bnext b1 b2 (Nat.le_refl _)) b3 (Nat.le_refl _)) b4 (Nat.le_refl _)) _
  have hgr : w.heap.size ≤ gr := by have := b1.size; omega
  have hgp : w.heap.size ≤ gp := by have := b1.size; have := b2.size; have := b3.size; omega
  have S5 := S4.next s5 (fun x hx => .inl (by subst hx; exact hgp))
  exact bodyPost_ret (retA arrL Try.results14 rfl r9 hq) rfl ⟨rfl, (S5.next s9 (fun x hx => .inl (by subst hx; exact hgr))).below (Nat.le_refl _) (fun _ h => h)⟩
set_option maxRecDepth 100000 in
set_option maxHeartbeats 2000000 in
theorem rrturn_any (b : Blk) (w : World) :
    Calls Try.prog 12 #[.agg b.cs.toArray] w fun e w' => e = .returned (.int .u32 (nT b : Nat)) ∧ Below w.heap.size w w' := by
  have H := rkind_any b
  have H2 := rget_any (oK b : Nat) b
  have hb := b.len
  rw [gT_oK] at H2
  have hn : IntKind.u32.wrap ((oT b : Int) + 1) = (nT b : Int) := nT_int b
  by_cases h0 : oK b = 0
  · have hT : Hid (nT b = 1) := by show _ = _; unfold nT; rw [oT_none h0]
    rw [h0] at H
    clear H2 hn
    rw [hT.out]
    go_enter Try.func12, Try.ntmps12
    go_wp2_with (first
      | (refine at_box 23 64 arrB (by rfl) _ (by rfl) b.l (by rfl) hb ?_; intro gb w1 a1 z1 r1 b1)
      | (refine at_get 23 64 arrB (by rfl) _ (by rfl) gb (by rfl) _ r1 hb ?_)
      | (go_at_call 35; refine (H _).mono ?_; rintro e w2 ⟨rfl, b2⟩))
    go_returns
    exact ⟨rfl, bnext b1 b2 (Nat.le_refl _)⟩
  · have hq := (gP (oK b : Nat) b).len
    have h0' : ¬ ((oK b : Nat) : Int) = 0 := by omega
    generalize gP (oK b : Nat) b = q at *
    generalize gE (oK b : Nat) b = e0 at *
    generalize oT b = t at *
    generalize nT b = t' at *
    generalize oK b = k at *
    clear h0
    go_enter Try.func12, Try.ntmps12
    go_wp2_with (first
      | (refine at_box 23 64 arrB (by rfl) _ (by rfl) b.l (by rfl) hb ?_; intro gb w1 a1 z1 r1 b1)
      | (go_at_call 35; refine (H _).mono ?_; rintro e w2 ⟨rfl, b2⟩; have r2 := r1.later b2; clear H r1)
      | (refine at_get 23 64 arrB (by rfl) _ (by rfl) gb (by rfl) _ r1 hb ?_)
      | (refine at_get 23 64 arrB (by rfl) _ (by rfl) gb (by rfl) _ r2 hb ?_)
      | (go_at_call 28; refine (H2 _).mono ?_; rintro e w3 ⟨rfl, b3⟩)
      | (refine at_new 35 54 arrL (by rfl) (by rfl) ?_; intro gp w4 a4 z4 r4 b4)
      | (refine at_put 35 54 arrL (by rfl) _ _ (by rfl) gp (by rfl) q.l (by rfl) hq _ r4 (by simp) ?_; intro w5 r5 s5))
    go_returns
    have S4 : Stp (fun x => w.heap.size ≤ x) w w4 := Stp.of_below (bnext (bnext (bnext b1 b2 (Nat.le_refl _)) b3 (Nat.le_refl _)) b4 (Nat.le_refl _)) _
    have hgp : w.heap.size ≤ gp := by have := b1.size; have := b2.size; have := b3.size; omega
    exact ⟨rfl, (S4.next s5 (fun x hx => .inl (by subst hx; exact hgp))).below (Nat.le_refl _) (fun _ h => h)⟩
end Go.Proofs.Yteceapdkgidenaa
