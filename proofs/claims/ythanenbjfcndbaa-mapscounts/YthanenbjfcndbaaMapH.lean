/-
  What Free and Clean of layer 9 return, for every input: no statement is proved here.
-/
import Derived.Test.YthanenbjfcndbaaMapG
namespace Go.Proofs.Ythanenbjfcndbaa
open Go.ChangeShapes Go.WideShapes Go.ChangeAt Go.RowKit
set_option linter.unusedVariables false

set_option maxRecDepth 100000 in
set_option maxHeartbeats 4000000 in
theorem mfree_any (p : Ld) (s : Gm) (w : World) :
    Calls Try.prog 19 #[.agg p.cs.toArray, gv s] w fun e w' => e = .returned (.tuple #[.int .i64 (mF p s 0), .int .i64 (mF p s 4)]) ∧ Below w.heap.size w w' := by
  have hp := p.len
  have q0 := mC_range p s 0
  have q4 := mC_range p s 4
  have n0 := mN_128 s 0
  have n4 := mN_128 s 4
  have H1 : Hid _ := counts_any p s
  have H2 : Hid _ := places_any s 0
  have H3 : Hid _ := places_any s 4
  unfold mF
  generalize mC p s 0 = c0 at *
  generalize mC p s 4 = c4 at *
  generalize mN s 0 = N0 at *
  generalize mN s 4 = N4 at *
  go_enter Try.func19, Try.ntmps19
  go_wp2_with (first
    | (refine at_box 23 54 arrL (by rfl) _ (by rfl) p.l (by rfl) hp ?_; intro g0 w0 a0 z0 r0 b0)
    | (refine at_boxG (by rfl) _ (by rfl) s (by rfl) ?_; intro g1 w1 a1 z1 r1 b1; have rp := r0.later b1)
    | (refine at_getL (by rfl) _ (by rfl) g0 (by rfl) p rp ?_)
    | (refine at_getG (by rfl) _ (by rfl) g1 (by rfl) s r1 ?_)
    | (go_at_call 34; refine (H1.out _).mono ?_; rintro e W ⟨rfl, b2⟩))
  have rg := r1.later b2
  have B := bnext (bnext b0 b1 (Nat.le_refl _)) b2 (Nat.le_refl _)
  clear r0 r1 b0 b1 b2 a0 a1 z0 z1 rp
  refine wp_region_held_drew (S := fun u => Below W.heap.size W u) (by kernel_rfl) (Below.refl _ _).drew (fun hHeld => ?_)
  refine wpAnyH_take (i := 0) (oi := { dst := some 14, op := Op.load 36 (Operand.tmp 3), type := 36, pos := _, after := #[], guard := none }) (v := gv s) rfl (by kernel_rfl) (by kernel_rfl) (by kernel_rfl) (fun _ _ _ h => h)
    (yields_G (by rfl) (.tmp 3) rfl g1 (by rfl) s (fun u hu => rg.later hu)) hHeld ?_
  try simp only [Act.put, List.setIfInBounds_toArray, List.set_cons_zero, List.set_cons_succ]
  refine wpAnyH_take (i := 2) (oi := { dst := some 16, op := Op.move (Operand.tmp 6), type := 3, pos := _, after := #[], guard := none }) (v := .int .i64 c0) rfl (by kernel_rfl) (by kernel_rfl) (by kernel_rfl) (fun _ _ _ h => h) (Or.inl ⟨by rfl, ?_⟩) hHeld ?_
  · intro u hu
    go_simp
  try simp only [Act.put, List.setIfInBounds_toArray, List.set_cons_zero, List.set_cons_succ]
  refine wpAnyH_take (i := 4) (oi := { dst := some 18, op := Op.load 36 (Operand.tmp 3), type := 36, pos := _, after := #[], guard := none }) (v := gv s) rfl (by kernel_rfl) (by kernel_rfl) (by kernel_rfl) (fun _ _ _ h => h)
    (yields_G (by rfl) (.tmp 3) rfl g1 (by rfl) s (fun u hu => rg.later hu)) hHeld ?_
  try simp only [Act.put, List.setIfInBounds_toArray, List.set_cons_zero, List.set_cons_succ]
  refine wpAnyH_take (i := 6) (oi := { dst := some 20, op := Op.move (Operand.tmp 7), type := 3, pos := _, after := #[{ on := 8, ground := Ground.gcOnly Departure.lateStores }], guard := none }) (v := .int .i64 c4) rfl (by kernel_rfl) (by kernel_rfl) (by kernel_rfl) (fun _ _ _ h => h) (Or.inl ⟨by rfl, ?_⟩) hHeld ?_
  · intro u hu
    go_simp
  try simp only [Act.put, List.setIfInBounds_toArray, List.set_cons_zero, List.set_cons_succ]
  refine wpAnyH_ready (rs := [1]) (by kernel_rfl) (by simp) ?_
  refine (AllReadyH.cons (o := { dst := some 15, op := Op.call { callee := Callee.value (Operand.func 35), args := #[Operand.tmp 14, Operand.const (Value.int IntKind.i64 0)], argTypes := #[36, 3] }, type := 3, pos := _, after := #[{ on := 0, ground := Ground.data }], guard := none }) rfl (fun K hK => ?_) AllReadyH.nil)
  go_simp
  refine (H2.out _).mono ?_
  rintro e v1 ⟨rfl, d1⟩
  try go_wp2_with fail
  refine hK.out _ _ (bnext hHeld d1 (Nat.le_refl _)) (fun hHeld => ?_)
  clear hK K
  try simp only [Act.put, List.setIfInBounds_toArray, List.set_cons_zero, List.set_cons_succ]
  refine wpAnyH_take (i := 3) (oi := { dst := some 17, op := Op.binOp BinOp.sub 3 (Operand.tmp 15) (Operand.tmp 16) 3, type := 3, pos := _, after := #[{ on := 1, ground := Ground.data }, { on := 2, ground := Ground.data }], guard := none }) (v := .int .i64 ((N0 : Int) - c0)) rfl (by kernel_rfl) (by kernel_rfl) (by kernel_rfl) (fun _ _ _ h => h) (Or.inl ⟨by rfl, ?_⟩) hHeld ?_
  · intro u hu
    (go_simp; rw [IntKind.wrap_i64]; omega)
  try simp only [Act.put, List.setIfInBounds_toArray, List.set_cons_zero, List.set_cons_succ]
  refine wpAnyH_ready (rs := [5]) (by kernel_rfl) (by simp) ?_
  refine (AllReadyH.cons (o := { dst := some 19, op := Op.call { callee := Callee.value (Operand.func 35), args := #[Operand.tmp 18, Operand.const (Value.int IntKind.i64 4)], argTypes := #[36, 3] }, type := 3, pos := _, after := #[{ on := 4, ground := Ground.data }, { on := 1, ground := Ground.chain }], guard := none }) rfl (fun K hK => ?_) AllReadyH.nil)
  go_simp
  refine (H3.out _).mono ?_
  rintro e v5 ⟨rfl, d5⟩
  try go_wp2_with fail
  refine hK.out _ _ (bnext hHeld d5 (Nat.le_refl _)) (fun hHeld => ?_)
  clear hK K
  try simp only [Act.put, List.setIfInBounds_toArray, List.set_cons_zero, List.set_cons_succ]
  refine wpAnyH_take (i := 7) (oi := { dst := some 21, op := Op.binOp BinOp.sub 3 (Operand.tmp 19) (Operand.tmp 20) 3, type := 3, pos := _, after := #[{ on := 5, ground := Ground.data }, { on := 6, ground := Ground.data }, { on := 8, ground := Ground.gcOnly Departure.lateStores }], guard := none }) (v := .int .i64 ((N4 : Int) - c4)) rfl (by kernel_rfl) (by kernel_rfl) (by kernel_rfl) (fun _ _ _ h => h) (Or.inl ⟨by rfl, ?_⟩) hHeld ?_
  · intro u hu
    (go_simp; rw [IntKind.wrap_i64]; omega)
  try simp only [Act.put, List.setIfInBounds_toArray, List.set_cons_zero, List.set_cons_succ]
  refine wpAnyH_take (i := 8) (oi := { dst := some 4, op := Op.assign (Operand.tmp 17), type := 3, pos := _, after := #[{ on := 3, ground := Ground.data }, { on := 5, ground := Ground.chain }, { on := 0, ground := Ground.phase }, { on := 1, ground := Ground.phase }, { on := 2, ground := Ground.phase }, { on := 3, ground := Ground.phase }, { on := 4, ground := Ground.textOnly Departure.lateStores }, { on := 5, ground := Ground.textOnly Departure.lateStoresUnsure }, { on := 6, ground := Ground.textOnly Departure.lateStores }, { on := 7, ground := Ground.textOnly Departure.lateStores }], guard := none }) (v := .int .i64 ((N0 : Int) - c0)) rfl (by kernel_rfl) (by kernel_rfl) (by kernel_rfl) (fun _ _ _ h => h) (Or.inl ⟨by rfl, ?_⟩) hHeld ?_
  · intro u hu
    go_simp
  try simp only [Act.put, List.setIfInBounds_toArray, List.set_cons_zero, List.set_cons_succ]
  refine wpAnyH_take (i := 9) (oi := { dst := some 5, op := Op.assign (Operand.tmp 21), type := 3, pos := _, after := #[{ on := 7, ground := Ground.data }, { on := 8, ground := Ground.chain }, { on := 0, ground := Ground.phase }, { on := 1, ground := Ground.phase }, { on := 2, ground := Ground.phase }, { on := 3, ground := Ground.phase }, { on := 4, ground := Ground.phase }, { on := 5, ground := Ground.phase }, { on := 6, ground := Ground.phase }, { on := 7, ground := Ground.phase }, { on := 8, ground := Ground.phase }], guard := none }) (v := .int .i64 ((N4 : Int) - c4)) rfl (by kernel_rfl) (by kernel_rfl) (by kernel_rfl) (fun _ _ _ h => h) (Or.inl ⟨by rfl, ?_⟩) hHeld ?_
  · intro u hu
    go_simp
  try simp only [Act.put, List.setIfInBounds_toArray, List.set_cons_zero, List.set_cons_succ]
  refine wpAnyH_done (by kernel_rfl) ?_ _
  go_wp2_with fail
  go_returns
  exact ⟨rfl, bnext B hHeld (Nat.le_refl _)⟩
theorem countL_any (p : Ld) (g : Nat) (w : World) (h : Row w g p.l) :
    Calls Try.prog 41 #[.slice (some ⟨g, 0, none⟩) 54 54, .int .i64 432] w fun e w' => e = .returned (.int .i64 (cnt (ints p.l) 432)) ∧ Below w.heap.size w w' := by
  have hp := p.len
  have y0 := h.bs0 54 54 (by omega) (Nat.le_refl _) (by decide)
  rw [List.take_of_length_le (by omega)] at y0
  refine (count_any _ _ _ _ 432 w y0 (by omega) (by omega) (by omega)).mono ?_
  rintro e w' ⟨rfl, q, rfl⟩
  exact ⟨rfl, below_drewN _ _⟩
theorem mK_ways (p : Ld) (s : Gm) : (s.err = 2 ∧ mK p s = false) ∨ (s.err = 0 ∧ mK p s = (cnt (ints p.l) 432 == mC p s 0 + mC p s 4)) := by
  unfold mK Gm.err
  by_cases h : s.ok
  · rw [if_pos h, decide_eq_true h, Bool.true_and]; exact .inr ⟨rfl, rfl⟩
  · rw [if_neg h, decide_eq_false h, Bool.false_and]; exact .inl ⟨rfl, rfl⟩
set_option maxRecDepth 100000 in
set_option maxHeartbeats 2000000 in
theorem mclean_any (p : Ld) (s : Gm) (w : World) :
    Calls Try.prog 23 #[.agg p.cs.toArray, gv s] w fun e w' => e = .returned (.bool (mK p s)) ∧ Below w.heap.size w w' := by
  have hp := p.len
  have hC := check_any s
  have q0 := mC_range p s 0
  have q4 := mC_range p s 4
  have n0 := mN_128 s 0
  have n4 := mN_128 s 4
  have H1 : Hid _ := counts_any p s
  have H2 : Hid _ := countL_any p
  rcases mK_ways p s with ⟨he, hk⟩ | ⟨he, hk⟩
  all_goals
    rw [he] at hC
    have hK : Hid (mK p s = _) := hk
    clear hk he
    go_enter Try.func23, Try.ntmps23
    go_wp2_with (first
      | (refine at_box 23 54 arrL (by rfl) _ (by rfl) p.l (by rfl) hp ?_; intro g0 w0 a0 z0 r0 b0)
      | (refine at_boxG (by rfl) _ (by rfl) s (by rfl) ?_; intro g1 w1 a1 z1 r1 b1)
      | (refine at_getG (by rfl) _ (by rfl) g1 (by rfl) s r2 ?_)
      | (refine at_getG (by rfl) _ (by rfl) g1 (by rfl) s r1 ?_)
      | (go_at_call 40; refine (hC _).mono ?_; rintro e w2 ⟨rfl, b2⟩; have r2 := r1.later b2; have rp := (r0.later b1).later b2; have B2 := bnext (bnext b0 b1 (Nat.le_refl _)) b2 (Nat.le_refl _))
      | (refine at_getL (by rfl) _ (by rfl) g0 (by rfl) p rp ?_)
      | (go_at_call 34; refine (H1.out _).mono ?_; rintro e w3 ⟨rfl, b3⟩; have rp3 := rp.later b3)
      | (go_at_call 41; refine (H2.out g0 _ rp3).mono ?_; rintro e w4 ⟨rfl, b4⟩))
    go_returns
    first
      | exact ⟨by rw [hK.out]; rfl, bnext (bnext B2 b3 (Nat.le_refl _)) b4 (Nat.le_refl _)⟩
      | exact ⟨by rw [hK.out]; rfl, B2⟩
end Go.Proofs.Ythanenbjfcndbaa
