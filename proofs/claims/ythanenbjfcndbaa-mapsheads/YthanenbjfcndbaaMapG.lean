/-
  What taken, Free, First and Clean of layer 9 return, for every input: no statement is proved here.
-/
import Derived.Test.YthanenbjfcndbaaMapF
namespace Go.Proofs.Ythanenbjfcndbaa
open Go.ChangeShapes Go.WideShapes Go.ChangeAt Go.RowKit
set_option linter.unusedVariables false

set_option maxRecDepth 100000 in
set_option maxHeartbeats 4000000 in
theorem counts_any (p : Ld) (s : Gm) (w : World) :
    Calls Try.prog 34 #[.agg p.cs.toArray, gv s] w fun e w' => e = .returned (.tuple #[.int .i64 (mC p s 0), .int .i64 (mC p s 4)]) ∧ Below w.heap.size w w' := by
  have hp := p.len
  go_enter Try.func34, Try.ntmps34
  go_wp2_with (first
    | (refine at_box 23 54 arrL (by rfl) _ (by rfl) p.l (by rfl) hp ?_; intro g0 w0 a0 z0 r0 b0)
    | (refine at_boxG (by rfl) _ (by rfl) s (by rfl) ?_; intro g1 w1 a1 z1 r1 b1)
    | (go_at_call 38; refine (spans_any _).mono ?_; rintro e W ⟨b, rfl, m2, b2⟩))
  have rp := (r0.later b1).later b2
  have rg := r1.later b2
  have B := bnext (bnext b0 b1 (Nat.le_refl _)) b2 (Nat.le_refl _)
  clear r0 r1 b0 b1 b2 a0 a1 z0 z1
  refine wp_region_held_drew (S := fun u => Below W.heap.size W u) (by kernel_rfl) (Below.refl _ _).drew (fun hHeld => ?_)
  refine wpAnyH_take (i := 0) (oi := { dst := some 8, op := Op.move (Operand.tmp 6), type := 62, pos := _, after := #[], guard := none }) (v := .map (some b)) rfl (by kernel_rfl) (by kernel_rfl) (by kernel_rfl) (fun _ _ _ h => h) (Or.inl ⟨by rfl, ?_⟩) hHeld ?_
  · intro u hu
    go_simp
  try simp only [Act.put, List.setIfInBounds_toArray, List.set_cons_zero, List.set_cons_succ]
  refine wpAnyH_take (i := 1) (oi := { dst := some 9, op := Op.lookup 62 (Operand.tmp 8) (Operand.const (Value.int IntKind.i64 0)) false, type := 50, pos := _, after := #[{ on := 0, ground := Ground.data }], guard := none }) (v := .agg (spc (sA 0) (sZ 0)).toArray) rfl (by kernel_rfl) (by kernel_rfl) (by kernel_rfl) (fun _ _ _ h => h)
    (yields_sp 0 (by decide) (by rfl) (.tmp 8) (.const (.int .i64 0)) rfl b (by rfl) (by rfl) (fun u hu => m2.later hu)) hHeld ?_
  try simp only [Act.put, List.setIfInBounds_toArray, List.set_cons_zero, List.set_cons_succ]
  refine wpAnyH_take (i := 2) (oi := { dst := some 10, op := Op.load 23 (Operand.tmp 2), type := 23, pos := _, after := #[], guard := none }) (v := .agg p.cs.toArray) rfl (by kernel_rfl) (by kernel_rfl) (by kernel_rfl) (fun _ _ _ h => h)
    (yields_row 23 54 arrL (by rfl) (.tmp 2) rfl g0 (by rfl) p.l hp (fun u hu => rp.later hu)) hHeld ?_
  try simp only [Act.put, List.setIfInBounds_toArray, List.set_cons_zero, List.set_cons_succ]
  refine wpAnyH_take (i := 4) (oi := { dst := some 12, op := Op.load 36 (Operand.tmp 3), type := 36, pos := _, after := #[], guard := none }) (v := gv s) rfl (by kernel_rfl) (by kernel_rfl) (by kernel_rfl) (fun _ _ _ h => h)
    (yields_G (by rfl) (.tmp 3) rfl g1 (by rfl) s (fun u hu => rg.later hu)) hHeld ?_
  try simp only [Act.put, List.setIfInBounds_toArray, List.set_cons_zero, List.set_cons_succ]
  refine wpAnyH_take (i := 7) (oi := { dst := some 15, op := Op.move (Operand.tmp 6), type := 62, pos := _, after := #[], guard := none }) (v := .map (some b)) rfl (by kernel_rfl) (by kernel_rfl) (by kernel_rfl) (fun _ _ _ h => h) (Or.inl ⟨by rfl, ?_⟩) hHeld ?_
  · intro u hu
    go_simp
  try simp only [Act.put, List.setIfInBounds_toArray, List.set_cons_zero, List.set_cons_succ]
  refine wpAnyH_take (i := 8) (oi := { dst := some 16, op := Op.lookup 62 (Operand.tmp 15) (Operand.const (Value.int IntKind.i64 4)) false, type := 50, pos := _, after := #[{ on := 7, ground := Ground.data }], guard := none }) (v := .agg (spc (sA 4) (sZ 4)).toArray) rfl (by kernel_rfl) (by kernel_rfl) (by kernel_rfl) (fun _ _ _ h => h)
    (yields_sp 4 (by decide) (by rfl) (.tmp 15) (.const (.int .i64 4)) rfl b (by rfl) (by rfl) (fun u hu => m2.later hu)) hHeld ?_
  try simp only [Act.put, List.setIfInBounds_toArray, List.set_cons_zero, List.set_cons_succ]
  refine wpAnyH_take (i := 9) (oi := { dst := some 17, op := Op.load 23 (Operand.tmp 2), type := 23, pos := _, after := #[], guard := none }) (v := .agg p.cs.toArray) rfl (by kernel_rfl) (by kernel_rfl) (by kernel_rfl) (fun _ _ _ h => h)
    (yields_row 23 54 arrL (by rfl) (.tmp 2) rfl g0 (by rfl) p.l hp (fun u hu => rp.later hu)) hHeld ?_
  try simp only [Act.put, List.setIfInBounds_toArray, List.set_cons_zero, List.set_cons_succ]
  refine wpAnyH_take (i := 11) (oi := { dst := some 19, op := Op.load 36 (Operand.tmp 3), type := 36, pos := _, after := #[], guard := none }) (v := gv s) rfl (by kernel_rfl) (by kernel_rfl) (by kernel_rfl) (fun _ _ _ h => h)
    (yields_G (by rfl) (.tmp 3) rfl g1 (by rfl) s (fun u hu => rg.later hu)) hHeld ?_
  try simp only [Act.put, List.setIfInBounds_toArray, List.set_cons_zero, List.set_cons_succ]
  refine wpAnyH_ready (rs := [3]) (by kernel_rfl) (by simp) ?_
  refine (AllReadyH.cons (o := { dst := some 11, op := Op.call { callee := Callee.value (Operand.func 29), args := #[Operand.tmp 9, Operand.tmp 10], argTypes := #[50, 23] }, type := 48, pos := _, after := #[{ on := 1, ground := Ground.data }, { on := 2, ground := Ground.data }], guard := none }) rfl (fun K hK => ?_) AllReadyH.nil)
  go_simp
  refine (bits_any 0 _ _ p _ rfl rfl).mono ?_
  rintro e v3 ⟨x3, c3, rfl, y3, d3⟩
  try go_wp2_with fail
  refine hK.out _ _ (bnext hHeld d3 (Nat.le_refl _)) (fun hHeld => ?_)
  clear hK K
  try simp only [Act.put, List.setIfInBounds_toArray, List.set_cons_zero, List.set_cons_succ]
  refine wpAnyH_ready (rs := [5]) (by kernel_rfl) (by simp) ?_
  refine (AllReadyH.cons (o := { dst := some 13, op := Op.call { callee := Callee.value (Operand.func 35), args := #[Operand.tmp 12, Operand.const (Value.int IntKind.i64 0)], argTypes := #[36, 3] }, type := 3, pos := _, after := #[{ on := 4, ground := Ground.data }, { on := 3, ground := Ground.chain }], guard := none }) rfl (fun K hK => ?_) AllReadyH.nil)
  go_simp
  refine (places_any s 0 _).mono ?_
  rintro e v5 ⟨rfl, d5⟩
  try go_wp2_with fail
  have y3 := y3.later d5
  refine hK.out _ _ (bnext hHeld d5 (Nat.le_refl _)) (fun hHeld => ?_)
  clear hK K
  try simp only [Act.put, List.setIfInBounds_toArray, List.set_cons_zero, List.set_cons_succ]
  refine wpAnyH_ready (rs := [6]) (by kernel_rfl) (by simp) ?_
  refine (AllReadyH.cons (o := { dst := some 14, op := Op.call { callee := Callee.value (Operand.func 41), args := #[Operand.tmp 11, Operand.tmp 13], argTypes := #[48, 3] }, type := 3, pos := _, after := #[{ on := 3, ground := Ground.data }, { on := 5, ground := Ground.data }, { on := 5, ground := Ground.chain }], guard := none }) rfl (fun K hK => ?_) AllReadyH.nil)
  go_simp
  refine (countS_any p s 0 _ _ _ y3).mono ?_
  rintro e v6 ⟨rfl, d6⟩
  try go_wp2_with fail
  refine hK.out _ _ (bnext hHeld d6 (Nat.le_refl _)) (fun hHeld => ?_)
  clear hK K
  try simp only [Act.put, List.setIfInBounds_toArray, List.set_cons_zero, List.set_cons_succ]
  refine wpAnyH_ready (rs := [10]) (by kernel_rfl) (by simp) ?_
  refine (AllReadyH.cons (o := { dst := some 18, op := Op.call { callee := Callee.value (Operand.func 29), args := #[Operand.tmp 16, Operand.tmp 17], argTypes := #[50, 23] }, type := 48, pos := _, after := #[{ on := 8, ground := Ground.data }, { on := 9, ground := Ground.data }, { on := 6, ground := Ground.chain }], guard := none }) rfl (fun K hK => ?_) AllReadyH.nil)
  go_simp
  refine (bits_any 4 _ _ p _ rfl rfl).mono ?_
  rintro e v10 ⟨x10, c10, rfl, y10, d10⟩
  try go_wp2_with fail
  refine hK.out _ _ (bnext hHeld d10 (Nat.le_refl _)) (fun hHeld => ?_)
  clear hK K
  try simp only [Act.put, List.setIfInBounds_toArray, List.set_cons_zero, List.set_cons_succ]
  refine wpAnyH_ready (rs := [12]) (by kernel_rfl) (by simp) ?_
  refine (AllReadyH.cons (o := { dst := some 20, op := Op.call { callee := Callee.value (Operand.func 35), args := #[Operand.tmp 19, Operand.const (Value.int IntKind.i64 4)], argTypes := #[36, 3] }, type := 3, pos := _, after := #[{ on := 11, ground := Ground.data }, { on := 10, ground := Ground.chain }], guard := none }) rfl (fun K hK => ?_) AllReadyH.nil)
  go_simp
  refine (places_any s 4 _).mono ?_
  rintro e v12 ⟨rfl, d12⟩
  try go_wp2_with fail
  have y10 := y10.later d12
  refine hK.out _ _ (bnext hHeld d12 (Nat.le_refl _)) (fun hHeld => ?_)
  clear hK K
  try simp only [Act.put, List.setIfInBounds_toArray, List.set_cons_zero, List.set_cons_succ]
  refine wpAnyH_ready (rs := [13]) (by kernel_rfl) (by simp) ?_
  refine (AllReadyH.cons (o := { dst := some 21, op := Op.call { callee := Callee.value (Operand.func 41), args := #[Operand.tmp 18, Operand.tmp 20], argTypes := #[48, 3] }, type := 3, pos := _, after := #[{ on := 10, ground := Ground.data }, { on := 12, ground := Ground.data }, { on := 12, ground := Ground.chain }], guard := none }) rfl (fun K hK => ?_) AllReadyH.nil)
  go_simp
  refine (countS_any p s 4 _ _ _ y10).mono ?_
  rintro e v13 ⟨rfl, d13⟩
  try go_wp2_with fail
  refine hK.out _ _ (bnext hHeld d13 (Nat.le_refl _)) (fun hHeld => ?_)
  clear hK K
  try simp only [Act.put, List.setIfInBounds_toArray, List.set_cons_zero, List.set_cons_succ]
  refine wpAnyH_take (i := 14) (oi := { dst := some 4, op := Op.assign (Operand.tmp 14), type := 3, pos := _, after := #[{ on := 6, ground := Ground.data }, { on := 13, ground := Ground.chain }, { on := 0, ground := Ground.phase }, { on := 1, ground := Ground.phase }, { on := 2, ground := Ground.phase }, { on := 3, ground := Ground.phase }, { on := 4, ground := Ground.phase }, { on := 5, ground := Ground.phase }, { on := 6, ground := Ground.phase }, { on := 7, ground := Ground.textOnly Departure.lateStores }, { on := 8, ground := Ground.textOnly Departure.lateStores }, { on := 9, ground := Ground.textOnly Departure.lateStores }, { on := 10, ground := Ground.textOnly Departure.lateStoresUnsure }, { on := 11, ground := Ground.textOnly Departure.lateStores }, { on := 12, ground := Ground.textOnly Departure.lateStoresUnsure }, { on := 13, ground := Ground.textOnly Departure.lateStoresUnsure }], guard := none }) (v := .int .i64 (mC p s 0)) rfl (by kernel_rfl) (by kernel_rfl) (by kernel_rfl) (fun _ _ _ h => h) (Or.inl ⟨by rfl, ?_⟩) hHeld ?_
  · intro u hu
    go_simp
  try simp only [Act.put, List.setIfInBounds_toArray, List.set_cons_zero, List.set_cons_succ]
  refine wpAnyH_take (i := 15) (oi := { dst := some 5, op := Op.assign (Operand.tmp 21), type := 3, pos := _, after := #[{ on := 13, ground := Ground.data }, { on := 14, ground := Ground.chain }, { on := 0, ground := Ground.phase }, { on := 1, ground := Ground.phase }, { on := 2, ground := Ground.phase }, { on := 3, ground := Ground.phase }, { on := 4, ground := Ground.phase }, { on := 5, ground := Ground.phase }, { on := 6, ground := Ground.phase }, { on := 7, ground := Ground.phase }, { on := 8, ground := Ground.phase }, { on := 9, ground := Ground.phase }, { on := 10, ground := Ground.phase }, { on := 11, ground := Ground.phase }, { on := 12, ground := Ground.phase }, { on := 13, ground := Ground.phase }, { on := 14, ground := Ground.phase }], guard := none }) (v := .int .i64 (mC p s 4)) rfl (by kernel_rfl) (by kernel_rfl) (by kernel_rfl) (fun _ _ _ h => h) (Or.inl ⟨by rfl, ?_⟩) hHeld ?_
  · intro u hu
    go_simp
  try simp only [Act.put, List.setIfInBounds_toArray, List.set_cons_zero, List.set_cons_succ]
  refine wpAnyH_done (by kernel_rfl) ?_ _
  go_wp2_with fail
  go_returns
  exact ⟨rfl, bnext B hHeld (Nat.le_refl _)⟩
set_option maxRecDepth 100000 in
set_option maxHeartbeats 4000000 in
theorem mfirst_any (p : Ld) (s : Gm) (k f : Int) (w : World) (hk : (Lit.int .i64 k).wf = true) (hf : (Lit.int .i64 f).wf = true) :
    Calls Try.prog 21 #[.agg p.cs.toArray, gv s, .int .i64 k, .int .i64 f] w fun e w' => e = .returned (.int .i64 (m1 p s k f)) ∧ Below w.heap.size w w' := by
  have hp := p.len
  go_enter Try.func21, Try.ntmps21
  go_wp2_with (first
    | (refine at_box 23 54 arrL (by rfl) _ (by rfl) p.l (by rfl) hp ?_; intro g0 w0 a0 z0 r0 b0)
    | (refine at_boxG (by rfl) _ (by rfl) s (by rfl) ?_; intro g1 W a1 z1 rg b1))
  have rp := r0.later b1
  have B := bnext b0 b1 (Nat.le_refl _)
  clear r0 b0 b1 a0 a1 z0 z1
  refine wp_region_held_drew (S := fun u => Below W.heap.size W u) (by kernel_rfl) (Below.refl _ _).drew (fun hHeld => ?_)
  refine wpAnyH_take (i := 1) (oi := { dst := some 10, op := Op.move (Operand.tmp 2), type := 3, pos := _, after := #[], guard := none }) (v := .int .i64 k) rfl (by kernel_rfl) (by kernel_rfl) (by kernel_rfl) (fun _ _ _ h => h) (Or.inl ⟨by rfl, ?_⟩) hHeld ?_
  · intro u hu
    go_simp
  try simp only [Act.put, List.setIfInBounds_toArray, List.set_cons_zero, List.set_cons_succ]
  refine wpAnyH_take (i := 3) (oi := { dst := some 12, op := Op.load 23 (Operand.tmp 4), type := 23, pos := _, after := #[], guard := none }) (v := .agg p.cs.toArray) rfl (by kernel_rfl) (by kernel_rfl) (by kernel_rfl) (fun _ _ _ h => h)
    (yields_row 23 54 arrL (by rfl) (.tmp 4) rfl g0 (by rfl) p.l hp (fun u hu => rp.later hu)) hHeld ?_
  try simp only [Act.put, List.setIfInBounds_toArray, List.set_cons_zero, List.set_cons_succ]
  refine wpAnyH_take (i := 5) (oi := { dst := some 14, op := Op.move (Operand.tmp 3), type := 3, pos := _, after := #[], guard := none }) (v := .int .i64 f) rfl (by kernel_rfl) (by kernel_rfl) (by kernel_rfl) (fun _ _ _ h => h) (Or.inl ⟨by rfl, ?_⟩) hHeld ?_
  · intro u hu
    go_simp
  try simp only [Act.put, List.setIfInBounds_toArray, List.set_cons_zero, List.set_cons_succ]
  refine wpAnyH_take (i := 6) (oi := { dst := some 15, op := Op.load 36 (Operand.tmp 5), type := 36, pos := _, after := #[], guard := none }) (v := gv s) rfl (by kernel_rfl) (by kernel_rfl) (by kernel_rfl) (fun _ _ _ h => h)
    (yields_G (by rfl) (.tmp 5) rfl g1 (by rfl) s (fun u hu => rg.later hu)) hHeld ?_
  try simp only [Act.put, List.setIfInBounds_toArray, List.set_cons_zero, List.set_cons_succ]
  refine wpAnyH_take (i := 7) (oi := { dst := some 16, op := Op.move (Operand.tmp 2), type := 3, pos := _, after := #[], guard := none }) (v := .int .i64 k) rfl (by kernel_rfl) (by kernel_rfl) (by kernel_rfl) (fun _ _ _ h => h) (Or.inl ⟨by rfl, ?_⟩) hHeld ?_
  · intro u hu
    go_simp
  try simp only [Act.put, List.setIfInBounds_toArray, List.set_cons_zero, List.set_cons_succ]
  refine wpAnyH_ready (rs := [0]) (by kernel_rfl) (by simp) ?_
  refine (AllReadyH.cons (o := { dst := some 9, op := Op.call { callee := Callee.value (Operand.func 38), args := #[], argTypes := #[] }, type := 62, pos := _, after := #[], guard := none }) rfl (fun K hK => ?_) AllReadyH.nil)
  go_simp
  refine (spans_any _).mono ?_
  rintro e v0 ⟨b, rfl, m2, d0⟩
  try go_wp2_with fail
  refine hK.out _ _ (bnext hHeld d0 (Nat.le_refl _)) (fun hHeld => ?_)
  clear hK K
  try simp only [Act.put, List.setIfInBounds_toArray, List.set_cons_zero, List.set_cons_succ]
  refine wpAnyH_ready (rs := [2]) (by kernel_rfl) (by simp) ?_
  refine (AllReadyH.cons (o := { dst := some 11, op := Op.lookup 62 (Operand.tmp 9) (Operand.tmp 10) false, type := 50, pos := _, after := #[{ on := 0, ground := Ground.data }, { on := 1, ground := Ground.data }], guard := none }) rfl (fun K hK => ?_) AllReadyH.nil)
  refine step_sp k hk rfl (.tmp 9) (.tmp 10) rfl b (by rfl) (by rfl) m2 ?_
  refine hK.out _ _ (hHeld) (fun hHeld => ?_)
  clear hK K
  try simp only [Act.put, List.setIfInBounds_toArray, List.set_cons_zero, List.set_cons_succ]
  refine wpAnyH_ready (rs := [4]) (by kernel_rfl) (by simp) ?_
  refine (AllReadyH.cons (o := { dst := some 13, op := Op.call { callee := Callee.value (Operand.func 29), args := #[Operand.tmp 11, Operand.tmp 12], argTypes := #[50, 23] }, type := 48, pos := _, after := #[{ on := 2, ground := Ground.data }, { on := 3, ground := Ground.data }, { on := 0, ground := Ground.chain }], guard := none }) rfl (fun K hK => ?_) AllReadyH.nil)
  go_simp
  refine (bits_any k _ _ p _ rfl rfl).mono ?_
  rintro e v4 ⟨x4, c4, rfl, y4, d4⟩
  try go_wp2_with fail
  refine hK.out _ _ (bnext hHeld d4 (Nat.le_refl _)) (fun hHeld => ?_)
  clear hK K
  try simp only [Act.put, List.setIfInBounds_toArray, List.set_cons_zero, List.set_cons_succ]
  refine wpAnyH_ready (rs := [8]) (by kernel_rfl) (by simp) ?_
  refine (AllReadyH.cons (o := { dst := some 17, op := Op.call { callee := Callee.value (Operand.func 35), args := #[Operand.tmp 15, Operand.tmp 16], argTypes := #[36, 3] }, type := 3, pos := _, after := #[{ on := 6, ground := Ground.data }, { on := 7, ground := Ground.data }, { on := 4, ground := Ground.chain }], guard := none }) rfl (fun K hK => ?_) AllReadyH.nil)
  go_simp
  refine (places_any s k _).mono ?_
  rintro e v8 ⟨rfl, d8⟩
  try go_wp2_with fail
  have y4 := y4.later d8
  refine hK.out _ _ (bnext hHeld d8 (Nat.le_refl _)) (fun hHeld => ?_)
  clear hK K
  try simp only [Act.put, List.setIfInBounds_toArray, List.set_cons_zero, List.set_cons_succ]
  refine wpAnyH_ready (rs := [9]) (by kernel_rfl) (by simp) ?_
  refine (AllReadyH.cons (o := { dst := some 18, op := Op.call { callee := Callee.value (Operand.func 37), args := #[Operand.tmp 13, Operand.tmp 14, Operand.tmp 17], argTypes := #[48, 3, 3] }, type := 3, pos := _, after := #[{ on := 4, ground := Ground.data }, { on := 5, ground := Ground.data }, { on := 8, ground := Ground.data }, { on := 8, ground := Ground.chain }], guard := none }) rfl (fun K hK => ?_) AllReadyH.nil)
  go_simp
  refine (firstS_any p s k f _ _ _ y4 hf).mono ?_
  rintro e v9 ⟨rfl, d9⟩
  try go_wp2_with fail
  refine hK.out _ _ (bnext hHeld d9 (Nat.le_refl _)) (fun hHeld => ?_)
  clear hK K
  try simp only [Act.put, List.setIfInBounds_toArray, List.set_cons_zero, List.set_cons_succ]
  refine wpAnyH_take (i := 10) (oi := { dst := some 8, op := Op.assign (Operand.tmp 18), type := 3, pos := _, after := #[{ on := 9, ground := Ground.data }, { on := 9, ground := Ground.chain }, { on := 0, ground := Ground.phase }, { on := 1, ground := Ground.phase }, { on := 2, ground := Ground.phase }, { on := 3, ground := Ground.phase }, { on := 4, ground := Ground.phase }, { on := 5, ground := Ground.phase }, { on := 6, ground := Ground.phase }, { on := 7, ground := Ground.phase }, { on := 8, ground := Ground.phase }, { on := 9, ground := Ground.phase }], guard := none }) (v := .int .i64 (m1 p s k f)) rfl (by kernel_rfl) (by kernel_rfl) (by kernel_rfl) (fun _ _ _ h => h) (Or.inl ⟨by rfl, ?_⟩) hHeld ?_
  · intro u hu
    go_simp
  try simp only [Act.put, List.setIfInBounds_toArray, List.set_cons_zero, List.set_cons_succ]
  refine wpAnyH_done (by kernel_rfl) ?_ _
  go_wp2_with fail
  go_returns
  exact ⟨rfl, bnext B hHeld (Nat.le_refl _)⟩
end Go.Proofs.Ythanenbjfcndbaa
