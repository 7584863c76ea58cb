/-
  What the document's Free, First and Clean of layer 9 return, for every input: no statement is proved here.
-/
import Derived.Test.YthanenbjfcndbaaMapD
import Derived.Test.YthanenbjfcndbaaMapF
namespace Go.Proofs.Ythanenbjfcndbaa
open Go.ChangeShapes Go.WideShapes Go.ChangeAt Go.RowKit
set_option linter.unusedVariables false

theorem wf_i64 {n : Int} (h0 : -9223372036854775808 ≤ n) (h1 : n ≤ 9223372036854775807) : (Lit.int .i64 n).wf = true := by
  simp [Lit.wf, IntKind.min, IntKind.max, IntKind.signed, IntKind.bits]; omega
set_option maxRecDepth 100000 in
set_option maxHeartbeats 4000000 in
theorem rfreeK_any (p : Ld) (s : Gm) (k : Int) (w : World) :
    Calls Try.prog 36 #[.agg p.cs.toArray, gv s, .int .i64 k] w fun e w' => e = .returned (.int .i64 (mF p s k)) ∧ Below w.heap.size w w' := by
  have hp := p.len
  have n0 := mN_128 s k
  go_enter Try.func36, Try.ntmps36
  go_wp2_with (first
    | (refine at_box 23 54 arrL (by rfl) _ (by rfl) p.l (by rfl) hp ?_; intro g0 w0 a0 z0 r0 b0)
    | (refine at_boxG (by rfl) _ (by rfl) s (by rfl) ?_; intro g1 W a1 z1 rg b1; have rp := r0.later b1; have B := bnext b0 b1 (Nat.le_refl _); clear r0 b0 b1 a0 a1 z0 z1))
  have H1 : Hid _ := rmany_any s k
  obtain ⟨N, hN⟩ : ∃ N, mN s k = N := ⟨_, rfl⟩
  have hF : Hid (mF p s k = (N : Int) - cnt (ints (mS p k)) N) := by show _ = _; unfold mF mC; rw [hN]
  have hT : Hid (∀ i : Nat, i < N → mT p k (i : Int) = bitB (ints (mS p k)) i) := fun i hi => mT_at (s := s) (by omega)
  rw [hN] at H1 n0
  clear hN
  generalize ints (mS p k) = l at *
  go_loopw [7, 8] (fun n iv wr => ∃ i : Nat, i ≤ N ∧ iv = .int .i64 i ∧ n = .int .i64 ((i : Int) - cnt l i) ∧ Below W.heap.size W wr) (fun _ iv _ => N - (intOf iv).toNat)
  case atStart => exact ⟨0, Nat.zero_le _, rfl, rfl, Below.refl _ _⟩
  case round =>
    obtain ⟨i, hi, rfl, rfl, hbr⟩ := hrel
    have rp' := rp.later hbr
    have rg' := rg.later hbr
    have hr := cnt_range l i
    by_cases hlt : i < N
    · have hti := hT.out i hlt
      have hlt' : (i : Int) < N := by omega
      have H2 : Hid _ := fun w => rtaken_any p k (i : Int) w (wf_i64 (by omega) (by omega))
      generalize mE k (i : Int) = e0 at *
      cases hbit : bitB l i
      all_goals
        rw [hbit] at hti
        go_wp2_with (first
          | (refine at_getG (by rfl) _ (by rfl) g1 (by rfl) s rg' ?_)
          | (go_at_call 39; refine (H1.out _).mono ?_; rintro e w2 ⟨rfl, b2⟩; have rp2 := rp'.later b2)
          | (refine at_getL (by rfl) _ (by rfl) g0 (by rfl) p rp2 ?_)
          | (go_at_call 11; refine (H2.out _).mono ?_; rintro e w3 ⟨rfl, b3⟩))
        go_roundw
        case rel => exact ⟨i + 1, by omega, by go_num, by simp only [cnt, hbit]; first | (congr 1; simp; omega) | (congr 1; simp), bnext (bnext hbr b2 (Nat.le_refl _)) b3 (Nat.le_refl _)⟩
        case measure => simp [intOf]; omega
    · obtain rfl : i = N := by omega
      go_wp2_with (first
        | (refine at_getG (by rfl) _ (by rfl) g1 (by rfl) s rg' ?_)
        | (go_at_call 39; refine (H1.out _).mono ?_; rintro e w2 ⟨rfl, b2⟩))
      go_returns
      exact ⟨ret_int (by rw [hF.out]), bnext (bnext B hbr (Nat.le_refl _)) b2 (Nat.le_refl _)⟩
set_option maxRecDepth 100000 in
set_option maxHeartbeats 4000000 in
theorem rmfree_any (p : Ld) (s : Gm) (w : World) :
    Calls Try.prog 20 #[.agg p.cs.toArray, gv s] w fun e w' => e = .returned (.tuple #[.int .i64 (mF p s 0), .int .i64 (mF p s 4)]) ∧ Below w.heap.size w w' := by
  have hp := p.len
  go_enter Try.func20, Try.ntmps20
  go_wp2_with (first
    | (refine at_box 23 54 arrL (by rfl) _ (by rfl) p.l (by rfl) hp ?_; intro g0 w0 a0 z0 r0 b0)
    | (refine at_boxG (by rfl) _ (by rfl) s (by rfl) ?_; intro g1 W a1 z1 rg b1; have rp := r0.later b1; have B := bnext b0 b1 (Nat.le_refl _); clear r0 b0 b1 a0 a1 z0 z1))
  refine wp_region_held_drew (S := fun u => Below W.heap.size W u) (by kernel_rfl) (Below.refl _ _).drew (fun hHeld => ?_)
  refine wpAnyH_take (i := 0) (oi := { dst := some 6, op := Op.load 23 (Operand.tmp 2), type := 23, pos := _, after := #[], guard := none }) (v := .agg p.cs.toArray) rfl (by kernel_rfl) (by kernel_rfl) (by kernel_rfl) (fun _ _ _ h => h)
    (yields_row 23 54 arrL (by rfl) (.tmp 2) rfl g0 (by rfl) p.l hp (fun u hu => rp.later hu)) hHeld ?_
  try simp only [Act.put, List.setIfInBounds_toArray, List.set_cons_zero, List.set_cons_succ]
  refine wpAnyH_take (i := 1) (oi := { dst := some 7, op := Op.load 36 (Operand.tmp 3), type := 36, pos := _, after := #[], guard := none }) (v := gv s) rfl (by kernel_rfl) (by kernel_rfl) (by kernel_rfl) (fun _ _ _ h => h)
    (yields_G (by rfl) (.tmp 3) rfl g1 (by rfl) s (fun u hu => rg.later hu)) hHeld ?_
  try simp only [Act.put, List.setIfInBounds_toArray, List.set_cons_zero, List.set_cons_succ]
  refine wpAnyH_take (i := 3) (oi := { dst := some 9, op := Op.load 23 (Operand.tmp 2), type := 23, pos := _, after := #[], guard := none }) (v := .agg p.cs.toArray) rfl (by kernel_rfl) (by kernel_rfl) (by kernel_rfl) (fun _ _ _ h => h)
    (yields_row 23 54 arrL (by rfl) (.tmp 2) rfl g0 (by rfl) p.l hp (fun u hu => rp.later hu)) hHeld ?_
  try simp only [Act.put, List.setIfInBounds_toArray, List.set_cons_zero, List.set_cons_succ]
  refine wpAnyH_take (i := 4) (oi := { dst := some 10, op := Op.load 36 (Operand.tmp 3), type := 36, pos := _, after := #[], guard := none }) (v := gv s) rfl (by kernel_rfl) (by kernel_rfl) (by kernel_rfl) (fun _ _ _ h => h)
    (yields_G (by rfl) (.tmp 3) rfl g1 (by rfl) s (fun u hu => rg.later hu)) hHeld ?_
  try simp only [Act.put, List.setIfInBounds_toArray, List.set_cons_zero, List.set_cons_succ]
  refine wpAnyH_ready (rs := [2]) (by kernel_rfl) (by simp) ?_
  refine (AllReadyH.cons (o := { dst := some 8, op := Op.call { callee := Callee.value (Operand.func 36), args := #[Operand.tmp 6, Operand.tmp 7, Operand.const (Value.int IntKind.i64 0)], argTypes := #[23, 36, 3] }, type := 3, pos := _, after := #[{ on := 0, ground := Ground.data }, { on := 1, ground := Ground.data }], guard := none }) rfl (fun K hK => ?_) AllReadyH.nil)
  go_simp
  refine (rfreeK_any p s 0 _).mono ?_
  rintro e v2 ⟨rfl, d2⟩
  try go_wp2_with fail
  refine hK.out _ _ (bnext hHeld d2 (Nat.le_refl _)) (fun hHeld => ?_)
  clear hK K
  try simp only [Act.put, List.setIfInBounds_toArray, List.set_cons_zero, List.set_cons_succ]
  refine wpAnyH_ready (rs := [5]) (by kernel_rfl) (by simp) ?_
  refine (AllReadyH.cons (o := { dst := some 11, op := Op.call { callee := Callee.value (Operand.func 36), args := #[Operand.tmp 9, Operand.tmp 10, Operand.const (Value.int IntKind.i64 4)], argTypes := #[23, 36, 3] }, type := 3, pos := _, after := #[{ on := 3, ground := Ground.data }, { on := 4, ground := Ground.data }, { on := 2, ground := Ground.chain }], guard := none }) rfl (fun K hK => ?_) AllReadyH.nil)
  go_simp
  refine (rfreeK_any p s 4 _).mono ?_
  rintro e v5 ⟨rfl, d5⟩
  try go_wp2_with fail
  refine hK.out _ _ (bnext hHeld d5 (Nat.le_refl _)) (fun hHeld => ?_)
  clear hK K
  try simp only [Act.put, List.setIfInBounds_toArray, List.set_cons_zero, List.set_cons_succ]
  refine wpAnyH_take (i := 6) (oi := { dst := some 4, op := Op.assign (Operand.tmp 8), type := 3, pos := _, after := #[{ on := 2, ground := Ground.data }, { on := 5, ground := Ground.chain }, { on := 0, ground := Ground.phase }, { on := 1, ground := Ground.phase }, { on := 2, ground := Ground.phase }, { on := 3, ground := Ground.textOnly Departure.lateStores }, { on := 4, ground := Ground.textOnly Departure.lateStores }, { on := 5, ground := Ground.textOnly Departure.lateStoresUnsure }], guard := none }) (v := .int .i64 (mF p s 0)) rfl (by kernel_rfl) (by kernel_rfl) (by kernel_rfl) (fun _ _ _ h => h) (Or.inl ⟨by rfl, ?_⟩) hHeld ?_
  · intro u hu
    go_simp
  try simp only [Act.put, List.setIfInBounds_toArray, List.set_cons_zero, List.set_cons_succ]
  refine wpAnyH_take (i := 7) (oi := { dst := some 5, op := Op.assign (Operand.tmp 11), type := 3, pos := _, after := #[{ on := 5, ground := Ground.data }, { on := 6, ground := Ground.chain }, { on := 0, ground := Ground.phase }, { on := 1, ground := Ground.phase }, { on := 2, ground := Ground.phase }, { on := 3, ground := Ground.phase }, { on := 4, ground := Ground.phase }, { on := 5, ground := Ground.phase }, { on := 6, ground := Ground.phase }], guard := none }) (v := .int .i64 (mF p s 4)) rfl (by kernel_rfl) (by kernel_rfl) (by kernel_rfl) (fun _ _ _ h => h) (Or.inl ⟨by rfl, ?_⟩) hHeld ?_
  · intro u hu
    go_simp
  try simp only [Act.put, List.setIfInBounds_toArray, List.set_cons_zero, List.set_cons_succ]
  refine wpAnyH_done (by kernel_rfl) ?_ _
  go_wp2_with fail
  go_returns
  exact ⟨rfl, bnext B hHeld (Nat.le_refl _)⟩
set_option maxRecDepth 100000 in
set_option maxHeartbeats 4000000 in
theorem rmfirst_any (p : Ld) (s : Gm) (k f : Int) (w : World) (hf : (Lit.int .i64 f).wf = true) :
    Calls Try.prog 22 #[.agg p.cs.toArray, gv s, .int .i64 k, .int .i64 f] w fun e w' => e = .returned (.int .i64 (m1 p s k f)) ∧ Below w.heap.size w w' := by
  have hp := p.len
  have n0 := mN_128 s k
  have hfb := bounds_i64 hf
  obtain ⟨g, hg, hg'⟩ : ∃ g : Nat, (if f < 0 then 0 else f) = (g : Int) ∧ f.toNat = g := ⟨f.toNat, by split <;> omega, rfl⟩
  have hg2 : (g : Int) ≤ 9223372036854775807 := by omega
  have H1 : Hid _ := rmany_any s k
  obtain ⟨N, hN⟩ : ∃ N, mN s k = N := ⟨_, rfl⟩
  have hF : Hid (m1 p s k f = fz (ints (mS p k)) (N - g) g) := by show _ = _; unfold m1; rw [hN, hg']
  have hT : Hid (∀ i : Nat, i < N → mT p k (i : Int) = bitB (ints (mS p k)) i) := fun i hi => mT_at (s := s) (by omega)
  rw [hN] at H1 n0
  clear hN hg'
  generalize ints (mS p k) = l at *
  go_enter Try.func22, Try.ntmps22
  go_wp2_with (first
    | (refine at_box 23 54 arrL (by rfl) _ (by rfl) p.l (by rfl) hp ?_; intro g0 w0 a0 z0 r0 b0)
    | (refine at_boxG (by rfl) _ (by rfl) s (by rfl) ?_; intro g1 W a1 z1 rg b1; have rp := r0.later b1; have B := bnext b0 b1 (Nat.le_refl _); clear r0 b0 b1 a0 a1 z0 z1))
  go_loopw [9] (fun iv wr => ∃ i : Nat, iv = .int .i64 i ∧ (i : Int) ≤ 9223372036854775807 ∧ fz l (N - g) g = fz l (N - i) i ∧ Below W.heap.size W wr) (fun iv _ => N - (intOf iv).toNat)
  case atStart => exact ⟨g, rfl, hg2, rfl, Below.refl _ _⟩
  case round =>
    obtain ⟨i, rfl, hi, HF, hbr⟩ := hrel
    have hH : Hid (fz l (N - g) g = fz l (N - i) i) := HF
    clear HF
    have rp' := rp.later hbr
    have rg' := rg.later hbr
    by_cases hlt : i < N
    · have hti := hT.out i hlt
      have hlt' : (i : Int) < N := by omega
      have hst : Hid (fz l (N - i) i = if bitB l i then fz l (N - (i + 1)) (i + 1) else (i : Int)) := by
        show _ = _
        rw [show N - i = (N - (i + 1)) + 1 by omega]; rfl
      have H2 : Hid _ := fun w => rtaken_any p k (i : Int) w (wf_i64 (by omega) (by omega))
      generalize mE k (i : Int) = e0 at *
      by_cases hbit : bitB l i = true
      · rw [hbit] at hti
        go_wp2_with (first
          | (refine at_getG (by rfl) _ (by rfl) g1 (by rfl) s rg' ?_)
          | (go_at_call 39; refine (H1.out _).mono ?_; rintro e w2 ⟨rfl, b2⟩; have rp2 := rp'.later b2)
          | (refine at_getL (by rfl) _ (by rfl) g0 (by rfl) p rp2 ?_)
          | (go_at_call 11; refine (H2.out _).mono ?_; rintro e w3 ⟨rfl, b3⟩))
        go_roundw
        case rel => exact ⟨i + 1, by go_num, by omega, by rw [hH.out, hst.out, if_pos hbit], bnext (bnext hbr b2 (Nat.le_refl _)) b3 (Nat.le_refl _)⟩
        case measure => simp [intOf]; omega
      · have hb0 : bitB l i = false := by simpa using hbit
        rw [hb0] at hti
        go_wp2_with (first
          | (refine at_getG (by rfl) _ (by rfl) g1 (by rfl) s rg' ?_)
          | (go_at_call 39; refine (H1.out _).mono ?_; rintro e w2 ⟨rfl, b2⟩; have rp2 := rp'.later b2)
          | (refine at_getL (by rfl) _ (by rfl) g0 (by rfl) p rp2 ?_)
          | (go_at_call 11; refine (H2.out _).mono ?_; rintro e w3 ⟨rfl, b3⟩))
        go_returns
        exact ⟨ret_int (by rw [hF.out, hH.out, hst.out, if_neg hbit]), bnext (bnext (bnext B hbr (Nat.le_refl _)) b2 (Nat.le_refl _)) b3 (Nat.le_refl _)⟩
    · have hlt' : ¬ (i : Int) < N := by omega
      have hst : Hid (fz l (N - i) i = -1) := by show _ = _; rw [show N - i = 0 by omega]; rfl
      go_wp2_with (first
        | (refine at_getG (by rfl) _ (by rfl) g1 (by rfl) s rg' ?_)
        | (go_at_call 39; refine (H1.out _).mono ?_; rintro e w2 ⟨rfl, b2⟩))
      go_returns
      exact ⟨ret_int (by rw [hF.out, hH.out, hst.out]), bnext (bnext B hbr (Nat.le_refl _)) b2 (Nat.le_refl _)⟩
end Go.Proofs.Ythanenbjfcndbaa
