/-
  How many places a group has, and how many of them are taken, by layer 9 and by the document: no statement is proved here.
-/
import Derived.Test.YthanenbjfcndbaaMapB
import Derived.Test.YthanenbjfcndbaaGeoE
import Derived.Test.YthanenbjfcndbaaGeoR
namespace Go.Proofs.Ythanenbjfcndbaa
open Go.ChangeShapes Go.WideShapes Go.ChangeAt Go.RowKit
set_option linter.unusedVariables false

/-- How many places, by shape and kind. -/
theorem mN_ways (s : Gm) (k : Int) : (s.err = 2 ∧ mN s k = 0) ∨ (s.err = 0 ∧ s.ok ∧ k = 0 ∧ (mN s k : Int) = s.d) ∨ (s.err = 0 ∧ s.ok ∧ ¬ k = 0 ∧ k = 4 ∧ (mN s k : Int) = 3 * s.i) ∨ (s.err = 0 ∧ s.ok ∧ ¬ k = 0 ∧ ¬ k = 4 ∧ mN s k = 0) := by
  unfold mN Gm.err
  by_cases h : s.ok
  · right
    rw [if_pos h, if_pos h]
    have h' := h
    unfold Gm.ok at h'
    by_cases h0 : k = 0
    · exact .inl ⟨rfl, h, h0, by rw [if_pos h0]; omega⟩
    · by_cases h4 : k = 4
      · exact .inr (.inl ⟨rfl, h, h0, h4, by rw [if_neg h0, if_pos h4]; omega⟩)
      · exact .inr (.inr ⟨rfl, h, h0, h4, by rw [if_neg h0, if_neg h4]⟩)
  · left
    rw [if_neg h, if_neg h]; exact ⟨rfl, rfl⟩
theorem inodes_div {s : Gm} (h : s.ok) : s.inodes.tdiv s.g = 3 * s.i ∧ 0 ≤ s.inodes ∧ s.inodes ≤ 192 := by
  have hB := Gm.inoB h
  unfold Gm.inodes
  rw [if_pos h]
  unfold Gm.ok at h
  refine ⟨?_, hB.1, hB.2⟩
  rw [Int.mul_tdiv_cancel_left _ (by omega)]; omega
set_option maxRecDepth 100000 in
set_option maxHeartbeats 2000000 in
theorem places_any (s : Gm) (k : Int) (w : World) :
    Calls Try.prog 35 #[gv s, .int .i64 k] w fun e w' => e = .returned (.int .i64 (mN s k)) ∧ Below w.heap.size w w' := by
  have hC := check_any s
  rcases mN_ways s k with ⟨he, hn⟩ | ⟨he, ho, h0, hn⟩ | ⟨he, ho, h0, h4, hn⟩ | ⟨he, ho, h0, h4, hn⟩
  · rw [he] at hC
    have hn' : Hid (mN s k = 0) := hn
    clear hn he
    go_enter Try.func35, Try.ntmps35
    go_wp2_with (first
      | (refine at_boxG (by rfl) _ (by rfl) s (by rfl) ?_; intro g0 w0 a0 z0 r0 b0)
      | (refine at_getG (by rfl) _ (by rfl) g0 (by rfl) s r0 ?_)
      | (go_at_call 40; refine (hC _).mono ?_; rintro e w1 ⟨rfl, b1⟩))
    go_returns
    exact ⟨ret_int (by rw [hn'.out]; rfl), bnext b0 b1 (Nat.le_refl _)⟩
  · rw [he] at hC
    have hn' : Hid ((mN s k : Int) = s.d) := hn
    clear hn he
    subst h0
    go_enter Try.func35, Try.ntmps35
    go_wp2_with (first
      | (refine at_boxG (by rfl) _ (by rfl) s (by rfl) ?_; intro g0 w0 a0 z0 r0 b0)
      | (refine at_getG (by rfl) _ (by rfl) g0 (by rfl) s r0 ?_)
      | (go_at_call 40; refine (hC _).mono ?_; rintro e w1 ⟨rfl, b1⟩; have c2 := (r0.later b1).c2))
    go_returns
    exact ⟨ret_int (by rw [hn'.out]), bnext b0 b1 (Nat.le_refl _)⟩
  · rw [he] at hC
    have hn' : Hid ((mN s k : Int) = 3 * s.i) := hn
    obtain ⟨q1, q2, q3⟩ := inodes_div ho
    have hI := inodes_any s
    generalize s.inodes = N at *
    have hg : 1 ≤ s.g ∧ s.g ≤ 8 ∧ 1 ≤ s.i ∧ s.i ≤ 8 := by unfold Gm.ok at ho; omega
    obtain ⟨g1, g2, g3, g4⟩ := hg
    have hgz : ¬ s.g = 0 := by omega
    clear hn he ho h0
    subst h4
    go_enter Try.func35, Try.ntmps35
    go_wp2_with (first
      | (refine at_boxG (by rfl) _ (by rfl) s (by rfl) ?_; intro g0 w0 a0 z0 r0 b0)
      | (refine at_getG (by rfl) _ (by rfl) g0 (by rfl) s r0 ?_)
      | (go_at_call 40; refine (hC _).mono ?_; rintro e W ⟨rfl, b1⟩; have r1 := r0.later b1))
    refine wp_region_held_drew (S := fun u => Below W.heap.size W u) (by kernel_rfl) (Below.refl _ _).drew (fun hHeld => ?_)
    refine wpAnyH_take (i := 0) (oi := { dst := some 15, op := Op.load 36 (Operand.tmp 2), type := 36, pos := _, after := #[], guard := none }) (v := gv s) rfl (by kernel_rfl) (by kernel_rfl) (by kernel_rfl) (fun _ _ _ h => h)
      (yields_G (by rfl) (.tmp 2) rfl g0 (by rfl) s (fun u hu => r1.later hu)) hHeld ?_
    try simp only [Act.put, List.setIfInBounds_toArray, List.set_cons_zero, List.set_cons_succ]
    refine wpAnyH_take (i := 2) (oi := { dst := some 17, op := Op.fieldAddr 36 (Operand.tmp 2) 0, type := 0, pos := _, after := #[], guard := none }) (v := .pointer (some ⟨g0, 0, none⟩)) rfl (by kernel_rfl) (by kernel_rfl) (by kernel_rfl) (fun _ _ _ h => h) (Or.inl ⟨by rfl, ?_⟩) hHeld ?_
    · intro u hu
      go_simp
    try simp only [Act.put, List.setIfInBounds_toArray, List.set_cons_zero, List.set_cons_succ]
    refine wpAnyH_take (i := 3) (oi := { dst := some 18, op := Op.load 3 (Operand.tmp 17), type := 3, pos := _, after := #[{ on := 2, ground := Ground.data }], guard := none }) (v := .int .i64 s.g) rfl (by kernel_rfl) (by kernel_rfl) (by kernel_rfl) (fun _ _ _ h => h) (Or.inl ⟨by rfl, ?_⟩) hHeld ?_
    · intro u hu
      (have y := (r1.later hu).c0; go_simp)
    try simp only [Act.put, List.setIfInBounds_toArray, List.set_cons_zero, List.set_cons_succ]
    refine wpAnyH_ready (rs := [1]) (by kernel_rfl) (by simp) ?_
    refine (AllReadyH.cons (o := { dst := some 16, op := Op.call { callee := Callee.value (Operand.func 48), args := #[Operand.tmp 15], argTypes := #[36] }, type := 3, pos := _, after := #[{ on := 0, ground := Ground.data }], guard := none }) rfl (fun K hK => ?_) AllReadyH.nil)
    go_simp
    refine (hI _).mono ?_
    rintro e v1 ⟨rfl, c1⟩
    try go_wp2_with fail
    refine hK.out _ _ (bnext hHeld c1 (Nat.le_refl _)) (fun hHeld => ?_)
    clear hK K
    try simp only [Act.put, List.setIfInBounds_toArray, List.set_cons_zero, List.set_cons_succ]
    refine wpAnyH_take (i := 4) (oi := { dst := some 19, op := Op.binOp BinOp.quo 3 (Operand.tmp 16) (Operand.tmp 18) 3, type := 3, pos := _, after := #[{ on := 1, ground := Ground.data }, { on := 3, ground := Ground.data }], guard := none }) (v := .int .i64 (3 * s.i)) rfl (by kernel_rfl) (by kernel_rfl) (by kernel_rfl) (fun _ _ _ h => h) (Or.inl ⟨by rfl, ?_⟩) hHeld ?_
    · intro u hu
      (go_simp; rw [IntKind.wrap_i64]; omega)
    try simp only [Act.put, List.setIfInBounds_toArray, List.set_cons_zero, List.set_cons_succ]
    refine wpAnyH_take (i := 5) (oi := { dst := some 4, op := Op.assign (Operand.tmp 19), type := 3, pos := _, after := #[{ on := 4, ground := Ground.data }, { on := 1, ground := Ground.chain }, { on := 0, ground := Ground.phase }, { on := 1, ground := Ground.phase }, { on := 2, ground := Ground.phase }, { on := 3, ground := Ground.phase }, { on := 4, ground := Ground.phase }], guard := none }) (v := .int .i64 (3 * s.i)) rfl (by kernel_rfl) (by kernel_rfl) (by kernel_rfl) (fun _ _ _ h => h) (Or.inl ⟨by rfl, ?_⟩) hHeld ?_
    · intro u hu
      go_simp
    try simp only [Act.put, List.setIfInBounds_toArray, List.set_cons_zero, List.set_cons_succ]
    refine wpAnyH_done (by kernel_rfl) ?_ _
    go_wp2_with fail
    go_returns
    exact ⟨ret_int (by rw [hn'.out]), bnext (bnext b0 b1 (Nat.le_refl _)) hHeld (Nat.le_refl _)⟩
  · rw [he] at hC
    have hn' : Hid (mN s k = 0) := hn
    clear hn he
    go_enter Try.func35, Try.ntmps35
    go_wp2_with (first
      | (refine at_boxG (by rfl) _ (by rfl) s (by rfl) ?_; intro g0 w0 a0 z0 r0 b0)
      | (refine at_getG (by rfl) _ (by rfl) g0 (by rfl) s r0 ?_)
      | (go_at_call 40; refine (hC _).mono ?_; rintro e w1 ⟨rfl, b1⟩))
    go_returns
    exact ⟨ret_int (by rw [hn'.out]; rfl), bnext b0 b1 (Nat.le_refl _)⟩
set_option maxRecDepth 100000 in
set_option maxHeartbeats 2000000 in
theorem rmany_any (s : Gm) (k : Int) (w : World) :
    Calls Try.prog 39 #[gv s, .int .i64 k] w fun e w' => e = .returned (.int .i64 (mN s k)) ∧ Below w.heap.size w w' := by
  have hC := rcheck_any s
  rcases mN_ways s k with ⟨he, hn⟩ | ⟨he, ho, h0, hn⟩ | ⟨he, ho, h0, h4, hn⟩ | ⟨he, ho, h0, h4, hn⟩
  all_goals
    rw [he] at hC
    have hn' : Hid _ := hn
    clear hn he
    try subst h0
    try subst h4
    try (have hg : 1 ≤ s.i ∧ s.i ≤ 8 := by unfold Gm.ok at ho; omega)
    try obtain ⟨g3, g4⟩ := hg
    try clear ho
    go_enter Try.func39, Try.ntmps39
    go_wp2_with (first
      | (refine at_boxG (by rfl) _ (by rfl) s (by rfl) ?_; intro g0 w0 a0 z0 r0 b0)
      | (refine at_getG (by rfl) _ (by rfl) g0 (by rfl) s r0 ?_)
      | (go_at_call 42; refine (hC _).mono ?_; rintro e w1 ⟨rfl, b1⟩; have c1 := (r0.later b1).c1; have c2 := (r0.later b1).c2))
    go_returns
    exact ⟨ret_int (by first | (rw [hn'.out]; rfl) | rw [hn'.out]), bnext b0 b1 (Nat.le_refl _)⟩
theorem countS_any (p : Ld) (s : Gm) (k : Int) (x : Option Addr) (c : Nat) (w : World) (hb : Bs w x (sZ k) c (ints (mS p k))) :
    Calls Try.prog 41 #[.slice x (sZ k) c, .int .i64 (mN s k : Nat)] w fun e w' => e = .returned (.int .i64 (mC p s k)) ∧ Below w.heap.size w w' := by
  have := s_le k
  have := mN_128 s k
  refine (count_any x _ c _ (mN s k : Nat) w hb (by omega) (by omega) (by omega)).mono ?_
  rintro e w' ⟨rfl, q, rfl⟩
  rw [bnd_mN]; exact ⟨rfl, below_drewN _ _⟩
theorem firstS_any (p : Ld) (s : Gm) (k f : Int) (x : Option Addr) (c : Nat) (w : World) (hb : Bs w x (sZ k) c (ints (mS p k))) (hf : (Lit.int .i64 f).wf = true) :
    Calls Try.prog 37 #[.slice x (sZ k) c, .int .i64 f, .int .i64 (mN s k : Nat)] w fun e w' => e = .returned (.int .i64 (m1 p s k f)) ∧ Below w.heap.size w w' := by
  have := s_le k
  have := mN_128 s k
  have := bounds_i64 hf
  refine (first_any x _ c _ f (mN s k : Nat) w hb (by omega) (by omega) (by omega) (by omega) (by omega)).mono ?_
  rintro e w' ⟨rfl, q, rfl⟩
  rw [bnd_mN]; exact ⟨rfl, below_drewN _ _⟩
end Go.Proofs.Ythanenbjfcndbaa
