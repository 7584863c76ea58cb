/-
  What To, Block and Blocks of layer 11, and the document's, return, for every input: no statement is proved here.
-/
import Derived.Test.YtaahljjmofjdmaaInoA
import Derived.Test.YtaahljjmofjdmaaPtrM
namespace Go.Proofs.Ytaahljjmofjdmaa
open Go.ChangeShapes Go.WideShapes Go.ChangeAt Go.RowKit
set_option linter.unusedVariables false

theorem srtW : Srt 36 3 Wy.zero.cs := ⟨⟨_, Try.underlying36, rfl⟩, by kernel_rfl, fun w => by kernel_rfl, rfl, Wy.cs_one _⟩
theorem srtV : Srt 39 3 Wy.zero.cs := ⟨⟨_, Try.underlying39, rfl⟩, by kernel_rfl, fun w => by kernel_rfl, rfl, Wy.cs_one _⟩
theorem blocks_any (n : Int) (w : World) (h1 : n ≤ 9223372036854775807) : Calls Try.prog 19 #[.int .i64 n] w fun e w' => e = .returned (.int .i64 (bkC n)) ∧ w = w' := by
  unfold bkC
  by_cases h : n ≤ 0
  · rw [if_pos h]
    go_enter Try.func19, Try.ntmps19
    go_wp2
    go_returns
    exact ⟨rfl, rfl⟩
  · rw [if_neg h]
    have h0 : 0 < n := by omega
    have e1 : IntKind.i64.wrap (n - 1) = n - 1 := by rw [IntKind.wrap_i64]; omega
    have e2 : IntKind.i64.wrap ((n - 1).tdiv 64) = (n - 1) / 64 := by rw [Int.tdiv_eq_ediv_of_nonneg (by omega), IntKind.wrap_i64]; omega
    have e3 : IntKind.i64.wrap ((n - 1) / 64 + 1) = (n - 1) / 64 + 1 := by rw [IntKind.wrap_i64]; omega
    clear h
    go_enter Try.func19, Try.ntmps19
    go_wp2
    go_returns
    exact ⟨rfl, rfl⟩
theorem rblocks_any (n : Int) (w : World) (h1 : n ≤ 9223372036854775807) : Calls Try.prog 20 #[.int .i64 n] w fun e w' => e = .returned (.int .i64 (bkC n)) ∧ w = w' := by
  unfold bkC
  by_cases h : n ≤ 0
  · rw [if_pos h]
    go_enter Try.func20, Try.ntmps20
    go_wp2
    go_returns
    exact ⟨rfl, rfl⟩
  · rw [if_neg h]
    have h0 : 0 < n := by omega
    have e1 : IntKind.i64.wrap (n - 1) = n - 1 := by rw [IntKind.wrap_i64]; omega
    have e2 : IntKind.i64.wrap ((n - 1).tdiv 64) = (n - 1) / 64 := by rw [Int.tdiv_eq_ediv_of_nonneg (by omega), IntKind.wrap_i64]; omega
    have e3 : IntKind.i64.wrap ((n - 1) / 64 + 1) = (n - 1) / 64 + 1 := by rw [IntKind.wrap_i64]; omega
    clear h
    go_enter Try.func20, Try.ntmps20
    go_wp2
    go_returns
    exact ⟨rfl, rfl⟩
set_option maxRecDepth 100000 in
theorem to_lo (k : Int) (w : World) (h : k < 0) : Calls Try.prog 15 #[.int .i64 k] w fun e w' => e = .returned (.tuple #[.agg Wy.zero.cs.toArray, .int .i64 31]) ∧ Below w.heap.size w w' := by
  go_enter Try.func15, Try.ntmps15
  go_wp2_with (first
    | (refine at_newC 36 3 Wy.zero.cs srtW (by rfl) (by rfl) ?_; intro g1 w1 a1 z1 r1 b1)
    | (refine at_putC 36 3 Wy.zero.cs srtW (by rfl) _ _ (by rfl) g1 (by rfl) Wy.zero.cs (by rfl) rfl (Wy.cs_one _) _ r1 rfl ?_; intro w2 r2 s2))
  have S2 : Stp (fun y => w.heap.size ≤ y) w w2 := (Stp.of_below b1 _).next s2 (fun y hy => .inl (by subst hy; exact a1))
  exact bodyPost_ret (retCt srtW Try.results15 rfl rfl r2 rfl) rfl ⟨rfl, S2.below (Nat.le_refl _) (fun _ h => h)⟩
set_option maxRecDepth 100000 in
theorem to_hi (k : Int) (w : World) (h0 : 0 ≤ k) (h : 760 ≤ k) : Calls Try.prog 15 #[.int .i64 k] w fun e w' => e = .returned (.tuple #[.agg Wy.zero.cs.toArray, .int .i64 31]) ∧ Below w.heap.size w w' := by
  go_enter Try.func15, Try.ntmps15
  go_wp2_with (first
    | (refine at_newC 36 3 Wy.zero.cs srtW (by rfl) (by rfl) ?_; intro g1 w1 a1 z1 r1 b1)
    | (refine at_putC 36 3 Wy.zero.cs srtW (by rfl) _ _ (by rfl) g1 (by rfl) Wy.zero.cs (by rfl) rfl (Wy.cs_one _) _ r1 rfl ?_; intro w2 r2 s2))
  have S2 : Stp (fun y => w.heap.size ≤ y) w w2 := (Stp.of_below b1 _).next s2 (fun y hy => .inl (by subst hy; exact a1))
  exact bodyPost_ret (retCt srtW Try.results15 rfl rfl r2 rfl) rfl ⟨rfl, S2.below (Nat.le_refl _) (fun _ h => h)⟩
set_option maxRecDepth 100000 in
theorem to_d (k : Int) (w : World) (h0 : 0 ≤ k) (h : k < 4) : Calls Try.prog 15 #[.int .i64 k] w fun e w' => e = .returned (.tuple #[.agg (Wy.mk 0 k 0).cs.toArray, .int .i64 0]) ∧ Below w.heap.size w w' := by
  have h7 : k < 760 := by omega
  go_enter Try.func15, Try.ntmps15
  go_wp2_with (first
    | (refine at_newC 36 3 Wy.zero.cs srtW (by rfl) (by rfl) ?_; intro g1 w1 a1 z1 r1 b1)
    | (refine at_putC 36 3 Wy.zero.cs srtW (by rfl) _ _ (by rfl) g1 (by rfl) (Wy.mk 0 k 0).cs (by rfl) rfl (Wy.cs_one _) _ r1 rfl ?_; intro w2 r2 s2))
  have S2 : Stp (fun y => w.heap.size ≤ y) w w2 := (Stp.of_below b1 _).next s2 (fun y hy => .inl (by subst hy; exact a1))
  exact bodyPost_ret (retCt srtW Try.results15 rfl rfl r2 rfl) rfl ⟨rfl, S2.below (Nat.le_refl _) (fun _ h => h)⟩
set_option maxRecDepth 100000 in
theorem to_s (k : Int) (w : World) (h4 : 4 ≤ k) (h : k < 31) : Calls Try.prog 15 #[.int .i64 k] w fun e w' => e = .returned (.tuple #[.agg (Wy.mk 1 (k - 4) 0).cs.toArray, .int .i64 0]) ∧ Below w.heap.size w w' := by
  have h7 : k < 760 := by omega
  have h0 : 0 ≤ k := by omega
  have e1 : IntKind.i64.wrap (k - 4) = k - 4 := i64_small (by omega) (by omega)
  go_enter Try.func15, Try.ntmps15
  go_wp2_with (first
    | (refine at_newC 36 3 Wy.zero.cs srtW (by rfl) (by rfl) ?_; intro g1 w1 a1 z1 r1 b1)
    | (refine at_putC 36 3 Wy.zero.cs srtW (by rfl) _ _ (by rfl) g1 (by rfl) (Wy.mk 1 (k - 4) 0).cs (by rfl) rfl (Wy.cs_one _) _ r1 rfl ?_; intro w2 r2 s2))
  have S2 : Stp (fun y => w.heap.size ≤ y) w w2 := (Stp.of_below b1 _).next s2 (fun y hy => .inl (by subst hy; exact a1))
  exact bodyPost_ret (retCt srtW Try.results15 rfl rfl r2 rfl) rfl ⟨rfl, S2.below (Nat.le_refl _) (fun _ h => h)⟩
set_option maxRecDepth 100000 in
theorem to_t (k : Int) (w : World) (h31 : 31 ≤ k) (h7 : k < 760) : Calls Try.prog 15 #[.int .i64 k] w fun e w' => e = .returned (.tuple #[.agg (Wy.mk 2 ((k - 31) / 27) ((k - 31) % 27)).cs.toArray, .int .i64 0]) ∧ Below w.heap.size w w' := by
  have h0 : 0 ≤ k := by omega
  have h4 : 4 ≤ k := by omega
  have e1 : IntKind.i64.wrap (k - 31) = k - 31 := i64_small (by omega) (by omega)
  have e2 : IntKind.i64.wrap ((k - 31).tdiv 27) = (k - 31) / 27 := by rw [Int.tdiv_eq_ediv_of_nonneg (by omega)]; exact i64_small (by omega) (by omega)
  have e3 : IntKind.i64.wrap ((k - 31).tmod 27) = (k - 31) % 27 := by rw [Int.tmod_eq_emod_of_nonneg (by omega)]; exact i64_small (by omega) (by omega)
  go_enter Try.func15, Try.ntmps15
  go_wp2_with (first
    | (refine at_newC 36 3 Wy.zero.cs srtW (by rfl) (by rfl) ?_; intro g1 w1 a1 z1 r1 b1)
    | (refine at_putC 36 3 Wy.zero.cs srtW (by rfl) _ _ (by rfl) g1 (by rfl) (Wy.mk 2 ((k - 31) / 27) ((k - 31) % 27)).cs (by rfl) rfl (Wy.cs_one _) _ r1 rfl ?_; intro w2 r2 s2))
  have S2 : Stp (fun y => w.heap.size ≤ y) w w2 := (Stp.of_below b1 _).next s2 (fun y hy => .inl (by subst hy; exact a1))
  exact bodyPost_ret (retCt srtW Try.results15 rfl rfl r2 rfl) rfl ⟨rfl, S2.below (Nat.le_refl _) (fun _ h => h)⟩
theorem to_any (k : Int) (w : World) : Calls Try.prog 15 #[.int .i64 k] w fun e w' => e = .returned (.tuple #[.agg (wyK k).cs.toArray, .int .i64 (kE k)]) ∧ Below w.heap.size w w' := by
  unfold wyK kE
  by_cases h : isBk k
  · rw [if_pos h, if_pos h]
    obtain ⟨h0, h7⟩ := h
    by_cases h4 : k < 4
    · rw [if_pos h4]; exact to_d k w h0 h4
    · rw [if_neg h4]
      by_cases h31 : k < 31
      · rw [if_pos h31]; exact to_s k w (by omega) h31
      · rw [if_neg h31]; exact to_t k w (by omega) h7
  · rw [if_neg h, if_neg h]
    by_cases h0 : k < 0
    · exact to_lo k w h0
    · exact to_hi k w (by omega) (by omega)
set_option maxRecDepth 100000 in
theorem rto_lo (k : Int) (w : World) (h : k < 0) : Calls Try.prog 16 #[.int .i64 k] w fun e w' => e = .returned (.tuple #[.agg Wy.zero.cs.toArray, .int .i64 31]) ∧ Below w.heap.size w w' := by
  go_enter Try.func16, Try.ntmps16
  go_wp2_with (first
    | (refine at_newC 39 3 Wy.zero.cs srtV (by rfl) (by rfl) ?_; intro g1 w1 a1 z1 r1 b1)
    | (refine at_putC 39 3 Wy.zero.cs srtV (by rfl) _ _ (by rfl) g1 (by rfl) Wy.zero.cs (by rfl) rfl (Wy.cs_one _) _ r1 rfl ?_; intro w2 r2 s2))
  have S2 : Stp (fun y => w.heap.size ≤ y) w w2 := (Stp.of_below b1 _).next s2 (fun y hy => .inl (by subst hy; exact a1))
  exact bodyPost_ret (retCt srtV Try.results16 rfl rfl r2 rfl) rfl ⟨rfl, S2.below (Nat.le_refl _) (fun _ h => h)⟩
set_option maxRecDepth 100000 in
theorem rto_hi (k : Int) (w : World) (h0 : 0 ≤ k) (h : 760 ≤ k) : Calls Try.prog 16 #[.int .i64 k] w fun e w' => e = .returned (.tuple #[.agg Wy.zero.cs.toArray, .int .i64 31]) ∧ Below w.heap.size w w' := by
  go_enter Try.func16, Try.ntmps16
  go_wp2_with (first
    | (refine at_newC 39 3 Wy.zero.cs srtV (by rfl) (by rfl) ?_; intro g1 w1 a1 z1 r1 b1)
    | (refine at_putC 39 3 Wy.zero.cs srtV (by rfl) _ _ (by rfl) g1 (by rfl) Wy.zero.cs (by rfl) rfl (Wy.cs_one _) _ r1 rfl ?_; intro w2 r2 s2))
  have S2 : Stp (fun y => w.heap.size ≤ y) w w2 := (Stp.of_below b1 _).next s2 (fun y hy => .inl (by subst hy; exact a1))
  exact bodyPost_ret (retCt srtV Try.results16 rfl rfl r2 rfl) rfl ⟨rfl, S2.below (Nat.le_refl _) (fun _ h => h)⟩
set_option maxRecDepth 100000 in
theorem rto_d (k : Int) (w : World) (h0 : 0 ≤ k) (h : k < 4) : Calls Try.prog 16 #[.int .i64 k] w fun e w' => e = .returned (.tuple #[.agg (Wy.mk 0 k 0).cs.toArray, .int .i64 0]) ∧ Below w.heap.size w w' := by
  have h7 : k < 760 := by omega
  go_enter Try.func16, Try.ntmps16
  go_wp2_with (first
    | (refine at_newC 39 3 Wy.zero.cs srtV (by rfl) (by rfl) ?_; intro g1 w1 a1 z1 r1 b1)
    | (refine at_putC 39 3 Wy.zero.cs srtV (by rfl) _ _ (by rfl) g1 (by rfl) (Wy.mk 0 k 0).cs (by rfl) rfl (Wy.cs_one _) _ r1 rfl ?_; intro w2 r2 s2))
  have S2 : Stp (fun y => w.heap.size ≤ y) w w2 := (Stp.of_below b1 _).next s2 (fun y hy => .inl (by subst hy; exact a1))
  exact bodyPost_ret (retCt srtV Try.results16 rfl rfl r2 rfl) rfl ⟨rfl, S2.below (Nat.le_refl _) (fun _ h => h)⟩
set_option maxRecDepth 100000 in
theorem rto_s (k : Int) (w : World) (h4 : 4 ≤ k) (h : k < 31) : Calls Try.prog 16 #[.int .i64 k] w fun e w' => e = .returned (.tuple #[.agg (Wy.mk 1 (k - 4) 0).cs.toArray, .int .i64 0]) ∧ Below w.heap.size w w' := by
  have h7 : k < 760 := by omega
  have h0 : 0 ≤ k := by omega
  have e1 : IntKind.i64.wrap (k - 4) = k - 4 := i64_small (by omega) (by omega)
  go_enter Try.func16, Try.ntmps16
  go_wp2_with (first
    | (refine at_newC 39 3 Wy.zero.cs srtV (by rfl) (by rfl) ?_; intro g1 w1 a1 z1 r1 b1)
    | (refine at_putC 39 3 Wy.zero.cs srtV (by rfl) _ _ (by rfl) g1 (by rfl) (Wy.mk 1 (k - 4) 0).cs (by rfl) rfl (Wy.cs_one _) _ r1 rfl ?_; intro w2 r2 s2))
  have S2 : Stp (fun y => w.heap.size ≤ y) w w2 := (Stp.of_below b1 _).next s2 (fun y hy => .inl (by subst hy; exact a1))
  exact bodyPost_ret (retCt srtV Try.results16 rfl rfl r2 rfl) rfl ⟨rfl, S2.below (Nat.le_refl _) (fun _ h => h)⟩
set_option maxRecDepth 100000 in
theorem rto_t (k : Int) (w : World) (h31 : 31 ≤ k) (h7 : k < 760) : Calls Try.prog 16 #[.int .i64 k] w fun e w' => e = .returned (.tuple #[.agg (Wy.mk 2 ((k - 31) / 27) ((k - 31) % 27)).cs.toArray, .int .i64 0]) ∧ Below w.heap.size w w' := by
  have h0 : 0 ≤ k := by omega
  have h4 : 4 ≤ k := by omega
  have e1 : IntKind.i64.wrap (k - 31) = k - 31 := i64_small (by omega) (by omega)
  have e2 : IntKind.i64.wrap ((k - 31).tdiv 27) = (k - 31) / 27 := by rw [Int.tdiv_eq_ediv_of_nonneg (by omega)]; exact i64_small (by omega) (by omega)
  have e3 : IntKind.i64.wrap ((k - 31).tmod 27) = (k - 31) % 27 := by rw [Int.tmod_eq_emod_of_nonneg (by omega)]; exact i64_small (by omega) (by omega)
  go_enter Try.func16, Try.ntmps16
  go_wp2_with (first
    | (refine at_newC 39 3 Wy.zero.cs srtV (by rfl) (by rfl) ?_; intro g1 w1 a1 z1 r1 b1)
    | (refine at_putC 39 3 Wy.zero.cs srtV (by rfl) _ _ (by rfl) g1 (by rfl) (Wy.mk 2 ((k - 31) / 27) ((k - 31) % 27)).cs (by rfl) rfl (Wy.cs_one _) _ r1 rfl ?_; intro w2 r2 s2))
  have S2 : Stp (fun y => w.heap.size ≤ y) w w2 := (Stp.of_below b1 _).next s2 (fun y hy => .inl (by subst hy; exact a1))
  exact bodyPost_ret (retCt srtV Try.results16 rfl rfl r2 rfl) rfl ⟨rfl, S2.below (Nat.le_refl _) (fun _ h => h)⟩
theorem rto_any (k : Int) (w : World) : Calls Try.prog 16 #[.int .i64 k] w fun e w' => e = .returned (.tuple #[.agg (wyK k).cs.toArray, .int .i64 (kE k)]) ∧ Below w.heap.size w w' := by
  unfold wyK kE
  by_cases h : isBk k
  · rw [if_pos h, if_pos h]
    obtain ⟨h0, h7⟩ := h
    by_cases h4 : k < 4
    · rw [if_pos h4]; exact rto_d k w h0 h4
    · rw [if_neg h4]
      by_cases h31 : k < 31
      · rw [if_pos h31]; exact rto_s k w (by omega) h31
      · rw [if_neg h31]; exact rto_t k w (by omega) h7
  · rw [if_neg h, if_neg h]
    by_cases h0 : k < 0
    · exact rto_lo k w h0
    · exact rto_hi k w (by omega) (by omega)
end Go.Proofs.Ytaahljjmofjdmaa
