/-
  What Offset of layer 10 returns, for every input: no statement is proved here.
-/
import Derived.Test.YtbpnegklglaekaaDoorInoB
import Derived.BigQuiet
namespace Go.Proofs.YtbpnegklglaekaaDoor
open Go.ChangeShapes Go.WideShapes Go.ChangeAt Go.RowKit
set_option linter.unusedVariables false

/-- The table of the fields lies in block 0. -/
def Tb (w : World) : Prop := ∀ f, f ≤ 9 → w.cell? ⟨0, f * 2, none⟩ = some (.int .i64 (fAt f : Nat)) ∧ w.cell? ⟨0, f * 2 + 1, none⟩ = some (.int .i64 (fSz f : Nat))
theorem Tb.later {w w' : World} (h : Tb w) (k : Below w.heap.size w w') : Tb w' := fun f hf =>
  ⟨(Stp.of_below k (fun _ => False)).cell (h f hf).1 id, (Stp.of_below k (fun _ => False)).cell (h f hf).2 id⟩
theorem Tb.step {w w' : World} {F : Nat → Prop} (h : Tb w) (k : Stp F w w') (h0 : ¬ F 0) : Tb w' := fun f hf =>
  ⟨k.cell (h f hf).1 h0, k.cell (h f hf).2 h0⟩
abbrev spn (a n : Nat) : List Value := [.int .i64 (a : Int), .int .i64 (n : Int)]
theorem spn_one (a n : Nat) : ∀ v ∈ spn a n, v.oneCell' = true := by
  intro v hv; simp only [List.mem_cons, List.not_mem_nil, or_false] at hv
  rcases hv with rfl | rfl <;> rfl
theorem srtP : Srt 68 2 (spn 0 0) :=
  ⟨⟨_, Tryd.underlying68, rfl⟩, by kernel_rfl, fun w => (zero_of_info (v := .agg (spn 0 0).toArray) (n := 2) (by kernel_rfl)).1 w, rfl, spn_one 0 0⟩
theorem Tb.range {w : World} (h : Tb w) (f : Nat) (hf : f ≤ 9) : w.rangeAt 0 (f * 2) (spn (fAt f) (fSz f)) := fun j v hv => by
  obtain ⟨h1, h2⟩ := h f hf
  match j, hv with
  | 0, hv => simp at hv; subst hv; exact h1
  | 1, hv => simp at hv; subst hv; exact h2
  | j + 2, hv => simp at hv
set_option maxRecDepth 100000 in
set_option maxHeartbeats 1000000 in
theorem offset_ok (k f : Nat) (w : World) (hk : k ≤ 2) (hf : f ≤ 9) (hT : Tb w) :
    Calls Tryd.prog 20 #[.int .i64 (k : Int), .int .i64 (f : Int)] w fun e w' => e = .returned (.tuple #[.int .i64 ((18 * k + fAt f : Nat) : Int), .int .i64 (fSz f : Nat), .int .i64 0]) ∧ Below w.heap.size w w' := by
  have H1 := isSlot_any (k : Int)
  have H2 := isField_any (f : Int)
  rw [decide_eq_true (show isSl k from ⟨by omega, by omega⟩)] at H1
  rw [decide_eq_true (show isF f from ⟨by omega, by omega⟩)] at H2
  have hr := hT.range f hf
  have hle := f_le f hf
  go_enter Tryd.func20, Tryd.ntmps20
  go_wp2_with (first
    | (go_at_call 33; refine (H1 _).mono ?_; rintro e u ⟨rfl, rfl⟩)
    | (go_at_call 34; refine (H2 _).mono ?_; rintro e u ⟨rfl, rfl⟩)
    | (refine at_getRg 68 2 srtP.und srtP.size (by rfl) _ (by rfl) 0 (f * 2) (by rfl) (spn (fAt f) (fSz f)) hr rfl ?_)
    | (refine at_newC 68 2 (spn 0 0) srtP (by rfl) (by rfl) ?_; intro gs w3 a3 z3 r3 b3)
    | (refine at_putC 68 2 (spn 0 0) srtP (by rfl) _ _ (by rfl) gs (by rfl) (spn (fAt f) (fSz f)) (by rfl) rfl (spn_one _ _) _ r3 rfl ?_; intro w4 r4 s4
       have c0 := r4.cell 0 _ rfl
       have c1 := r4.cell 1 _ rfl))
  have S4 : Stp (fun y => w.heap.size ≤ y) w w4 := (Stp.of_below b3 _).next s4 (fun y hy => .inl (by subst hy; exact a3))
  clear hr r3 b3 s4 H1 H2 hT
  have eW : Hid (IntKind.i64.wrap (IntKind.i64.wrap ((k : Int) * 18) + (fAt f : Nat)) = ((18 * k + fAt f : Nat) : Int)) := by
    show _ = _
    rw [IntKind.wrap_i64, IntKind.wrap_i64]; omega
  go_quiet (fail)
  go_wp2_with fail
  go_returns
  refine ⟨?_, (S4.drewN _).below (Nat.le_refl _) (fun _ h => h)⟩
  show Ending.returned (.tuple #[.int .i64 (IntKind.i64.wrap (IntKind.i64.wrap ((k : Int) * 18) + (fAt f : Nat))), _, _]) = _
  rw [eW.out]; rfl
theorem offset_no (k f : Int) (w : World) (h : ¬ (isSl k ∧ isF f)) :
    Calls Tryd.prog 20 #[.int .i64 k, .int .i64 f] w fun e w' => e = .returned (.tuple #[.int .i64 0, .int .i64 0, .int .i64 2]) ∧ Below w.heap.size w w' := by
  have H1 := isSlot_any k
  have H2 := isField_any f
  by_cases hk : isSl k
  · have hf : ¬ isF f := fun e => h ⟨hk, e⟩
    rw [decide_eq_true hk] at H1
    rw [decide_eq_false hf] at H2
    clear h hk hf
    go_enter Tryd.func20, Tryd.ntmps20
    go_wp2_with (first
      | (go_at_call 33; refine (H1 _).mono ?_; rintro e u ⟨rfl, rfl⟩)
      | (go_at_call 34; refine (H2 _).mono ?_; rintro e u ⟨rfl, rfl⟩))
    go_returns
    exact ⟨rfl, Below.refl _ _⟩
  · rw [decide_eq_false hk] at H1
    clear h hk
    go_enter Tryd.func20, Tryd.ntmps20
    go_wp2_with (first
      | (go_at_call 33; refine (H1 _).mono ?_; rintro e u ⟨rfl, rfl⟩)
      | (go_at_call 34; refine (H2 _).mono ?_; rintro e u ⟨rfl, rfl⟩))
    go_returns
    exact ⟨rfl, Below.refl _ _⟩
theorem offset_any (k f : Int) (w : World) (hT : Tb w) :
    Calls Tryd.prog 20 #[.int .i64 k, .int .i64 f] w fun e w' => e = .returned (.tuple #[.int .i64 (oA k f), .int .i64 (oZ k f), .int .i64 (oE k f)]) ∧ Below w.heap.size w w' := by
  unfold oA oZ oE
  by_cases h : isSl k ∧ isF f
  · rw [if_pos h, if_pos h, if_pos h]
    obtain ⟨⟨k0, k2⟩, ⟨f0, f9⟩⟩ := h
    obtain ⟨k', rfl⟩ := Int.eq_ofNat_of_zero_le k0
    obtain ⟨f', rfl⟩ := Int.eq_ofNat_of_zero_le f0
    have := offset_ok k' f' w (by omega) (by omega) hT
    rw [show ((18 * k' + fAt f' : Nat) : Int) = 18 * (k' : Int) + (fAt f' : Nat) by omega] at this
    exact this
  · rw [if_neg h, if_neg h, if_neg h]
    exact offset_no k f w h
end Go.Proofs.YtbpnegklglaekaaDoor
