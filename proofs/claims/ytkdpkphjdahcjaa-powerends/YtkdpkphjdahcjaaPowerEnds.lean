/-
  The statement PowerEnds, proved: for every two numbers the law returns true; no condition.
-/
import Derived.Test.YtkdpkphjdahcjaaPowC
namespace Go.Proofs.Ytkdpkphjdahcjaa.powerEnds
open Go.ChangeShapes Go.WideShapes Go.ChangeAt Go.RowKit
set_option linter.unusedVariables false

/-- A supply of n units behind k uses. -/
def pE (n k : Nat) : PS := ⟨true, ((n - k : Nat) : Int), decide (n < k), (min k n : Nat)⟩
theorem pE_ok (n k : Nat) (h : n < 256) : (pE n k).ok := by unfold PS.ok pE; simp only; omega
theorem pE_err (n k : Nat) : (pE n k).useErr = if k < n then 0 else 20 := by
  unfold PS.useErr PS.down pE
  by_cases h : k < n
  · have h1 : ¬ n < k := by omega
    have h2 : ¬ ((n - k : Nat) : Int) = 0 := by omega
    simp [h, h1]; omega
  · have h2 : ((n - k : Nat) : Int) = 0 := by omega
    simp [h, h2]
theorem pE_use (n k : Nat) : (pE n k).use = pE n (k + 1) := by
  unfold PS.use
  rw [pE_err]
  unfold PS.reckon pE
  by_cases h : k < n
  · have h1 : ¬ n < k := by omega
    have h2 : ¬ n < k + 1 := by omega
    simp [h, h1, h2]; omega
  · have h2 : n < k + 1 := by omega
    simp [h, h2]; omega
theorem pE_start (n : Nat) : PS.fresh.limit (n : Int) = pE n 0 := by
  unfold PS.limit pE PS.fresh
  rw [if_neg (by omega)]; simp

theorem walk_nat (n m : Nat) (w : World) (hn : n < 256) (hm : m < 256) :
    Calls Try.prog 4 #[.int .u8 (n : Int), .int .u8 (m : Int)] w fun e w' => e = .returned (.bool true) ∧ Below w.heap.size w w' := by
  have q0 : limErr (n : Int) = 0 := by unfold limErr; rw [if_neg (by omega)]
  go_enter Try.func4, Try.ntmps4
  go_wp2_with fail
  refine (works_any _).mono ?_
  rintro e w1 ⟨rfl, b1⟩
  go_wp2_with fail
  refine (pnew_any _).mono ?_
  rintro e w2 ⟨rfl, b2, p2, s2⟩
  go_wp2_with fail
  refine (plimit_any _ _ (n : Int) _ p2).mono ?_
  rintro e w3 ⟨rfl, b3, p3⟩
  rw [pE_start] at p3
  have hS : Step [w1.heap.size] w w3 := ((step_below b1 _).next (step_below b2 [w1.heap.size]) (fun _ h => .inl h)).next b3 (fun _ h => .inl h)
  have hsz := b1.size
  clear b1 b2 b3 p2 s2
  generalize w1.heap.size = g at *
  go_wp2_with fail
  go_loopw [6] (fun i wr => ∃ k : Nat, k ≤ n + m ∧ i = .int .i64 k ∧ Step [g] w wr ∧ Pw wr g (pE n k)) (fun i _ => n + m - (intOf i).toNat)
  case atStart => exact ⟨0, Nat.zero_le _, rfl, hS, p3⟩
  case round =>
    obtain ⟨k, hk, rfl, hB, hP⟩ := hrel
    have qe := pE_err n k
    by_cases hlt : k < n + m
    · have hh : (k : Int) < (n : Int) + (m : Int) := by omega
      by_cases hkn : k < n
      · rw [if_pos hkn] at qe
        go_wp2_with (go_at_call 13; refine (puse_any g _ _ hP (pE_ok n k hn)).mono ?_; rintro e u ⟨rfl, b4, p4⟩; rw [pE_use] at p4)
        go_roundw
        case rel => exact ⟨k + 1, by omega, by go_num, hB.trans b4, p4⟩
        case measure => simp [intOf]; omega
      · rw [if_neg hkn] at qe
        go_wp2_with (go_at_call 13; refine (puse_any g _ _ hP (pE_ok n k hn)).mono ?_; rintro e u ⟨rfl, b4, p4⟩; rw [pE_use] at p4)
        go_roundw
        case rel => exact ⟨k + 1, by omega, by go_num, hB.trans b4, p4⟩
        case measure => simp [intOf]; omega
    · obtain rfl : k = n + m := by omega
      have qu : (pE n (n + m)).used = (n : Int) := by unfold pE; simp only; omega
      have qg : (pE n (n + m)).gone = decide (0 < m) := by unfold pE; simp
      go_wp2_with (first
        | (go_at_call 15; refine (pgone_any _ _ _ hP).mono ?_; rintro e u ⟨rfl, rfl⟩)
        | (go_at_call 16; refine (pused_any _ _ _ hP).mono ?_; rintro e u ⟨rfl, rfl⟩))
      go_returns
      exact ⟨by simp, hB.below (Nat.le_refl _) (by simpa using hsz)⟩

theorem walk (a b : Int) (W : World) (wa : (Lit.int .u8 a).wf = true) (wb : (Lit.int .u8 b).wf = true) :
    Calls Try.prog 4 #[.int .u8 a, .int .u8 b] W fun e w' => e = .returned (.bool true) ∧ Below W.heap.size W w' := by
  have := bounds_u8 wa; have := bounds_u8 wb
  obtain ⟨x, rfl⟩ := Int.eq_ofNat_of_zero_le (show 0 ≤ a by omega)
  obtain ⟨y, rfl⟩ := Int.eq_ofNat_of_zero_le (show 0 ≤ b by omega)
  exact walk_nat x y W (by omega) (by omega)

theorem own : ownKnob Try.prog.godebug = none := by kernel_rfl
theorem laidOut : laidOutB Try.prog = true := by kernel_rfl
set_option maxRecDepth 100000 in
theorem lifted (os : Os) (started : os.Started) (H : Type) (enc : TypeId × Value → H) :
    ReturnsInHanded {} Try.checked os 4 .any (Rows.powerEndsSpec.pre6 enc Try.prog Try.f4 Rows.powerEndsRow.domain false) (Rows.powerEndsSpec.post enc Try.prog Try.f4 false true false false) := by
  refine returnsInHanded_of_change (C := Try.checked) own started (by kernel_rfl) Try.func4
    (ChangeSpec.witness6 (enc := enc) (C := Try.checked) false ⟨#[], #[.int .u8 0, .int .u8 0], []⟩ 8 (by kernel_rfl) (by kernel_rfl) (by kernel_rfl) (by kernel_rfl)) ?_
  intro W base args ds gs before hval0 hW hcnd _
  have hval : ∀ (j : Nat) t v, Try.f4.params[j]? = some t → args[j]? = some v → Value.okWide Try.prog W .any base t v := hval0
  have hW' := hW
  obtain ⟨p, q, hA0, hV, rfl, hfz, hnd⟩ := hW
  have hA : DataW.TrodAll enc Try.prog W 0 (fun _ => true) true Try.f4.params.toList args.toList ds p := hA0
  rw [Try.params4] at hA hval
  obtain ⟨v0, vs0, d0, ds0, p0, q0, hargs, rfl, rfl, h0, r0⟩ := trodAll_cons hA
  obtain ⟨v1, vs1, d1, ds1, p1, q1, rfl, rfl, rfl, h1, r1⟩ := trodAll_cons r0
  obtain ⟨rfl, rfl, rfl⟩ := trodAll_nil r1
  obtain rfl : args = #[v0, v1] := by cases args; simp_all
  obtain ⟨rfl, rfl⟩ := trodVars_none hV
  obtain ⟨a0, rfl, rfl, rfl, w0⟩ := open_int Try.underlying5 (hval 0 5 v0 rfl rfl) h0
  obtain ⟨a1, rfl, rfl, rfl, w1⟩ := open_int Try.underlying5 (hval 1 5 v1 rfl rfl) h1
  clear hA0 hval0
  refine (walk a0 a1 W w0 w1).mono fun e W' ⟨he, bel⟩ => ?_
  subst he
  exact ⟨_, rfl, _, _, _, [], _, [], hW', trodAll_mk1 (shut_bool Try.underlying4 _), (trodAll_cons_mk (shut_int Try.underlying5 w0) (trodAll_cons_mk (shut_int Try.underlying5 w1) trodAll_mk0)), rfl, bel.frame _, fun h => by cases h⟩
theorem over : Rows.powerEndsRow.holds Try.pinned (OpenSpec.ofChange Rows.powerEndsSpec) :=
  OpenClaim.holds_of_wide 4 Try.f4 rfl rfl rfl rfl rfl rfl rfl ⟨rfl, rfl, rfl, rfl, rfl⟩ rfl rfl rfl rfl rfl (by kernel_rfl) Try.func4 (by kernel_rfl)
    (of_decide_eq_true (by kernel_rfl)) (by unfold Func.isWrapper; first | (rw [if_pos (by decide +kernel)]; kernel_rfl) | (rw [if_neg (by decide +kernel)]; exact ⟨rfl, rfl⟩))
    (fun os started H enc _ => lifted os started H enc)
end Go.Proofs.Ytkdpkphjdahcjaa.powerEnds
namespace Go.Proofs.Ytkdpkphjdahcjaa
/-- The statement. -/
theorem powerEnds_holds : Rows.PowerEndsSaid := powerEnds.over
#print axioms powerEnds_holds
end Go.Proofs.Ytkdpkphjdahcjaa
