/-
  The statement FdsKeeps, proved: for every acts, inode and mode the law returns true, and what came in reads as it did; no condition.
-/
import Derived.Test.YtddglkejegmmmaaFdJ
namespace Go.Proofs.Ytddglkejegmmmaa.fdsKeeps
open Go.ChangeShapes Go.WideShapes Go.ChangeAt Go.RowKit
set_option linter.unusedVariables false
set_option linter.unusedSimpArgs false

set_option maxRecDepth 100000 in
set_option maxHeartbeats 4000000 in
theorem walk (a0 : Option Addr) (n c : Nat) (l : List Fl) (ino mode : Int) (W : World) (wa : Fls W a0 n c l) (wi : (Lit.int .i64 ino).wf = true) (wm : (Lit.int .i64 mode).wf = true) :
    Calls Try.prog 4 #[.slice a0 n c, .int .i64 ino, .int .i64 mode] W fun e w' => e = .returned (.bool true) ∧ Below W.heap.size W w' := by
  have hW := fworks_any W
  have hle := wa.le
  have hcap := wa.cap
  unfold maxLen at hcap
  go_enter Try.func4, Try.ntmps4
  go_wp2_with (first
    | (go_at_call 24; refine hW.mono ?_; rintro e w1 ⟨rfl, b1⟩; clear hW)
    | (go_at_call 6; refine (fnew_any _).mono ?_; rintro e w2 ⟨g, U, rfl, g2, b2, F2, L2⟩))
  have O2 : FdO W w2 g fdNew := ⟨U, F2, fun x hx => Nat.le_trans b1.size (L2 x hx), bnext b1 b2 (Nat.le_refl _)⟩
  clear b1 b2 F2 L2 g2
  go_loopw [8] (fun i wr => ∃ (k : Nat) (t : FT), k ≤ n ∧ k ≤ 5 ∧ i = .int .i64 (k : Int) ∧ FdO W wr g t ∧ ∀ j, k ≤ j → t j = none) (fun i _ => 5 - (intOf i).toNat)
  case atStart => exact ⟨0, _, Nat.zero_le _, Nat.zero_le _, rfl, O2, fun _ _ => rfl⟩
  case round =>
    clear O2
    obtain ⟨k, t, hk, hk5, rfl, hO, hno⟩ := hrel
    by_cases hlt : k < n ∧ k < 5
    · obtain ⟨hlt1, hlt2⟩ := hlt
      obtain ⟨b, o, rfl, hc⟩ := wa.cell (by omega)
      obtain ⟨x, hx, hr, hxo⟩ := hc k hlt1
      have e1 := hr 1 (.int .i64 x.p) rfl
      have e2 := hr 2 (.int .i64 x.m) rfl
      have hbl : b < W.heap.size := World.block_lt_of_cell? W ⟨b, o + k * 3 + 1, none⟩ e1
      have hS : ∀ w', Below W.heap.size W w' → (Below W.heap.size W w' ∧ w'.cell? ⟨b, o + k * 3 + 1, none⟩ = some (.int .i64 x.p) ∧ w'.cell? ⟨b, o + k * 3 + 2, none⟩ = some (.int .i64 x.m)) := fun w' h =>
        ⟨h, (Stp.of_below h (fun _ => False)).cell e1 id, (Stp.of_below h (fun _ => False)).cell e2 id⟩
      have hbe := hO.below
      have hOp := (hO.later ((Below.refl _ wr).drew)).open x.p x.m
      have hno' : Hid (∀ j, k + 1 ≤ j → fdOpen t x.p x.m j = none) := fdOpen_few hno (by omega) x.p x.m
      obtain ⟨xp, hxp⟩ : ∃ y, Hid (x.p = y) := ⟨_, rfl⟩
      obtain ⟨xm, hxm⟩ : ∃ y, Hid (x.m = y) := ⟨_, rfl⟩
      rw [hxp.out, hxm.out] at hS hOp
      have hno2 := hno'.out
      rw [hxp.out, hxm.out] at hno2
      clear hno hno' e1 e2 hr hc hx hxo hxp hxm
      have a0 : (0 : Int) ≤ (k : Int) := by omega
      have a1 : (k : Int) < (n : Int) := by omega
      have a2 : (k : Int) < 5 := by omega
      go_wp2_with fail
      go_region_held3 (fun w' => Below W.heap.size W w' ∧ w'.cell? ⟨b, o + k * 3 + 1, none⟩ = some (.int .i64 xp) ∧ w'.cell? ⟨b, o + k * 3 + 2, none⟩ = some (.int .i64 xm))
        (first | assumption | exact hS _ hbe.drew | exact hS _ O9.below)
        (first
        | (go_at_call 9; refine hOp.mono ?_; rintro e u9 ⟨rfl, O9⟩))
      go_wp2_with fail
      go_roundw
      case rel => exact ⟨k + 1, _, by omega, by omega, by go_num, O9, hno2⟩
      case measure => simp [intOf]; omega
    · have hlt' : ¬ (k < n) ∨ (k < n ∧ ¬ k < 5) := by omega
      have hfr : fdFr t ≤ k := fdFr_low (hno k (Nat.le_refl _)) (by omega)
      obtain ⟨F, hF⟩ : ∃ F, Hid (fdFr t = F) := ⟨_, rfl⟩
      have e1 : fdOpenN t = (F : Int) := by unfold fdOpenN; rw [if_neg (by omega), hF.out]
      have e2 : fdOpenE t = 0 := by unfold fdOpenE; rw [if_neg (by omega)]
      have e3 : fdOpen t ino mode F = some ⟨ino, 0, mode⟩ := by unfold fdOpen; rw [if_neg (by omega), hF.out]; unfold fdUp; rw [if_pos rfl]
      have hOp := hO.open ino mode
      rw [e1, e2] at hOp
      have hF8 : F < 8 := by rw [← hF.out]; omega
      generalize fdOpen t ino mode = t2 at *
      clear hlt hno hfr hF e1 e2 hO
      rcases hlt' with hlt | ⟨hlt, hlt8⟩
      all_goals
        go_wp2_with (go_at_call 9; refine hOp.mono ?_; rintro e w3 ⟨rfl, O3⟩; clear hOp)
        go_loopw [11] (fun i wr => ∃ (k : Nat) (t : FT), k ≤ n ∧ k ≤ 60 ∧ i = .int .i64 (k : Int) ∧ FdO W wr g t ∧ t F = some ⟨ino, 0, mode⟩) (fun i _ => 60 - (intOf i).toNat)
        case atStart => exact ⟨0, _, Nat.zero_le _, Nat.zero_le _, rfl, O3, e3⟩
        case round =>
          clear O3 e3
          obtain ⟨k, t, hk, hk6, rfl, hO, htF⟩ := hrel
          by_cases hlt : k < n ∧ k < 60
          · obtain ⟨hlt1, hlt2⟩ := hlt
            obtain ⟨b, o, rfl, hc⟩ := (wa.later hO.below).cell (by omega)
            obtain ⟨x, hx, hr, hxo⟩ := hc k hlt1
            have a0 : (0 : Int) ≤ (k : Int) := by omega
            have a1 : (k : Int) < (n : Int) := by omega
            have a2 : (k : Int) < 60 := by omega
            have hA := fun (u : World) => among_any x.i 7 u (by omega) (by omega)
            generalize among x.i 7 = m at *
            have hOp := fun w' (b : Below wr.heap.size wr w') => (hO.later b).open x.p x.m
            have hCl := fun w' (b : Below wr.heap.size wr w') => (hO.later b).close x.p
            have hGt := fun w' (t' : FT) (h' : t' F = some ⟨ino, 0, mode⟩) (h : FdO W w' g t') => by
              have h0 := h.get (F : Int)
              rw [show fdGet t' (F : Int) = ⟨ino, 0, mode⟩ from by unfold fdGet; rw [fdHas_in hF8, h']; rfl, show fdGetE t' (F : Int) = 0 from by unfold fdGetE; rw [fdHas_in hF8, h']; rfl] at h0
              exact h0
            have k1 := fdOpen_keep htF x.p x.m
            clear hc hx hxo
            have tk : Hid True := trivial
            by_cases hm : (m : Int) < 4
            · go_wp2_with (first
                | (refine at_ldAc (by rfl) _ (by rfl) b (o + k * 3) (by rfl) x hr ?_)
                | (clear tk; refine at_newAc (by rfl) (by rfl) ?_; intro g5 w5 z1 z2 r5 b5)
                | (refine at_putAc (by rfl) _ _ (by rfl) g5 (by rfl) x (by rfl) _ r5 rfl ?_; intro w6 r6 s6
                   have B6 : Below wr.heap.size wr w6 := ((Stp.of_below b5 (fun _ => False)).next s6 (fun x e => .inr (by omega))).below (Nat.le_refl _) (fun _ h => h.elim)
                   have c0 := r6.cell 0 _ (show x.cs[0]? = some (.int .i64 x.i) from rfl)
                   have c1 := r6.cell 1 _ (show x.cs[1]? = some (.int .i64 x.p) from rfl)
                   have c2 := r6.cell 2 _ (show x.cs[2]? = some (.int .i64 x.m) from rfl))
                | (go_at_call 8; refine (hA _).mono ?_; rintro e u ⟨rfl, rfl⟩; clear hA)
                | (go_at_call 9; refine (hOp _ B6).mono ?_; rintro e w7 ⟨rfl, O7⟩; clear hOp hCl)
                | (go_at_call 16; refine (hGt _ _ k1 O7).mono ?_; rintro e w8 ⟨rfl, O8⟩; clear hGt)
                | (refine at_newFl (by rfl) (by rfl) ?_; intro g9 w9 z3 z4 r9 b9)
                | (refine at_putFl (by rfl) _ _ (by rfl) g9 (by rfl) ⟨ino, 0, mode⟩ (by rfl) _ r9 rfl ?_; intro w10 r10 s10
                   have d0 := r10.cell 0 _ (show (Fl.mk ino 0 mode).cs[0]? = some (.int .i64 ino) from rfl)
                   have d1 := r10.cell 1 _ (show (Fl.mk ino 0 mode).cs[1]? = some (.int .i64 0) from rfl)
                   have d2 := r10.cell 2 _ (show (Fl.mk ino 0 mode).cs[2]? = some (.int .i64 mode) from rfl)))
              have O10 := O8.later (((Stp.of_below b9 (fun _ => False)).next s10 (fun x e => .inr (by omega))).below (Nat.le_refl _) (fun _ h => h.elim))
              go_roundw
              case rel => exact ⟨k + 1, _, by omega, by omega, by go_num, O10, k1⟩
              case measure => simp [intOf]; omega
            · by_cases hxp : x.p = (F : Int)
              · go_wp2_with (first
                  | (refine at_ldAc (by rfl) _ (by rfl) b (o + k * 3) (by rfl) x hr ?_)
                  | (clear tk; refine at_newAc (by rfl) (by rfl) ?_; intro g5 w5 z1 z2 r5 b5)
                  | (refine at_putAc (by rfl) _ _ (by rfl) g5 (by rfl) x (by rfl) _ r5 rfl ?_; intro w6 r6 s6
                     have B6 : Below wr.heap.size wr w6 := ((Stp.of_below b5 (fun _ => False)).next s6 (fun x e => .inr (by omega))).below (Nat.le_refl _) (fun _ h => h.elim)
                     have O7 := hO.later B6
                     have c0 := r6.cell 0 _ (show x.cs[0]? = some (.int .i64 x.i) from rfl)
                     have c1 := r6.cell 1 _ (show x.cs[1]? = some (.int .i64 x.p) from rfl))
                  | (go_at_call 8; refine (hA _).mono ?_; rintro e u ⟨rfl, rfl⟩; clear hA)
                  | (go_at_call 16; refine (hGt _ _ htF O7).mono ?_; rintro e w8 ⟨rfl, O8⟩; clear hGt)
                  | (refine at_newFl (by rfl) (by rfl) ?_; intro g9 w9 z3 z4 r9 b9)
                  | (refine at_putFl (by rfl) _ _ (by rfl) g9 (by rfl) ⟨ino, 0, mode⟩ (by rfl) _ r9 rfl ?_; intro w10 r10 s10
                     have d0 := r10.cell 0 _ (show (Fl.mk ino 0 mode).cs[0]? = some (.int .i64 ino) from rfl)
                     have d1 := r10.cell 1 _ (show (Fl.mk ino 0 mode).cs[1]? = some (.int .i64 0) from rfl)
                     have d2 := r10.cell 2 _ (show (Fl.mk ino 0 mode).cs[2]? = some (.int .i64 mode) from rfl)))
                have O10 := O8.later (((Stp.of_below b9 (fun _ => False)).next s10 (fun x e => .inr (by omega))).below (Nat.le_refl _) (fun _ h => h.elim))
                go_roundw
                case rel => exact ⟨k + 1, _, by omega, by omega, by go_num, O10, htF⟩
                case measure => simp [intOf]; omega
              · have k2 : fdClose t x.p F = some ⟨ino, 0, mode⟩ := by rw [fdClose_keep hxp]; exact htF
                go_wp2_with (first
                  | (refine at_ldAc (by rfl) _ (by rfl) b (o + k * 3) (by rfl) x hr ?_)
                  | (clear tk; refine at_newAc (by rfl) (by rfl) ?_; intro g5 w5 z1 z2 r5 b5)
                  | (refine at_putAc (by rfl) _ _ (by rfl) g5 (by rfl) x (by rfl) _ r5 rfl ?_; intro w6 r6 s6
                     have B6 : Below wr.heap.size wr w6 := ((Stp.of_below b5 (fun _ => False)).next s6 (fun x e => .inr (by omega))).below (Nat.le_refl _) (fun _ h => h.elim)
                     have c0 := r6.cell 0 _ (show x.cs[0]? = some (.int .i64 x.i) from rfl)
                     have c1 := r6.cell 1 _ (show x.cs[1]? = some (.int .i64 x.p) from rfl))
                  | (go_at_call 8; refine (hA _).mono ?_; rintro e u ⟨rfl, rfl⟩; clear hA)
                  | (go_at_call 11; refine (hCl _ B6).mono ?_; rintro e w7 ⟨rfl, O7⟩; clear hOp hCl)
                  | (go_at_call 16; refine (hGt _ _ k2 O7).mono ?_; rintro e w8 ⟨rfl, O8⟩; clear hGt)
                  | (refine at_newFl (by rfl) (by rfl) ?_; intro g9 w9 z3 z4 r9 b9)
                  | (refine at_putFl (by rfl) _ _ (by rfl) g9 (by rfl) ⟨ino, 0, mode⟩ (by rfl) _ r9 rfl ?_; intro w10 r10 s10
                     have d0 := r10.cell 0 _ (show (Fl.mk ino 0 mode).cs[0]? = some (.int .i64 ino) from rfl)
                     have d1 := r10.cell 1 _ (show (Fl.mk ino 0 mode).cs[1]? = some (.int .i64 0) from rfl)
                     have d2 := r10.cell 2 _ (show (Fl.mk ino 0 mode).cs[2]? = some (.int .i64 mode) from rfl)))
                have O10 := O8.later (((Stp.of_below b9 (fun _ => False)).next s10 (fun x e => .inr (by omega))).below (Nat.le_refl _) (fun _ h => h.elim))
                go_roundw
                case rel => exact ⟨k + 1, _, by omega, by omega, by go_num, O10, k2⟩
                case measure => simp [intOf]; omega
          · have hlt' : ¬ (k < n) ∨ (k < n ∧ ¬ k < 60) := by omega
            have hbe := hO.below
            clear hlt
            rcases hlt' with hlt | ⟨hlt, hlt8⟩
            all_goals
              go_wp2
              try
                go_returns
                exact ⟨rfl, hbe⟩

theorem own : ownKnob Try.prog.godebug = none := by kernel_rfl
theorem laidOut : laidOutB Try.prog = true := by kernel_rfl
set_option maxRecDepth 100000 in
theorem lifted (os : Os) (started : os.Started) (H : Type) (enc : TypeId × Value → H) :
    ReturnsInHanded {} Try.checked os 4 .any (Rows.fdsKeepsSpec.pre6 enc Try.prog Try.f4 Rows.fdsKeepsRow.domain false) (Rows.fdsKeepsSpec.post enc Try.prog Try.f4 false true false false) := by
  refine returnsInHanded_of_change (C := Try.checked) own started (by kernel_rfl) Try.func4
    (ChangeSpec.witness6 (enc := enc) (C := Try.checked) false ⟨#[], #[.slice none 0 0, .int .i64 0, .int .i64 0], []⟩ 8 (by kernel_rfl) (by kernel_rfl) (by kernel_rfl) (by kernel_rfl)) ?_
  intro W base args ds gs before hval0 hW hcnd _
  have hval : ∀ (j : Nat) t v, Try.f4.params[j]? = some t → args[j]? = some v → Value.okWide Try.prog W .any base t v := hval0
  have hW' := hW
  obtain ⟨p, q, hA0, hV, rfl, hfz, hnd⟩ := hW
  have hA : DataW.TrodAll enc Try.prog W 0 (fun _ => true) true Try.f4.params.toList args.toList ds p := hA0
  rw [Try.params4] at hA hval
  obtain ⟨v0, vs0, d0, ds0, p0, q0, hargs, rfl, rfl, h0, r0⟩ := trodAll_cons hA
  obtain ⟨v1, vs1, d1, ds1, p1, q1, rfl, rfl, rfl, h1, r1⟩ := trodAll_cons r0
  obtain ⟨v2, vs2, d2, ds2, p2, q2, rfl, rfl, rfl, h2, r2⟩ := trodAll_cons r1
  obtain ⟨rfl, rfl, rfl⟩ := trodAll_nil r2
  obtain rfl : args = #[v0, v1, v2] := by cases args; simp_all
  obtain ⟨rfl, rfl⟩ := trodVars_none hV
  obtain ⟨a0, len0, cap0, rfl⟩ := okWide_slice Try.underlying22 (hval 0 22 v0 rfl rfl)
  have k0 := h0
  have lt0 : ∀ x ∈ p0, x.block < W.heap.size := by obtain ⟨m, hm⟩ := k0; exact DataW.trod_lt m _ _ _ hm
  obtain ⟨z0, w0⟩ : ∃ zs, Fls W a0 len0 cap0 zs := by
    obtain ⟨fuel, hf⟩ := h0
    obtain ⟨a, n, c, l, hcs, hi⟩ := fls_of_trod hf
    simp [Value.cells] at hcs
    obtain ⟨rfl, rfl, rfl⟩ := hcs
    exact ⟨_, hi⟩
  obtain ⟨a1, rfl, rfl, rfl, w1⟩ := open_int Try.underlying3 (hval 1 3 v1 rfl rfl) h1
  obtain ⟨a2, rfl, rfl, rfl, w2⟩ := open_int Try.underlying3 (hval 2 3 v2 rfl rfl) h2
  clear hA0 hval0
  refine (walk a0 len0 cap0 z0 a1 a2 W w0 w1 w2).mono fun e W' ⟨he, bel⟩ => ?_
  subst he
  exact ⟨_, rfl, _, _, _, [], _, [], hW', trodAll_mk1 (shut_bool Try.underlying4 _), (trodAll_cons_mk (Below.trod laidOut (by kernel_rfl) (of_decide_eq_true (by kernel_rfl)) k0 bel lt0) (trodAll_cons_mk (shut_int Try.underlying3 w1) (trodAll_cons_mk (shut_int Try.underlying3 w2) trodAll_mk0))), rfl, bel.frame _, fun h => by cases h⟩
theorem over : Rows.fdsKeepsRow.holds Try.pinned (OpenSpec.ofChange Rows.fdsKeepsSpec) :=
  OpenClaim.holds_of_wide 4 Try.f4 rfl rfl rfl rfl rfl rfl rfl ⟨rfl, rfl, rfl, rfl, rfl⟩ rfl rfl rfl rfl rfl (by kernel_rfl) Try.func4 (by kernel_rfl)
    (of_decide_eq_true (by kernel_rfl)) (by unfold Func.isWrapper; first | (rw [if_pos (by decide +kernel)]; kernel_rfl) | (rw [if_neg (by decide +kernel)]; exact ⟨rfl, rfl⟩))
    (fun os started H enc _ => lifted os started H enc)
end Go.Proofs.Ytddglkejegmmmaa.fdsKeeps
namespace Go.Proofs.Ytddglkejegmmmaa
/-- The statement. -/
theorem fdsKeeps_holds : Rows.FdsKeepsSaid := fdsKeeps.over
#print axioms fdsKeeps_holds
end Go.Proofs.Ytddglkejegmmmaa
