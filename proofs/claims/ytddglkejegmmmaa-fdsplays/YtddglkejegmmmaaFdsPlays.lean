/-
  The statement FdsPlays, proved: for every acts the law returns true, and what came in reads as it did; no condition.
-/
import Derived.Test.YtddglkejegmmmaaFdK
import Derived.Deep.CutBlock
import Derived.Deep.DeepCutAuto
namespace Go.Proofs.Ytddglkejegmmmaa.fdsPlays
open Go.ChangeShapes Go.WideShapes Go.ChangeAt Go.RowKit
set_option linter.unusedVariables false
set_option linter.unusedSimpArgs false

theorem bnew {w w1 w2 : World} {g : Nat} (b : Below w.heap.size w w1) (z : w.heap.size ≤ g) (s : Stp (fun x => x = g) w1 w2) : Below w.heap.size w w2 :=
  ((Stp.of_below b (fun _ => False)).next s (fun x e => .inr (by omega))).below (Nat.le_refl _) (fun _ h => h.elim)
theorem us_full (t : FT) : (((fdUs t 8).length : Int) == 8) = decide ((fdFr t : Int) = 8) := by
  have h := fdUs_full t
  rw [Bool.eq_iff_iff]
  simp only [beq_iff_eq, decide_eq_true_eq]
  constructor
  · intro e; have := h.1 (by omega); omega
  · intro e; have := h.2 (by omega); omega
theorem us_few (t : FT) : (fdUs t 8).length ≤ 100000 := by have := fdUs_len t 8; omega

set_option maxRecDepth 100000 in
set_option maxHeartbeats 8000000 in
theorem walk (a0 : Option Addr) (n c : Nat) (l : List Fl) (W : World) (wa : Fls W a0 n c l) :
    Calls Try.prog 3 #[.slice a0 n c] W fun e w' => e = .returned (.bool true) ∧ Below W.heap.size W w' := by
  have hle := wa.le
  have hcap := wa.cap
  unfold maxLen at hcap
  go_enter Try.func3, Try.ntmps3
  go_wp2_with (first
    | (go_at_call 6; refine (fnew_any _).mono ?_; rintro e w1 ⟨g, U, rfl, g1, b1, F1, L1⟩)
    | (go_at_call 7; refine (rfnew_any _).mono ?_; rintro e w2 ⟨y, rfl, y2, b2, R2⟩))
  have P2 : PlF W w2 U g y fdNew fdNew := ⟨F1.later b2, R2, L1, fun e => by have := F1.low y e; omega, Nat.le_trans b1.size y2, bnext b1 b2 (Nat.le_refl _)⟩
  clear b1 b2 F1 R2 L1 g1 y2
  go_loopw [3, 5] (fun v i wr => ∃ (k g : Nat) (U : Nat → Prop) (t : FT), k ≤ n ∧ k ≤ 60 ∧ v = .pointer (some ⟨g, 0, none⟩) ∧ i = .int .i64 (k : Int) ∧ PlF W wr U g y t t) (fun v i _ => 60 - (intOf i).toNat)
  case atStart => exact ⟨0, _, _, _, Nat.zero_le _, Nat.zero_le _, rfl, rfl, P2⟩
  case round =>
    clear P2
    obtain ⟨k, g, U, t, hk, hk6, rfl, rfl, P⟩ := hrel
    by_cases hlt : k < n ∧ k < 60
    · obtain ⟨hlt1, hlt2⟩ := hlt
      obtain ⟨b, o, rfl, hc⟩ := (wa.later P.b).cell (by omega)
      obtain ⟨x, hx, hr, hxo⟩ := hc k hlt1
      have a0 : (0 : Int) ≤ (k : Int) := by omega
      have a1 : (k : Int) < (n : Int) := by omega
      have a2 : (k : Int) < 60 := by omega
      have hA := fun (u : World) => among_any x.i 7 u (by omega) (by omega)
      generalize among x.i 7 = m at *
      have hUl := P.f.low
      have hyl := P.r.lt
      have hWl := P.b.size
      clear hc hx hxo
      have tk : Hid True := trivial
      have tA : Hid True := trivial
      have tB : Hid True := trivial
      have tC : Hid True := trivial
      have tD : Hid True := trivial
      go_upto_block 2 with (first
          | (refine at_ldAc (by rfl) _ (by rfl) b (o + k * 3) (by rfl) x hr ?_)
          | (clear tk; refine at_newAc (by rfl) (by rfl) ?_; intro g5 w5 z1 z2 r5 b5)
          | (refine at_putAc (by rfl) _ _ (by rfl) g5 (by rfl) x (by rfl) _ r5 rfl ?_; intro w6 r6 s6
             have B6 := bnew b5 z1 s6
             have O6 : PlA W w6 g y t t g5 x := PlA.of (P.later B6) r6 (fun z hz => by have := hUl z hz; omega) (by omega) (by omega)
             obtain ⟨c0, c1, c2⟩ := O6.act)
          | (go_at_call 8; refine (hA _).mono ?_; rintro e u ⟨rfl, rfl⟩; clear hA))
      clear r5 b5 s6 r6 B6 P U hUl hyl hWl z1 z2 hr
      go_cut [8] (fun u wx => ∃ t', PlA W wx g y t' t' g5 x)
      case first =>
        by_cases hm4 : (m : Int) < 4
        · go_wp2_with (first
            | (go_at_call 9; refine (O6.copen x.p x.m).mono ?_; rintro e w7 ⟨rfl, O7⟩
               obtain ⟨-, d1, d2⟩ := O7.act)
            | (go_at_call 10; refine (O7.ropen x.p x.m).mono ?_; rintro e w8 ⟨rfl, O8⟩))
          go_meet
          exact ⟨_, O8⟩
        · by_cases hm6 : (m : Int) < 6
          · go_wp2_with (first
              | (go_at_call 11; refine (O6.cclose x.p).mono ?_; rintro e w7 ⟨rfl, O7⟩)
              | (clear tA; refine at_newFl (by rfl) (by rfl) ?_; intro g8 w8 z3 z4 r8 b8)
              | (clear tB; refine at_putFl (by rfl) _ _ (by rfl) g8 (by rfl) (fdGet t x.p) (by rfl) _ r8 rfl ?_; intro w9 r9 s9
                 have O9 := O7.later (bnew b8 z3 s9)
                 have hy9 := O7.yl
                 obtain ⟨-, d1, -⟩ := O9.act)
              | (go_at_call 12; refine (O9.rclose x.p).mono ?_; rintro e w10 ⟨rfl, O10, s10⟩
                 have r10 := r9.step s10 (fun e => by have e : g8 = y := e; omega))
              | (clear tC; refine at_newRl (by rfl) (by rfl) ?_; intro g11 w11 z5 z6 r11 b11)
              | (clear tD; refine at_putRl (by rfl) _ _ (by rfl) g11 (by rfl) (fdGet t x.p) (by rfl) _ r11 rfl ?_; intro w12 r12 s12
                 have O12 := O10.later (bnew b11 z5 s12)
                 have r13 := r10.later (bnew b11 z5 s12)
                 have q0 := r13.cell 0 _ (show (fdGet t x.p).cs[0]? = some (.int .i64 (fdGet t x.p).i) from rfl)
                 have q1 := r13.cell 1 _ (show (fdGet t x.p).cs[1]? = some (.int .i64 (fdGet t x.p).p) from rfl)
                 have q2 := r13.cell 2 _ (show (fdGet t x.p).cs[2]? = some (.int .i64 (fdGet t x.p).m) from rfl)
                 have q3 := r12.cell 0 _ (show (fdGet t x.p).cs[0]? = some (.int .i64 (fdGet t x.p).i) from rfl)
                 have q4 := r12.cell 1 _ (show (fdGet t x.p).cs[1]? = some (.int .i64 (fdGet t x.p).p) from rfl)
                 have q5 := r12.cell 2 _ (show (fdGet t x.p).cs[2]? = some (.int .i64 (fdGet t x.p).m) from rfl)))
            go_meet
            exact ⟨_, O12⟩
          · have hSk : ∀ w', PlA W w' g y t t g5 x → (w'.cell? ⟨g5, 1, none⟩ = some (.int .i64 x.p) ∧ w'.cell? ⟨g5, 2, none⟩ = some (.int .i64 x.m)) := fun w' h => h.act.2
            have hSk1 : ∀ w', PlA W w' g y (fdSeek t x.p x.m) t g5 x → (w'.cell? ⟨g5, 1, none⟩ = some (.int .i64 x.p) ∧ w'.cell? ⟨g5, 2, none⟩ = some (.int .i64 x.m)) := fun w' h => h.act.2
            have hSk2 : ∀ w', PlA W w' g y (fdSeek t x.p x.m) (fdSeek t x.p x.m) g5 x → (w'.cell? ⟨g5, 1, none⟩ = some (.int .i64 x.p) ∧ w'.cell? ⟨g5, 2, none⟩ = some (.int .i64 x.m)) := fun w' h => h.act.2
            have Od := O6.later ((Below.refl _ w6).drew)
            go_wp2_with fail
            go_region_held3 (fun w' => w'.cell? ⟨g5, 1, none⟩ = some (.int .i64 x.p) ∧ w'.cell? ⟨g5, 2, none⟩ = some (.int .i64 x.m))
              (first | assumption | exact hSk _ Od | exact hSk1 _ O7 | exact hSk2 _ O8)
              (first
              | (go_at_call 13; refine (Od.cseek x.p x.m).mono ?_; rintro e w7 ⟨rfl, O7⟩)
              | (go_at_call 14; refine (O7.rseek x.p x.m).mono ?_; rintro e w8 ⟨rfl, O8⟩))
            go_wp2
            go_meet
            exact ⟨_, O8⟩
      case rest =>
        obtain ⟨t', O10⟩ := hcut
        clear O6 c0 c1 c2 t
        go_wp2_with (first
          | (go_at_call 15; refine (O10.ccopy).mono ?_; rintro e w11 ⟨g', rfl, B11⟩)
          | (go_at_call 11; refine (B11.oclose 0).mono ?_; rintro e w12 ⟨v12, rfl, B12⟩)
          | (go_at_call 13; refine (B12.oseek 1 999).mono ?_; rintro e w13 ⟨v13, rfl, O13⟩
             obtain ⟨-, f1, -⟩ := O13.act)
          | (go_at_call 16; refine (O13.cget x.p).mono ?_; rintro e w14 ⟨rfl, b14⟩
             have O14 := O13.later b14)
          | (clear tA; refine at_newFl (by rfl) (by rfl) ?_; intro g15 w15 z3 z4 r15 b15)
          | (clear tB; refine at_putFl (by rfl) _ _ (by rfl) g15 (by rfl) (fdGet t' x.p) (by rfl) _ r15 rfl ?_; intro w16 r16 s16
             have O16 := O14.later (bnew b15 z3 s16)
             obtain ⟨-, h1, -⟩ := O16.act)
          | (go_at_call 17; refine (O16.rget x.p).mono ?_; rintro e w17 ⟨rfl, b17⟩
             have O17 := O16.later b17
             have r17 := r16.later b17)
          | (clear tC; refine at_newRl (by rfl) (by rfl) ?_; intro g18 w18 z5 z6 r18 b18)
          | (clear tD; refine at_putRl (by rfl) _ _ (by rfl) g18 (by rfl) (fdGet t' x.p) (by rfl) _ r18 rfl ?_; intro w19 r19 s19
             have O19 := O17.later (bnew b18 z5 s19)
             have r20 := r17.later (bnew b18 z5 s19)))
        have us1 := us_full t'
        have us2 := us_few t'
        have hCC := fun w' (b : Below w19.heap.size w19 w') => (O19.later b).ccount x.p
        have hRC := fun w' (b : Below w19.heap.size w19 w') => (O19.later b).rcount x.p
        have hCU := fun w' (b : Below w19.heap.size w19 w') => (O19.later b).cused
        have hRU := fun w' (b : Below w19.heap.size w19 w') => (O19.later b).rused
        have hCF := fun w' (b : Below w19.heap.size w19 w') => (O19.later b).cfull
        generalize fdUs t' 8 = L at *
        generalize decide ((fdFr t' : Int) = 8) = full at *
        generalize fdCt t' x.p 8 = z at *
        have eF : Hid (fdGet t' x.p = fdGet t' x.p) := rfl
        generalize fdGet t' x.p = f at r19 r20
        have cA := r20.cell 0 _ (show f.cs[0]? = some (.int .i64 f.i) from rfl)
        have cB := r20.cell 1 _ (show f.cs[1]? = some (.int .i64 f.p) from rfl)
        have cC := r20.cell 2 _ (show f.cs[2]? = some (.int .i64 f.m) from rfl)
        have cD := r19.cell 0 _ (show f.cs[0]? = some (.int .i64 f.i) from rfl)
        have cE := r19.cell 1 _ (show f.cs[1]? = some (.int .i64 f.p) from rfl)
        have cF := r19.cell 2 _ (show f.cs[2]? = some (.int .i64 f.m) from rfl)
        have cG := O19.act.2.1
        have hb0 : Below w19.heap.size w19 w19.drew := (Below.refl _ _).drew
        have hS : ∀ w', Below w19.heap.size w19 w' → (Below w19.heap.size w19 w' ∧ w'.cell? ⟨g15, 0, none⟩ = some (.int .i64 f.i) ∧ w'.cell? ⟨g15, 1, none⟩ = some (.int .i64 f.p) ∧ w'.cell? ⟨g15, 2, none⟩ = some (.int .i64 f.m) ∧ w'.cell? ⟨g18, 0, none⟩ = some (.int .i64 f.i) ∧ w'.cell? ⟨g18, 1, none⟩ = some (.int .i64 f.p) ∧ w'.cell? ⟨g18, 2, none⟩ = some (.int .i64 f.m) ∧ w'.cell? ⟨g5, 1, none⟩ = some (.int .i64 x.p)) := fun w' h => by
          have s := Stp.of_below h (fun _ => False)
          exact ⟨h, s.cell cA id, s.cell cB id, s.cell cC id, s.cell cD id, s.cell cE id, s.cell cF id, s.cell cG id⟩
        clear cA cB cC cD cE cF cG
        have tE : Hid True := trivial
        go_wp2_with fail
        go_region_held3 (fun w' => Below w19.heap.size w19 w' ∧ w'.cell? ⟨g15, 0, none⟩ = some (.int .i64 f.i) ∧ w'.cell? ⟨g15, 1, none⟩ = some (.int .i64 f.p) ∧ w'.cell? ⟨g15, 2, none⟩ = some (.int .i64 f.m) ∧ w'.cell? ⟨g18, 0, none⟩ = some (.int .i64 f.i) ∧ w'.cell? ⟨g18, 1, none⟩ = some (.int .i64 f.p) ∧ w'.cell? ⟨g18, 2, none⟩ = some (.int .i64 f.m) ∧ w'.cell? ⟨g5, 1, none⟩ = some (.int .i64 x.p))
          (first | assumption | exact hS _ hb0 | exact hS _ b21 | exact hS _ b22 | exact hS _ b23 | exact hS _ b24 | exact hS _ b25)
          (first
          | (go_at_call 18; refine (hCC _ (And.left (by assumption))).mono ?_; rintro e w21 ⟨rfl, b21'⟩; have b21 := bnext (And.left (by assumption)) b21' (Nat.le_refl _))
          | (go_at_call 19; refine (hRC _ (And.left (by assumption))).mono ?_; rintro e u ⟨rfl, rfl⟩)
          | (go_at_call 21; refine (hCU _ (And.left (by assumption))).mono ?_; rintro e w22 ⟨xa, xc, rfl, i22, b22'⟩; have b22 := bnext (And.left (by assumption)) b22' (Nat.le_refl _))
          | (go_at_call 22; clear tE; refine (hRU _ (And.left (by assumption))).mono ?_; rintro e w23 ⟨ya, yc, rfl, i23, b23'⟩; have b23 := bnext (And.left (by assumption)) b23' (Nat.le_refl _); have i22' := i22.later b23')
          | (go_at_call 20; refine (same_any i22' i23 us2).mono ?_; rintro e w24 ⟨rfl, b24'⟩; have b24 := bnext (And.left (by assumption)) b24' (Nat.le_refl _))
          | (go_at_call 23; refine (hCF _ (And.left (by assumption))).mono ?_; rintro e u ⟨rfl, rfl⟩)
          | (go_at_call 22; refine (hRU _ (And.left (by assumption))).mono ?_; rintro e w25 ⟨za, zc, rfl, i25, b25'⟩; have b25 := bnext (And.left (by assumption)) b25' (Nat.le_refl _)))
        clear hS hCC hRC hCU hRU hCF r19 r20
        have O25 := O19.later b25
        obtain ⟨U', P', -⟩ := O25
        go_wp2
        go_roundw
        case rel => exact ⟨k + 1, g', U', _, by omega, by omega, rfl, by go_num, P'⟩
        case measure => simp [intOf]; omega
    · have hlt' : ¬ (k < n) ∨ (k < n ∧ ¬ k < 60) := by omega
      have hbe := P.b
      clear hlt
      rcases hlt' with hlt | ⟨hlt, hlt8⟩
      all_goals
        go_wp2_with (go_at_call 24; refine (fworks_any _).mono ?_; rintro e w3 ⟨rfl, b3⟩)
        go_returns
        exact ⟨rfl, bnext hbe b3 (Nat.le_refl _)⟩

theorem own : ownKnob Try.prog.godebug = none := by kernel_rfl
theorem laidOut : laidOutB Try.prog = true := by kernel_rfl
set_option maxRecDepth 100000 in
theorem lifted (os : Os) (started : os.Started) (H : Type) (enc : TypeId × Value → H) :
    ReturnsInHanded {} Try.checked os 3 .any (Rows.fdsPlaysSpec.pre6 enc Try.prog Try.f3 Rows.fdsPlaysRow.domain false) (Rows.fdsPlaysSpec.post enc Try.prog Try.f3 false true false false) := by
  refine returnsInHanded_of_change (C := Try.checked) own started (by kernel_rfl) Try.func3
    (ChangeSpec.witness6 (enc := enc) (C := Try.checked) false ⟨#[], #[.slice none 0 0], []⟩ 8 (by kernel_rfl) (by kernel_rfl) (by kernel_rfl) (by kernel_rfl)) ?_
  intro W base args ds gs before hval0 hW hcnd _
  have hval : ∀ (j : Nat) t v, Try.f3.params[j]? = some t → args[j]? = some v → Value.okWide Try.prog W .any base t v := hval0
  have hW' := hW
  obtain ⟨p, q, hA0, hV, rfl, hfz, hnd⟩ := hW
  have hA : DataW.TrodAll enc Try.prog W 0 (fun _ => true) true Try.f3.params.toList args.toList ds p := hA0
  rw [Try.params3] at hA hval
  obtain ⟨v0, vs0, d0, ds0, p0, q0, hargs, rfl, rfl, h0, r0⟩ := trodAll_cons hA
  obtain ⟨rfl, rfl, rfl⟩ := trodAll_nil r0
  obtain rfl : args = #[v0] := by cases args; simp_all
  obtain ⟨rfl, rfl⟩ := trodVars_none hV
  obtain ⟨a0, len0, cap0, rfl⟩ := okWide_slice Try.underlying22 (hval 0 22 v0 rfl rfl)
  have k0 := h0
  have lt0 : ∀ x ∈ p0, x.block < W.heap.size := by obtain ⟨m, hm⟩ := k0; exact DataW.trod_lt m _ _ _ hm
  obtain ⟨z0, w0⟩ : ∃ zs, Fls W a0 len0 cap0 zs := by
    obtain ⟨fuel, hf⟩ := h0
    obtain ⟨a, n, c, l, hcs, hi⟩ := fls_of_trod hf
    simp [Value.cells] at hcs
    obtain ⟨rfl, rfl, rfl⟩ := hcs
    exact ⟨_, hi⟩
  clear hA0 hval0
  refine (walk a0 len0 cap0 z0 W w0).mono fun e W' ⟨he, bel⟩ => ?_
  subst he
  exact ⟨_, rfl, _, _, _, [], _, [], hW', trodAll_mk1 (shut_bool Try.underlying4 _), (trodAll_cons_mk (Below.trod laidOut (by kernel_rfl) (of_decide_eq_true (by kernel_rfl)) k0 bel lt0) trodAll_mk0), rfl, bel.frame _, fun h => by cases h⟩
theorem over : Rows.fdsPlaysRow.holds Try.pinned (OpenSpec.ofChange Rows.fdsPlaysSpec) :=
  OpenClaim.holds_of_wide 3 Try.f3 rfl rfl rfl rfl rfl rfl rfl ⟨rfl, rfl, rfl, rfl, rfl⟩ rfl rfl rfl rfl rfl (by kernel_rfl) Try.func3 (by kernel_rfl)
    (of_decide_eq_true (by kernel_rfl)) (by unfold Func.isWrapper; first | (rw [if_pos (by decide +kernel)]; kernel_rfl) | (rw [if_neg (by decide +kernel)]; exact ⟨rfl, rfl⟩))
    (fun os started H enc _ => lifted os started H enc)
end Go.Proofs.Ytddglkejegmmmaa.fdsPlays
namespace Go.Proofs.Ytddglkejegmmmaa
/-- The statement. -/
theorem fdsPlays_holds : Rows.FdsPlaysSaid := fdsPlays.over
#print axioms fdsPlays_holds
end Go.Proofs.Ytddglkejegmmmaa
