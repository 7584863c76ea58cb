/-
  The statement PowerPlays, proved: for every calls the law returns true, and what came in reads as it did; no condition.
-/
import Derived.Test.YtkdpkphjdahcjaaPowC
import Derived.Test.YtkdpkphjdahcjaaBaseA
namespace Go.Proofs.Ytkdpkphjdahcjaa.powerPlays
open Go.ChangeShapes Go.WideShapes Go.ChangeAt Go.RowKit
set_option linter.unusedVariables false

/-- The document's supply that stands for the code's. -/
def ref (p : PS) : RS := ⟨if p.lim then p.left else -1, p.used, p.gone⟩
/-- In bounds, behind k calls at most. -/
def okAt (p : PS) (k : Nat) : Prop := 0 ≤ p.left ∧ p.left ≤ 9223372036854775807 ∧ 0 ≤ p.used ∧ p.used ≤ k
theorem okAt.ok {p : PS} {k : Nat} (h : okAt p k) (hk : k ≤ 100) : p.ok := by unfold okAt at h; unfold PS.ok; omega
theorem okAt.rok {p : PS} {k : Nat} (h : okAt p k) (hk : k ≤ 100) : (ref p).ok := by
  unfold okAt at h; unfold RS.ok ref; simp only; split <;> omega
theorem ref_limit (p : PS) (n : Int) : (ref p).limit n = ref (p.limit n) := by
  unfold RS.limit PS.limit; split <;> simp [ref]
theorem ref_restore (p : PS) : (ref p).restore = ref p.restore := by simp [ref, RS.restore, PS.restore]
theorem ref_down {p : PS} {k : Nat} (h : okAt p k) : (ref p).down = p.down := by
  unfold RS.down PS.down ref
  cases p.lim <;> simp
theorem ref_err {p : PS} {k : Nat} (h : okAt p k) : (ref p).useErr = p.useErr := by unfold RS.useErr PS.useErr; rw [ref_down h]
theorem ref_use {p : PS} {k : Nat} (h : okAt p k) : (ref p).use = ref p.use := by
  unfold RS.use PS.use PS.useErr
  rw [ref_down h]
  unfold okAt at h
  cases hd : p.down
  · have hz : p.lim = true → ¬ p.left = 0 := fun hl e => by unfold PS.down at hd; rw [hl, e] at hd; simp at hd
    cases hl : p.lim
    · simp [ref, PS.reckon, hl]
    · have := hz hl
      have : 0 < p.left := by omega
      simp [ref, PS.reckon, hl, this]
  · simp [ref, PS.reckon]
theorem ok_limit {p : PS} {k : Nat} (h : okAt p k) (n : Int) (hn : n ≤ 9223372036854775807) : okAt (p.limit n) (k + 1) := by
  unfold okAt at *; unfold PS.limit; split <;> (try simp only) <;> omega
theorem ok_restore {p : PS} {k : Nat} (h : okAt p k) : okAt p.restore (k + 1) := by
  unfold okAt at *; unfold PS.restore; simp only; omega
theorem ok_use {p : PS} {k : Nat} (h : okAt p k) : okAt p.use (k + 1) := by
  unfold PS.use PS.useErr
  cases hd : p.down
  · have hz : p.lim = true → ¬ p.left = 0 := fun hl e => by unfold PS.down at hd; rw [hl, e] at hd; simp at hd
    unfold okAt at *
    cases hl : p.lim
    · simp [PS.reckon, hl]; omega
    · have := hz hl
      simp [PS.reckon, hl]; omega
  · unfold okAt at *; simp [PS.reckon]; omega
theorem fresh_ref : RS.fresh = ref PS.fresh := rfl
theorem fresh_ok : okAt PS.fresh 0 := by unfold okAt; decide

/-- What stands at a round's head. -/
structure Inv (w wr : World) (gx gy : Nat) (k : Nat) (p : PS) : Prop where
  step : Step [gx, gy] w wr
  pw : Pw wr gx p
  rw : Rw wr gy (ref p)
  ok : okAt p k

set_option maxHeartbeats 1000000 in
theorem walk (a0 : Option Addr) (n0 c0 : Nat) (l : List (Int × Int)) (w : World) (w0 : Prs w a0 n0 c0 l) :
    Calls Try.prog 3 #[.slice a0 n0 c0] w fun e w' => e = .returned (.bool true) ∧ Below w.heap.size w w' := by
  have hle := w0.le
  have hcap := w0.cap
  have hlen := w0.len
  unfold maxLen at hcap
  go_enter Try.func3, Try.ntmps3
  go_wp2_with fail
  refine (pnew_any _).mono ?_
  rintro e w1 ⟨rfl, b1, p1, s1⟩
  go_wp2_with fail
  refine (rnew_any _).mono ?_
  rintro e w2 ⟨rfl, b2, r2, s2⟩
  obtain ⟨gx, hgx⟩ : ∃ gx, gx = w.heap.size := ⟨_, rfl⟩
  obtain ⟨gy, hgy⟩ : ∃ gy, gy = w1.heap.size := ⟨_, rfl⟩
  rw [← hgx, ← hgy]
  have start : Inv w w2 gx gy 0 PS.fresh := by
    subst hgx; subst hgy
    exact ⟨((step_below b1 _).next (step_below b2 []) (fun _ h => by cases h)), p1.step (step_below b2 []) (by simp), r2, fresh_ok⟩
  have hxy : gx < gy := by omega
  have hwx : w.heap.size ≤ gx := by omega
  clear b1 b2 p1 r2 s1 s2 hgx hgy
  go_wp2_with fail
  go_loopw [5] (fun i wr => ∃ (k : Nat) (p : PS), k ≤ n0 ∧ k ≤ 100 ∧ i = .int .i64 k ∧ Inv w wr gx gy k p) (fun i _ => 100 - (intOf i).toNat)
  case atStart => exact ⟨0, _, Nat.zero_le _, Nat.zero_le _, rfl, start⟩
  case round =>
    clear start
    obtain ⟨k, p, hk, hk8, rfl, hI⟩ := hrel
    have hT : Below w.heap.size w wr := hI.step.below (Nat.le_refl _) (by intro x hx; simp at hx; omega)
    by_cases hlt : k < n0 ∧ k < 100
    · obtain ⟨hlt1, hlt2⟩ := hlt
      have hL := w0.later hT
      obtain ⟨b, o, rfl, hc⟩ := hL.cell (by omega)
      obtain ⟨e1, e2⟩ := hc k hlt1
      obtain ⟨f1, f2⟩ := hL.range hlt1
      have hbl : b < w.heap.size := w0.lt (by omega)
      generalize (l.getD k (0, 0)).1 = d at *
      generalize (l.getD k (0, 0)).2 = N at *
      clear hc hL
      go_wp2_with fail
      refine (among_any d 7 _ (by omega) (by omega)).mono ?_
      rintro e u ⟨rfl, rfl⟩
      have hm := among_lt d 7 (by omega)
      generalize among d 7 = m at *
      have hN := bounds_i64 f2
      by_cases h5 : m = 5
      · subst h5
        have hP := hI.pw
        have hR := hI.rw
        have hok := hI.ok
        have hS : ∀ w', Step [gx, gy] wr w' → (Step [gx, gy] wr w' ∧ w'.cell? ⟨b, o + k * 2 + 1, none⟩ = some (.int .i64 N)) := fun w' h => ⟨h, h.cell e2 (by simp; omega)⟩
        go_wp2_with fail
        go_region_held3 (fun w' => Step [gx, gy] wr w' ∧ w'.cell? ⟨b, o + k * 2 + 1, none⟩ = some (.int .i64 N))
          (first | assumption | exact hS _ (Step.refl _ _).drew | exact hS _ (Step.next (And.left (by assumption)) b9 (by simp)) | exact hS _ (Step.next (And.left (by assumption)) b10 (by simp)))
          (first
          | (go_at_call 9; refine (plimit_any gx p N _ hP.drew).mono ?_; rintro e u9 ⟨rfl, b9, p9⟩)
          | (go_at_call 10; refine (rlimit_any gy (ref p) N _ (hR.drew.step b9 (by simp; omega))).mono ?_; rintro e u10 ⟨rfl, b10, r10⟩))
        have hJ : Inv w u10 gx gy (k + 1) (p.limit N) := by
          refine ⟨hI.step.trans (And.left (by assumption)), p9.step b10 (by simp; omega), ?_, ok_limit hok N (by omega)⟩
          rw [← ref_limit]; exact r10
        clear b9 p9 b10 r10 hS hP hR
        have hP := hJ.pw
        have hR := hJ.rw
        have r1 := hR.c1
        have r2 := hR.c2
        unfold ref at r1 r2
        clear hI hok
        generalize hq : p.limit N = q at *
        clear hq
        have hS2 : ∀ w', Step [] u10 w' → (Step [] u10 w' ∧ w'.cell? ⟨gy, 1, none⟩ = some (.int .i64 q.used) ∧ w'.cell? ⟨gy, 2, none⟩ = some (.bool q.gone)) := fun w' h => ⟨h, h.cell r1 (by simp), h.cell r2 (by simp)⟩
        have HJ : Hid (Inv w u10 gx gy (k + 1) q) := hJ
        clear hJ
        go_wp2_with fail
        go_region_held3 (fun w' => Step [] u10 w' ∧ w'.cell? ⟨gy, 1, none⟩ = some (.int .i64 q.used) ∧ w'.cell? ⟨gy, 2, none⟩ = some (.bool q.gone))
          (first | assumption | exact hS2 _ (Step.refl _ _).drew)
          (first
          | (go_at_call 15; refine (pgone_any gx q _ (hP.step (And.left (by assumption)) (by simp))).mono ?_; rintro e v ⟨rfl, rfl⟩)
          | (go_at_call 16; refine (pused_any gx q _ (hP.step (And.left (by assumption)) (by simp))).mono ?_; rintro e v ⟨rfl, rfl⟩))
        have hJ := HJ.out
        have hK : Inv w u10.drew gx gy (k + 1) q := ⟨hJ.step.drew, hJ.pw.drew, hJ.rw.drew, hJ.ok⟩
        clear hS2 HJ hJ hP hR r1 r2
        go_wp2_with fail
        go_roundw
        case rel => exact ⟨k + 1, q, by omega, by omega, by go_num, hK⟩
        case measure => simp [intOf]; omega
      · by_cases h6 : m = 6
        · subst h6
          have hP := hI.pw
          have hR := hI.rw
          have hok := hI.ok
          go_wp2_with fail
          refine (prestore_any gx p _ hP).mono ?_
          rintro e u9 ⟨rfl, b9, p9⟩
          go_wp2_with fail
          refine (rrestore_any gy (ref p) _ (hR.step b9 (by simp; omega))).mono ?_
          rintro e u10 ⟨rfl, b10, r10⟩
          have hJ : Inv w u10 gx gy (k + 1) p.restore := by
            refine ⟨(hI.step.next b9 (by simp)).next b10 (by simp), p9.step b10 (by simp; omega), ?_, ok_restore hok⟩
            rw [← ref_restore]; exact r10
          clear b9 p9 b10 r10 hP hR
          have hP := hJ.pw
          have hR := hJ.rw
          have r1 := hR.c1
          have r2 := hR.c2
          unfold ref at r1 r2
          clear hI hok
          generalize hq : p.restore = q at *
          clear hq
          have hS2 : ∀ w', Step [] u10 w' → (Step [] u10 w' ∧ w'.cell? ⟨gy, 1, none⟩ = some (.int .i64 q.used) ∧ w'.cell? ⟨gy, 2, none⟩ = some (.bool q.gone)) := fun w' h => ⟨h, h.cell r1 (by simp), h.cell r2 (by simp)⟩
          have HJ : Hid (Inv w u10 gx gy (k + 1) q) := hJ
          clear hJ
          go_wp2_with fail
          go_region_held3 (fun w' => Step [] u10 w' ∧ w'.cell? ⟨gy, 1, none⟩ = some (.int .i64 q.used) ∧ w'.cell? ⟨gy, 2, none⟩ = some (.bool q.gone))
            (first | assumption | exact hS2 _ (Step.refl _ _).drew)
            (first
            | (go_at_call 15; refine (pgone_any gx q _ (hP.step (And.left (by assumption)) (by simp))).mono ?_; rintro e v ⟨rfl, rfl⟩)
            | (go_at_call 16; refine (pused_any gx q _ (hP.step (And.left (by assumption)) (by simp))).mono ?_; rintro e v ⟨rfl, rfl⟩))
          have hJ := HJ.out
          have hK : Inv w u10.drew gx gy (k + 1) q := ⟨hJ.step.drew, hJ.pw.drew, hJ.rw.drew, hJ.ok⟩
          clear hS2 HJ hJ hP hR r1 r2
          go_wp2_with fail
          go_roundw
          case rel => exact ⟨k + 1, q, by omega, by omega, by go_num, hK⟩
          case measure => simp [intOf]; omega
        · have hP := hI.pw
          have hR := hI.rw
          have hok := hI.ok
          have h5' : ¬ (m : Int) = 5 := by omega
          have h6' : ¬ (m : Int) = 6 := by omega
          go_wp2_with fail
          refine (puse_any gx p _ hP (hok.ok hk8)).mono ?_
          rintro e u9 ⟨rfl, b9, p9⟩
          go_wp2_with fail
          refine (ruse_any gy (ref p) _ (hR.step b9 (by simp; omega)) (hok.rok hk8)).mono ?_
          rintro e u10 ⟨rfl, b10, r10⟩
          rw [ref_err hok]
          have hJ : Inv w u10 gx gy (k + 1) p.use := by
            refine ⟨(hI.step.next b9 (by simp)).next b10 (by simp), p9.step b10 (by simp; omega), ?_, ok_use hok⟩
            rw [← ref_use hok]; exact r10
          clear b9 p9 b10 r10 hP hR
          have hP := hJ.pw
          have hR := hJ.rw
          have r1 := hR.c1
          have r2 := hR.c2
          unfold ref at r1 r2
          clear hI hok
          generalize hq : p.use = q at *
          clear hq
          have hS2 : ∀ w', Step [] u10 w' → (Step [] u10 w' ∧ w'.cell? ⟨gy, 1, none⟩ = some (.int .i64 q.used) ∧ w'.cell? ⟨gy, 2, none⟩ = some (.bool q.gone)) := fun w' h => ⟨h, h.cell r1 (by simp), h.cell r2 (by simp)⟩
          have HJ : Hid (Inv w u10 gx gy (k + 1) q) := hJ
          clear hJ
          go_wp2_with fail
          go_region_held3 (fun w' => Step [] u10 w' ∧ w'.cell? ⟨gy, 1, none⟩ = some (.int .i64 q.used) ∧ w'.cell? ⟨gy, 2, none⟩ = some (.bool q.gone))
            (first | assumption | exact hS2 _ (Step.refl _ _).drew)
            (first
            | (go_at_call 15; refine (pgone_any gx q _ (hP.step (And.left (by assumption)) (by simp))).mono ?_; rintro e v ⟨rfl, rfl⟩)
            | (go_at_call 16; refine (pused_any gx q _ (hP.step (And.left (by assumption)) (by simp))).mono ?_; rintro e v ⟨rfl, rfl⟩))
          have hJ := HJ.out
          have hK : Inv w u10.drew gx gy (k + 1) q := ⟨hJ.step.drew, hJ.pw.drew, hJ.rw.drew, hJ.ok⟩
          clear hS2 HJ hJ hP hR r1 r2
          go_wp2_with fail
          go_roundw
          case rel => exact ⟨k + 1, q, by omega, by omega, by go_num, hK⟩
          case measure => simp [intOf]; omega
    · have hlt' : ¬ (k < n0) ∨ (k < n0 ∧ ¬ k < 100) := by omega
      clear hlt
      rcases hlt' with hlt | ⟨hlt, hlt8⟩
      all_goals
        go_wp2_with fail
        refine (works_any wr).mono ?_
        rintro e u3 ⟨rfl, hT3⟩
        go_wp2
        go_returns
        exact ⟨rfl, bnext hT hT3 (Nat.le_refl _)⟩

theorem own : ownKnob Try.prog.godebug = none := by kernel_rfl
theorem laidOut : laidOutB Try.prog = true := by kernel_rfl
set_option maxRecDepth 100000 in
theorem lifted (os : Os) (started : os.Started) (H : Type) (enc : TypeId × Value → H) :
    ReturnsInHanded {} Try.checked os 3 .any (Rows.powerPlaysSpec.pre6 enc Try.prog Try.f3 Rows.powerPlaysRow.domain false) (Rows.powerPlaysSpec.post enc Try.prog Try.f3 false true false false) := by
  refine returnsInHanded_of_change (C := Try.checked) own started (by kernel_rfl) Try.func3
    (ChangeSpec.witness6 (enc := enc) (C := Try.checked) false ⟨#[], #[.slice none 0 0], []⟩ 8 (by kernel_rfl) (by kernel_rfl) (by kernel_rfl) (by kernel_rfl)) ?_
  intro W base args ds gs before hval0 hW hcnd _
  have hval : ∀ (j : Nat) t v, Try.f3.params[j]? = some t → args[j]? = some v → Value.okWide Try.prog W .any base t v := hval0
  have hW' := hW
  obtain ⟨p, q, hA0, hV, rfl, hfz, hnd⟩ := hW
  have hA : DataW.TrodAll enc Try.prog W 0 (fun _ => true) true Try.f3.params.toList args.toList ds p := hA0
  rw [Try.params3] at hA hval
  obtain ⟨v0, vs0, d0, ds0, p0, q0, hargs, rfl, rfl, h0, r0⟩ := trodAll_cons hA
  obtain ⟨rfl, rfl, rfl⟩ := trodAll_nil r0
  obtain rfl : args = #[v0] := by cases args; simp_all
  obtain ⟨rfl, rfl⟩ := trodVars_none hV
  obtain ⟨a0, len0, cap0, rfl⟩ := okWide_slice Try.underlying22 (hval 0 22 v0 rfl rfl)
  have k0 := h0
  have lt0 : ∀ x ∈ p0, x.block < W.heap.size := by obtain ⟨m, hm⟩ := k0; exact DataW.trod_lt m _ _ _ hm
  obtain ⟨z0, w0⟩ : ∃ zs, Prs W a0 len0 cap0 zs := by
    obtain ⟨fuel, hf⟩ := h0
    rcases Go.Deep.open_slice_pairs Try.underlying22 Try.underlying29 (by kernel_rfl) rfl rfl (by kernel_rfl) (by kernel_rfl) hf with ⟨hcs, _⟩ | ⟨x, l, c, m, n, V0, V1, D0, D1, P0, P1, hcs, _, hl, hm, hmm, _, hcell⟩
    · simp [Value.cells] at hcs
      obtain ⟨rfl, rfl, rfl⟩ := hcs
      exact ⟨[], Prs.nilSlice _⟩
    · simp [Value.cells] at hcs
      obtain ⟨rfl, rfl, rfl⟩ := hcs
      refine prs_open hl hm fun i hi => ?_
      have hi2 : i < m := by rw [hmm]; simp; omega
      obtain ⟨e0, e1, e2, e3⟩ := hcell i hi2
      obtain ⟨x0, y0, _, y1⟩ := DataW.trod_int Try.underlying3 e2
      obtain ⟨x1, y2, _, y3⟩ := DataW.trod_int Try.underlying3 e3
      injection y0 with y0; injection y2 with y2
      exact ⟨x0, x1, by rw [e0, y0], by rw [e1, y2], y1, y3⟩
  clear hA0 hval0
  refine (walk a0 len0 cap0 z0 W w0).mono fun e W' ⟨he, bel⟩ => ?_
  subst he
  exact ⟨_, rfl, _, _, _, [], _, [], hW', trodAll_mk1 (shut_bool Try.underlying4 _), (trodAll_cons_mk (Below.trod laidOut (by kernel_rfl) (of_decide_eq_true (by kernel_rfl)) k0 bel lt0) trodAll_mk0), rfl, bel.frame _, fun h => by cases h⟩
theorem over : Rows.powerPlaysRow.holds Try.pinned (OpenSpec.ofChange Rows.powerPlaysSpec) :=
  OpenClaim.holds_of_wide 3 Try.f3 rfl rfl rfl rfl rfl rfl rfl ⟨rfl, rfl, rfl, rfl, rfl⟩ rfl rfl rfl rfl rfl (by kernel_rfl) Try.func3 (by kernel_rfl)
    (of_decide_eq_true (by kernel_rfl)) (by unfold Func.isWrapper; first | (rw [if_pos (by decide +kernel)]; kernel_rfl) | (rw [if_neg (by decide +kernel)]; exact ⟨rfl, rfl⟩))
    (fun os started H enc _ => lifted os started H enc)
end Go.Proofs.Ytkdpkphjdahcjaa.powerPlays
namespace Go.Proofs.Ytkdpkphjdahcjaa
/-- The statement. -/
theorem powerPlays_holds : Rows.PowerPlaysSaid := powerPlays.over
#print axioms powerPlays_holds
end Go.Proofs.Ytkdpkphjdahcjaa
