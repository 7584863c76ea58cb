/-
  The statement NvramKeeps, proved: for every list of numbers, number and byte the law returns true, where the order of the words' writes is laid as the program's text lays it (the card ties it); no other condition.
-/
import Derived.Test.YteaaipkfggnjgaaDoorNvE
import Derived.Test.YteaaipkfggnjgaaDoorBaseA
import Derived.Test.YteaaipkfggnjgaaDoorPlainI
import Derived.Test.YteaaipkfggnjgaaDoorCards
import Derived.Test.YteaaipkfggnjgaaDoorTie
import Derived.Deep.DeepHandedRow
import Derived.Lib.LaidTab
namespace Go.Proofs.YteaaipkfggnjgaaDoor.nvramKeeps
open Go.ChangeShapes Go.WideShapes Go.ChangeAt Go.RowKit
set_option linter.unusedVariables false

theorem or_bit8 : ∀ a, a < 256 → ∀ k, k < 8 → (a ||| 2 ^ k).testBit k = true ∧ ((a ||| 2 ^ k) &&& a = a) ∧ (a.testBit k = false → a ||| 2 ^ k ≠ a) := by decide +kernel
theorem and_255 : ∀ a, a < 256 → 255 &&& a = a := by decide +kernel
/-- A supply without an end. -/
structure Free (p : PS) (k : Nat) : Prop where
  lim : p.lim = false
  gone : p.gone = false
  left : 0 ≤ p.left ∧ p.left ≤ 9223372036854775807
  used : 0 ≤ p.used ∧ p.used ≤ k
theorem Free.mono {p : PS} {k m : Nat} (h : Free p k) (hm : k ≤ m) : Free p m := ⟨h.lim, h.gone, h.left, h.used.1, by have := h.used.2; omega⟩
theorem Free.okk {p : PS} {k j : Nat} (h : Free p k) (hk : k + j ≤ 1000000000000) : p.okk j := ⟨h.left.1, h.left.2, h.used.1, by have := h.used.2; omega⟩
theorem limit_ok {p : PS} {k m : Nat} (h : p.okk k) (hm : m < 5) : (p.limit (m : Int)).okk k := by
  obtain ⟨a, b, c, d⟩ := h
  unfold PS.limit; rw [if_neg (by omega)]
  exact ⟨by simp, by simp; omega, c, d⟩
theorem markP_ok {x : WS} {n k : Nat} {p : PS} (h : p.okk (k + 3)) : (markP x n p).okk k := by
  unfold markP; split
  · exact h.mono (by omega)
  · exact turn_ok h
theorem restore_free {p : PS} {k : Nat} (h : p.okk k) : Free p.restore (1000000000000 - k) := by
  obtain ⟨a, b, c, d⟩ := h
  unfold PS.restore
  exact ⟨rfl, rfl, by simp, c, by simp; omega⟩
theorem says_turn (y : WS) {gr : Nat} (h : gr < 256) : ((y.put1 gr).put0.put2).says = gr := says_put2 _ h
theorem right_turn (y : WS) (gr : Nat) : ((y.put1 gr).put0.put2).right = true := right_put2 _
theorem Free.err {p : PS} {k : Nat} (h : Free p k) : p.useErr = 0 := by unfold PS.useErr PS.down; rw [h.lim, h.gone]; rfl
theorem Free.use {p : PS} {k : Nat} (h : Free p k) : Free p.use (k + 1) := by
  have e := h.err
  unfold PS.use PS.reckon
  rw [e, h.lim]
  have := h.used
  simp only [if_true, Bool.false_eq_true, if_false]
  exact ⟨rfl, h.gone, h.left, by simp; omega, by simp; omega⟩
theorem Free.turn {p : PS} {k : Nat} (h : Free p k) (x : WS) (gr : Nat) : turnErr p = 0 ∧ x.turn gr p = (x.put1 gr).put0.put2 ∧ Free p.turn (k + 3) := by
  obtain ⟨h1, h2, h3⟩ := turn_d (x := x) (gr := gr) h.err h.use.err h.use.use.err
  exact ⟨h1, h2, by rw [h3]; exact h.use.use.use⟩
/-- Words that are right, with groups that there are. -/
def Good (x : WS) : Prop := x.right = true ∧ x.b < 256
theorem good_put2 (x : WS) (h : x.b < 256) : Good x.put2 := ⟨right_put2 x, h⟩
theorem Good.says {x : WS} (h : Good x) : x.says = x.b := by unfold WS.says; rw [h.1, if_pos rfl]; have := h.2; omega
theorem good_turn (x : WS) {gr : Nat} (h : gr < 256) : Good (x.put1 gr).put0.put2 := good_put2 _ h
theorem Good.mark {x : WS} {p : PS} {k n : Nat} (h : Good x) (hp : Free p k) (hn : n < 8) : Good (x.mark n p) ∧ Free (markP x n p) (k + 3) := by
  unfold WS.mark markP
  cases hm : x.says.testBit n
  · simp only [Bool.false_eq_true, if_false]
    obtain ⟨_, h2, h3⟩ := hp.turn x (x.says ||| 2 ^ n)
    rw [h2]
    exact ⟨good_turn x (or_lt _ (says_lt x) n hn), h3⟩
  · simp only [if_true]
    exact ⟨h, hp.mono (by omega)⟩
theorem says_dirty (y : WS) (h : y.b < 256) : y.says = y.b ∧ y.right = true ∨ y.says = 255 ∧ y.right = false := by
  unfold WS.says
  cases hr : y.right
  · right; exact ⟨rfl, rfl⟩
  · left; exact ⟨by simp; omega, rfl⟩
/-- What a Mark leaves, wherever the power goes. -/
theorem keeps {x : WS} (h : Good x) (n : Nat) (hn : n < 8) (p : PS) :
    (markErr x n p = 0 → (x.mark n p).says.testBit n = true) ∧ ((markErr x n p ≠ 0 ∧ (x.mark n p).right = true ∧ (x.mark n p).says ≠ x.b) ∨ (x.mark n p).says &&& x.b = x.b) := by
  have hs := h.says
  have hb := h.2
  obtain ⟨q1, q2, q3⟩ := or_bit8 x.b hb n hn
  have hol := or_lt x.b hb n hn
  unfold markErr WS.mark
  cases hm : x.says.testBit n
  · simp only [Bool.false_eq_true, if_false]
    rw [hs] at hm ⊢
    have q4 := q3 hm
    by_cases e0 : p.useErr = 0
    · by_cases e1 : p.use.useErr = 0
      · by_cases e2 : p.use.use.useErr = 0
        · obtain ⟨r1, r2, _⟩ := turn_d (x := x) (gr := x.b ||| 2 ^ n) e0 e1 e2
          rw [r1, r2, (good_turn x hol).says]
          exact ⟨fun _ => q1, .inr q2⟩
        · obtain ⟨r1, r2, _⟩ := turn_c (x := x) (gr := x.b ||| 2 ^ n) e0 e1 e2
          rw [r1, r2]
          refine ⟨fun e => absurd e e2, ?_⟩
          rcases says_dirty ((x.put1 (x.b ||| 2 ^ n)).put0) hol with ⟨a, b⟩ | ⟨a, b⟩
          · exact .inl ⟨e2, b, by rw [a]; exact q4⟩
          · exact .inr (by rw [a]; exact and_255 _ hb)
      · obtain ⟨r1, r2, _⟩ := turn_b (x := x) (gr := x.b ||| 2 ^ n) e0 e1
        rw [r1, r2]
        refine ⟨fun e => absurd e e1, ?_⟩
        rcases says_dirty (x.put1 (x.b ||| 2 ^ n)) hol with ⟨a, b⟩ | ⟨a, b⟩
        · exact .inl ⟨e1, b, by rw [a]; exact q4⟩
        · exact .inr (by rw [a]; exact and_255 _ hb)
    · obtain ⟨r1, r2, _⟩ := turn_a (x := x) (gr := x.b ||| 2 ^ n) e0
      rw [r1, r2]
      exact ⟨fun e => absurd e e0, .inr (by rw [hs, Nat.and_self])⟩
  · simp only [if_true]
    exact ⟨fun _ => hm, .inr (by rw [hs, Nat.and_self])⟩
theorem nnew_some (h : Nat) (w : World) :
    Calls Tryd.prog 7 #[.pointer (some ⟨h, 0, none⟩)] w fun e w' => e = .returned (.pointer (some ⟨w.heap.size, 0, none⟩)) ∧ Below w.heap.size w w' ∧ Ww w' w.heap.size ⟨0, 0, 0⟩ (some h) ∧ w'.heap.size = w.heap.size + 1 := nnew_any (some h) w

/-- The loop's head. -/
structure NK (w wr : World) (g h k : Nat) (x : WS) (p : PS) : Prop where
  W : Ww wr g x (some h)
  P : Sp wr (some h) p
  bel : Below w.heap.size w wr
  x : Good x
  p : Free p (3 * k + 3)
  ne : some h ≠ some g
  hg : w.heap.size ≤ g
  hh : w.heap.size ≤ h
theorem NK.next {w wr w' : World} {g h k : Nat} {x x' : WS} {p p' : PS} {m : Nat} (N : NK w wr g h k x p) (s : Step (g :: (some h).toList) wr w') (W : Ww w' g x' (some h)) (P : Sp w' (some h) p') (hx : Good x') (hp : Free p' (3 * m + 3)) : NK w w' g h m x' p' :=
  ⟨W, P, (((step_below N.bel (g :: (some h).toList)).trans s).below (Nat.le_refl _) (by have := N.hg; have := N.hh; simp; omega)), hx, hp, N.ne, N.hg, N.hh⟩
theorem NK.sl {w wr : World} {g h k : Nat} {x : WS} {p : PS} (N : NK w wr g h k x p) : ∀ y ∈ (some h).toList, y < wr.heap.size := by
  intro y hy; simp at hy; subst hy; exact Pw.lt N.P

set_option maxHeartbeats 1000000 in
theorem walk (a : Option Addr) (n c : Nat) (l : List Int) (g0 n0 : Int) (w : World) (hl : Ins w a n c l) (hg0 : (Lit.int .i64 g0).wf = true) (hn0 : (Lit.int .u8 n0).wf = true) (T : ∀ i, i < 3 → w.cell? ⟨0, i, none⟩ = some (.int .i64 ([1, 0, 2].getD i 0))) :
    Calls Tryd.prog 3 #[.slice a n c, .int .i64 g0, .int .u8 n0] w fun e w' => e = .returned (.bool true) ∧ Below w.heap.size w w' := by
  have ht : Tab w := ⟨T 0 (by decide), T 1 (by decide), T 2 (by decide)⟩
  have hnb := bounds_u8 hn0
  obtain ⟨nn, rfl⟩ := Int.eq_ofNat_of_zero_le (show 0 ≤ n0 by omega)
  have hnn : nn < 256 := by omega
  have hcap := hl.cap; have hle := hl.le; unfold maxLen at hcap
  clear T hg0 hn0 hnb
  go_enter Tryd.func3, Tryd.ntmps3
  go_wp2_with fail
  refine (nworks_any _ ht).mono ?_
  rintro e w1 ⟨rfl, b1⟩
  go_wp2_with fail
  refine (pnew_any _).mono ?_
  rintro e w2 ⟨rfl, b2, p2, s2⟩
  go_wp2_with fail
  refine (nnew_some _ _).mono ?_
  rintro e w3 ⟨rfl, b3, h3, s3⟩
  have k3 := bnext (bnext b1 b2 (Nat.le_refl _)) b3 (Nat.le_refl _)
  have fr : Free PS.fresh 0 := ⟨rfl, rfl, by decide, by decide⟩
  have q3 := Pw.step p2 (step_below b3 []) (by simp)
  have hgg : w.heap.size ≤ w2.heap.size := by have := b1.size; omega
  have hhh : w.heap.size ≤ w1.heap.size := b1.size
  have hne : some w1.heap.size ≠ some w2.heap.size := by intro e; injection e; omega
  have hlt3 : w1.heap.size < w3.heap.size := by omega
  clear b1 b2 b3 p2 s2 s3
  generalize w1.heap.size = h at *
  generalize w2.heap.size = g at *
  go_wp2_with fail
  refine (clear_any g _ (some h) PS.fresh _ h3 q3 (ht.later k3) (fr.okk (by omega)) hne (by simp; omega)).mono ?_
  rintro e w4 ⟨rfl, k4, h4, p4⟩
  obtain ⟨t1, t2, t3⟩ := fr.turn ⟨0, 0, 0⟩ 0
  rw [t1]
  rw [t2] at h4
  have start : NK w w4 g h 0 (((WS.put1 ⟨0, 0, 0⟩ 0).put0).put2) PS.fresh.turn := ⟨h4, p4, ((step_below k3 (g :: (some h).toList)).trans k4).below (Nat.le_refl _) (by simp; omega), good_turn _ (by omega), t3, hne, hgg, hhh⟩
  clear t1 t2 t3 h4 p4 k4 h3 q3 k3 fr hlt3
  generalize ((WS.put1 ⟨0, 0, 0⟩ 0).put0).put2 = x0 at *
  generalize PS.fresh.turn = p0 at *
  go_wp2_with fail
  go_loopw [9] (fun i wr => ∃ (k : Nat) (x : WS) (p : PS), k ≤ n ∧ k ≤ 20 ∧ i = .int .i64 k ∧ NK w wr g h k x p) (fun i _ => 20 - (intOf i).toNat)
  case atStart => exact ⟨0, _, _, Nat.zero_le _, Nat.zero_le _, rfl, start⟩
  case round =>
    clear start
    obtain ⟨k, x, p, hk, hk20, rfl, N⟩ := hrel
    by_cases hlt : k < n ∧ k < 20
    · obtain ⟨hlt1, hlt2⟩ := hlt
      obtain ⟨b, o, rfl, hc⟩ := (hl.step (Stp.of_below N.bel (fun _ => False)) (fun _ _ _ h => h)).cell (by omega)
      have hx := hc k hlt1
      have i1 : (0 : Int) ≤ (k : Int) := by omega
      have i2 : (k : Int) < (n : Int) := by omega
      clear hc
      generalize l.getD k 0 = y at *
      have hm := among_lt y 8 (by omega)
      have nx := N.x.mark (n := among y 8) N.p hm
      go_wp2_with (first
        | (go_at_call 10; refine (among_any y 8 _ (by omega) (by omega)).mono ?_; rintro e u ⟨rfl, rfl⟩)
        | (go_at_call 9; refine (mark_any g (among y 8) _ (some h) p _ N.W N.P (ht.later N.bel) (N.p.okk (by omega)) hm N.ne N.sl).mono ?_; rintro e w5 ⟨rfl, k5, h5, p5⟩))
      go_roundw
      case rel => exact ⟨k + 1, _, _, by omega, by omega, by go_num, N.next k5 h5 p5 nx.1 nx.2⟩
      case measure => simp [intOf]; omega
    · have hlt' : ¬ (k < n) ∨ (k < n ∧ ¬ k < 20) := by omega
      clear hlt
      have tm : (nn : Int).tmod 5 = ((nn % 5 : Nat) : Int) := by rw [Int.tmod_eq_emod_of_nonneg (by omega)]; omega
      have hm5 : nn % 5 < 5 := Nat.mod_lt _ (by omega)
      generalize nn % 5 = m at *
      have mg := among_lt g0 8 (by omega)
      generalize hgm : among g0 8 = gm at *
      have ok1 : (p.limit (m : Int)).okk 20 := limit_ok (N.p.okk (by omega)) hm5
      have KK : Hid _ := keeps N.x gm mg (p.limit (m : Int))
      have hl0 : limErr (m : Int) = 0 := by unfold limErr; rw [if_neg (by omega)]
      have hb8 := N.x.2
      rcases hlt' with hlt | ⟨hlt, hlt8⟩
      all_goals
        go_wp2_with fail
        refine (nsays_any g x (some h) _ N.W).mono ?_
        rintro e w5 ⟨rfl, b5⟩
        rw [N.x.says]
        go_wp2_with fail
        refine (plimit_any h p (m : Int) _ (Pw.step N.P (step_below b5 []) (by simp))).mono ?_
        rintro e w6 ⟨rfl, k6, p6⟩
        have k6' : Step [h] w w6 := (step_below (bnext N.bel b5 (Nat.le_refl _)) _).trans k6
        have h6 : Ww w6 g x (some h) := (N.W.later b5).step k6 (by simp; intro e; exact N.ne (by rw [e]))
        have t6 := ht.step k6' (by have := ht.lt; have := N.hh; simp; omega)
        have hp0 : ∀ y ∈ (some h).toList, y < w6.heap.size := by intro y hy; simp at hy; subst hy; exact p6.lt
        go_wp2_with (first
          | (go_at_call 10; refine (among_any g0 8 _ (by omega) (by omega)).mono ?_; rintro e u ⟨rfl, rfl⟩; rw [hgm])
          | (go_at_call 9; refine (mark_any g gm x (some h) (p.limit (m : Int)) _ h6 p6 t6 (ok1.mono (by omega)) mg N.ne hp0).mono ?_; rintro e w7 ⟨rfl, k7, h7, p7⟩))
        have okP : (markP x gm (p.limit (m : Int))).okk 10 := markP_ok (ok1.mono (by omega))
        have F1 := restore_free okP
        clear okP
        generalize x.mark gm (p.limit (m : Int)) = y at *
        generalize markErr x gm (p.limit (m : Int)) = E at *
        generalize markP x gm (p.limit (m : Int)) = P1 at *
        have k7' : Step [g, h] w w7 := (k6'.mono (fun y hy => .inl (by simp at hy; simp [hy]))).trans k7
        go_wp2_with fail
        refine (nsays_any g y (some h) _ h7).mono ?_
        rintro e w8 ⟨rfl, b8⟩
        go_wp2_with fail
        refine (prestore_any h P1 _ (Pw.step p7 (step_below b8 []) (by simp))).mono ?_
        rintro e w9 ⟨rfl, k9, p9⟩
        have h9 : Ww w9 g y (some h) := (h7.later b8).step k9 (by simp; intro e; exact N.ne (by rw [e]))
        have k9' : Step [g, h] w w9 := (k7'.trans (step_below b8 _)).next k9 (fun y hy => .inl (by simp at hy; simp [hy]))
        have hB : ∀ x ∈ [g, h], w.heap.size ≤ x := by have := N.hg; have := N.hh; simp; omega
        have t9 := ht.step k9' (by have := ht.lt; have := N.hh; have := N.hg; simp; omega)
        have sy := says_lt y
        have ay := and_nat (a := y.says) (b := x.b) (by omega) (by omega)
        have hgo : ((E = 0 ∧ y.says.testBit gm = true) ∨ (¬ E = 0 ∧ y.right = true ∧ ¬ y.says = x.b) ∨ (¬ E = 0 ∧ y.right = false) ∨ (¬ E = 0 ∧ y.right = true ∧ y.says = x.b)) ∧ ((¬ E = 0 ∧ y.right = true ∧ ¬ y.says = x.b) ∨ y.says &&& x.b = x.b) := by
          refine ⟨?_, KK.out.2⟩
          by_cases e0 : E = 0
          · exact .inl ⟨e0, KK.out.1 e0⟩
          · cases hr : y.right
            · exact .inr (.inr (.inl ⟨e0, rfl⟩))
            · by_cases e1 : y.says = x.b
              · exact .inr (.inr (.inr ⟨e0, rfl, e1⟩))
              · exact .inr (.inl ⟨e0, rfl, e1⟩)
        clear KK k6 k6' k7 k7' h7 p7 h6 t6 hp0 b5 b8 k9 p6
        have last : Hid _ := hgo.2
        obtain ⟨ways, _⟩ := hgo
        rcases ways with ⟨e0, e1⟩ | ⟨e0, e1, e2⟩ | ⟨e0, e1⟩ | ⟨e0, e1, e2⟩
        rotate_left
        · have f1 : (E != 0) = true := by simp [e0]
          have f2 : (E == 0) = false := by simp [e0]
          have f3 : ((y.says : Int) != (x.b : Int)) = true := by simp; omega
          rw [e1]
          clear e0 e2 last
          go_wp2_with fail
          go_returns
          exact ⟨rfl, k9'.below (Nat.le_refl _) hB⟩
        all_goals
          have an : y.says &&& x.b = x.b := by
            rcases last.out with ⟨a1, a2, a3⟩ | a
            · first | exact absurd e0 a1 | exact absurd e2 a3 | (rw [e1] at a2; cases a2)
            · exact a
          rw [an] at ay
          clear last an
        · have f1 : (E != 0) = true := by simp [e0]
          have f2 : (E == 0) = false := by simp [e0]
          rw [e1]
          clear e0
          go_wp2_with fail
          obtain ⟨wX, hX, pX, tX, kX, eX⟩ : ∃ v, Ww v g y (some h) ∧ Sp v (some h) P1.restore ∧ Tab v ∧ Step [g, h] w v ∧ v = w9 := ⟨w9, h9, p9, t9, k9', rfl⟩
          subst eX
          have sX : ∀ y ∈ (some h).toList, y < wX.heap.size := by intro y hy; simp at hy; subst hy; exact Pw.lt pX
          refine (clear_any g y (some h) P1.restore _ hX pX tX (F1.okk (by omega)) N.ne sX).mono ?_
          rintro e v1 ⟨rfl, m1, h1, p1⟩
          obtain ⟨t1, t2, t3⟩ := F1.turn y 0
          rw [t1]
          rw [t2] at h1
          have hs1 := says_turn y (gr := 0) (by omega)
          have hr1 := right_turn y 0
          generalize (y.put1 0).put0.put2 = y1 at *
          generalize P1.restore.turn = P2 at *
          clear t1 t2
          go_wp2_with fail
          refine (nsays_any g y1 (some h) _ h1).mono ?_
          rintro e v2 ⟨rfl, m2⟩
          rw [hs1, hr1]
          have kv : Step [g, h] w v2 := (kX.trans m1).trans (step_below m2 _)
          have tv := ht.step kv (by have := ht.lt; have := N.hh; have := N.hg; simp; omega)
          have sv : ∀ y ∈ (some h).toList, y < v2.heap.size := by intro y hy; simp at hy; subst hy; exact Pw.lt (Pw.step p1 (step_below m2 []) (by simp))
          go_wp2_with fail
          refine (keep_any g nn y1 (some h) P2 _ (h1.later m2) (Sp.step p1 (step_below m2 []) (by simp)) tv (t3.okk (by omega)) (by omega) N.ne sv).mono ?_
          rintro e v3 ⟨rfl, m3, h3, p3⟩
          obtain ⟨t1, t2, _⟩ := t3.turn y1 (nn % 256)
          rw [t1]
          rw [t2, Nat.mod_eq_of_lt hnn] at h3
          have hs3 := says_turn y1 hnn
          have hr3 := right_turn y1 nn
          generalize (y1.put1 nn).put0.put2 = y3 at *
          clear t1 t2
          go_wp2_with fail
          refine (nsays_any g y3 (some h) _ h3).mono ?_
          rintro e v4 ⟨rfl, m4⟩
          rw [hs3, hr3]
          go_wp2_with fail
          go_returns
          exact ⟨rfl, ((kv.trans m3).trans (step_below m4 _)).below (Nat.le_refl _) hB⟩
        · have f1 : (E != 0) = true := by simp [e0]
          have f2 : (E == 0) = false := by simp [e0]
          rw [e1, e2]
          rw [e2] at ay sy
          clear e0 e2
          go_wp2_with fail
          obtain ⟨wX, hX, pX, tX, kX, eX⟩ : ∃ v, Ww v g y (some h) ∧ Sp v (some h) P1.restore ∧ Tab v ∧ Step [g, h] w v ∧ v = w9 := ⟨w9, h9, p9, t9, k9', rfl⟩
          subst eX
          have sX : ∀ y ∈ (some h).toList, y < wX.heap.size := by intro y hy; simp at hy; subst hy; exact Pw.lt pX
          refine (clear_any g y (some h) P1.restore _ hX pX tX (F1.okk (by omega)) N.ne sX).mono ?_
          rintro e v1 ⟨rfl, m1, h1, p1⟩
          obtain ⟨t1, t2, t3⟩ := F1.turn y 0
          rw [t1]
          rw [t2] at h1
          have hs1 := says_turn y (gr := 0) (by omega)
          have hr1 := right_turn y 0
          generalize (y.put1 0).put0.put2 = y1 at *
          generalize P1.restore.turn = P2 at *
          clear t1 t2
          go_wp2_with fail
          refine (nsays_any g y1 (some h) _ h1).mono ?_
          rintro e v2 ⟨rfl, m2⟩
          rw [hs1, hr1]
          have kv : Step [g, h] w v2 := (kX.trans m1).trans (step_below m2 _)
          have tv := ht.step kv (by have := ht.lt; have := N.hh; have := N.hg; simp; omega)
          have sv : ∀ y ∈ (some h).toList, y < v2.heap.size := by intro y hy; simp at hy; subst hy; exact Pw.lt (Pw.step p1 (step_below m2 []) (by simp))
          go_wp2_with fail
          refine (keep_any g nn y1 (some h) P2 _ (h1.later m2) (Sp.step p1 (step_below m2 []) (by simp)) tv (t3.okk (by omega)) (by omega) N.ne sv).mono ?_
          rintro e v3 ⟨rfl, m3, h3, p3⟩
          obtain ⟨t1, t2, _⟩ := t3.turn y1 (nn % 256)
          rw [t1]
          rw [t2, Nat.mod_eq_of_lt hnn] at h3
          have hs3 := says_turn y1 hnn
          have hr3 := right_turn y1 nn
          generalize (y1.put1 nn).put0.put2 = y3 at *
          clear t1 t2
          go_wp2_with fail
          refine (nsays_any g y3 (some h) _ h3).mono ?_
          rintro e v4 ⟨rfl, m4⟩
          rw [hs3, hr3]
          go_wp2_with fail
          go_returns
          exact ⟨rfl, ((kv.trans m3).trans (step_below m4 _)).below (Nat.le_refl _) hB⟩
        · subst e0
          go_wp2_with (first
            | (go_at_call 10; refine (among_any g0 8 _ (by omega) (by omega)).mono ?_; rintro e u ⟨rfl, rfl⟩; rw [hgm])
            | (go_at_call 14; refine (marked_any g gm y (some h) _ h9 mg).mono ?_; rintro e u ⟨rfl, b10⟩; rw [e1]))
          obtain ⟨wX, hX, pX, tX, kX, eX⟩ : ∃ v, Ww v g y (some h) ∧ Sp v (some h) P1.restore ∧ Tab v ∧ Step [g, h] w v ∧ v = u := ⟨u, h9.later b10, Pw.step p9 (step_below b10 []) (by simp), t9.later b10, k9'.trans (step_below b10 _), rfl⟩
          subst eX
          have sX : ∀ y ∈ (some h).toList, y < wX.heap.size := by intro y hy; simp at hy; subst hy; exact Pw.lt pX
          refine (clear_any g y (some h) P1.restore _ hX pX tX (F1.okk (by omega)) N.ne sX).mono ?_
          rintro e v1 ⟨rfl, m1, h1, p1⟩
          obtain ⟨t1, t2, t3⟩ := F1.turn y 0
          rw [t1]
          rw [t2] at h1
          have hs1 := says_turn y (gr := 0) (by omega)
          have hr1 := right_turn y 0
          generalize (y.put1 0).put0.put2 = y1 at *
          generalize P1.restore.turn = P2 at *
          clear t1 t2
          go_wp2_with fail
          refine (nsays_any g y1 (some h) _ h1).mono ?_
          rintro e v2 ⟨rfl, m2⟩
          rw [hs1, hr1]
          have kv : Step [g, h] w v2 := (kX.trans m1).trans (step_below m2 _)
          have tv := ht.step kv (by have := ht.lt; have := N.hh; have := N.hg; simp; omega)
          have sv : ∀ y ∈ (some h).toList, y < v2.heap.size := by intro y hy; simp at hy; subst hy; exact Pw.lt (Pw.step p1 (step_below m2 []) (by simp))
          go_wp2_with fail
          refine (keep_any g nn y1 (some h) P2 _ (h1.later m2) (Sp.step p1 (step_below m2 []) (by simp)) tv (t3.okk (by omega)) (by omega) N.ne sv).mono ?_
          rintro e v3 ⟨rfl, m3, h3, p3⟩
          obtain ⟨t1, t2, _⟩ := t3.turn y1 (nn % 256)
          rw [t1]
          rw [t2, Nat.mod_eq_of_lt hnn] at h3
          have hs3 := says_turn y1 hnn
          have hr3 := right_turn y1 nn
          generalize (y1.put1 nn).put0.put2 = y3 at *
          clear t1 t2
          go_wp2_with fail
          refine (nsays_any g y3 (some h) _ h3).mono ?_
          rintro e v4 ⟨rfl, m4⟩
          rw [hs3, hr3]
          go_wp2_with fail
          go_returns
          exact ⟨rfl, ((kv.trans m3).trans (step_below m4 _)).below (Nat.le_refl _) hB⟩
theorem own : ownKnob Tryd.prog.godebug = none := by kernel_rfl
theorem laidOut : laidOutB Tryd.prog = true := by kernel_rfl
theorem gTab : Tryd.prog.globalNamed "scupper/nvram.turnOrder" = some 0 := by kernel_rfl
theorem gTabType : (Tryd.prog.globals[0]?).map (·.type) = some 51 := by kernel_rfl
theorem cellsA : Tryd.prog.cellsOf 51 = 3 := by kernel_rfl
theorem cellsE : Tryd.prog.cellsOf 3 = 1 := by kernel_rfl
theorem table {W : World} (h : laidMetH Tryd.prog Rows.nvramKeepsRow.laid W) : Lib.TabIs Tryd.prog W "scupper/nvram.turnOrder" .i64 [1, 0, 2] :=
  Lib.tabIs_of_head (rest := []) gTab gTabType Tryd.underlying51 Tryd.underlying3 cellsE cellsA h
set_option maxRecDepth 100000 in
theorem contract (H : Type) (enc : TypeId × Value → H) (W : World) (base : Nat) (args : Array Value) (ds gs : List (DataW H)) (before : List MemPlace)
    (hval : ∀ (j : Nat) t v, Tryd.f3.params[j]? = some t → args[j]? = some v → Value.okWide Tryd.prog W .any base t v)
    (hW : DataW.Whole enc Tryd.prog Tryd.f3.params.toList Rows.nvramKeepsSpec.vars false W args.toList ds gs before) (hL : laidMetH Tryd.prog Rows.nvramKeepsRow.laid W) :
    Calls Tryd.prog 3 args W fun e W' => ∃ v, e = .returned v ∧ Rows.nvramKeepsSpec.post enc Tryd.prog Tryd.f3 false true false false W args v W' := by
  have hW' := hW
  obtain ⟨p, q, hA0, hV, rfl, hfz, hnd⟩ := hW
  have hA : DataW.TrodAll enc Tryd.prog W 0 (fun _ => true) true Tryd.f3.params.toList args.toList ds p := hA0
  rw [Tryd.params3] at hA hval
  obtain ⟨v0, vs0, d0, ds0, p0, q0, hargs, rfl, rfl, h0, r0⟩ := trodAll_cons hA
  obtain ⟨v1, vs1, d1, ds1, p1, q1, rfl, rfl, rfl, h1, r1⟩ := trodAll_cons r0
  obtain ⟨v2, vs2, d2, ds2, p2, q2, rfl, rfl, rfl, h2, r2⟩ := trodAll_cons r1
  obtain ⟨rfl, rfl, rfl⟩ := trodAll_nil r2
  obtain rfl : args = #[v0, v1, v2] := by cases args; simp_all
  obtain ⟨rfl, rfl⟩ := trodVars_none hV
  obtain ⟨a0, len0, cap0, rfl⟩ := okWide_slice Tryd.underlying22 (hval 0 22 v0 rfl rfl)
  have k0 := h0
  have lt0 : ∀ x ∈ p0, x.block < W.heap.size := by obtain ⟨m, hm⟩ := k0; exact DataW.trod_lt m _ _ _ hm
  obtain ⟨z0, w0⟩ : ∃ zs, Ins W a0 len0 cap0 zs := by
    obtain ⟨fuel, hf⟩ := h0
    obtain ⟨a, n, c, l, hcs, hi⟩ := ins_of_trod hf
    simp [Value.cells] at hcs
    obtain ⟨rfl, rfl, rfl⟩ := hcs
    exact ⟨_, hi⟩
  obtain ⟨a1, rfl, rfl, rfl, w1⟩ := open_int Tryd.underlying3 (hval 1 3 v1 rfl rfl) h1
  obtain ⟨a2, rfl, rfl, rfl, w2⟩ := open_int Tryd.underlying5 (hval 2 5 v2 rfl rfl) h2
  clear hA0
  refine (walk a0 len0 cap0 z0 a1 a2 W w0 w1 w2 (fun i hi => (table hL).cell gTab i hi)).mono fun e W' ⟨he, bel⟩ => ?_
  subst he
  exact ⟨_, rfl, _, _, _, [], _, [], hW', trodAll_mk1 (shut_bool Tryd.underlying4 _), (trodAll_cons_mk (Below.trod laidOut (by kernel_rfl) (of_decide_eq_true (by kernel_rfl)) k0 bel lt0) (trodAll_cons_mk (shut_int Tryd.underlying3 w1) (trodAll_cons_mk (shut_int Tryd.underlying5 w2) trodAll_mk0))), rfl, bel.frame _, fun h => by cases h⟩
theorem laid_met (os : Os) : laidMet Tryd.prog Rows.nvramKeepsRow.laid (({ World.holding Tryd.prog os ⟨#[], #[], []⟩ with heap := (World.holding Tryd.prog os ⟨#[], #[], []⟩).heap.modify 0 fun | .cells _ t frozen => .cells #[.int .i64 1, .int .i64 0, .int .i64 2] t frozen | o => o } : World).forCall (fun _ _ => 0) ⟨#[], #[.slice none 0 0, .int .i64 0, .int .u8 0], []⟩).memory :=
  laidMet_of_run' 8 (by kernel_rfl) (by kernel_rfl)
theorem reads (os : Os) {H : Type} (enc : TypeId × Value → H) : ∃ places, DataW.whole enc Tryd.prog (({ World.holding Tryd.prog os ⟨#[], #[], []⟩ with heap := (World.holding Tryd.prog os ⟨#[], #[], []⟩).heap.modify 0 fun | .cells _ t frozen => .cells #[.int .i64 1, .int .i64 0, .int .i64 2] t frozen | o => o } : World).forCall (fun _ _ => 0) ⟨#[], #[.slice none 0 0, .int .i64 0, .int .u8 0], []⟩).memory Tryd.f3.params.toList Rows.nvramKeepsSpec.vars false (#[.slice none 0 0, .int .i64 0, .int .u8 0] : Array Value).toList 8 = some ([.nil, .lit (.int .i64 0), .lit (.int .u8 0)], [], places) :=
  ⟨[], by kernel_rfl⟩
set_option maxRecDepth 100000 in
theorem lifted (os : Os) (started : os.Started) (H : Type) (enc : TypeId × Value → H) (F : Stop.Interp) :
    ReturnsInHanded {} Tryd.checked os 3 .any ((OpenSpec.ofChange Rows.nvramKeepsSpec).preRow enc Tryd.prog Tryd.f3 Rows.nvramKeepsRow.domain false Rows.nvramKeepsRow.laid) (((OpenSpec.ofChange Rows.nvramKeepsSpec).at F).post enc Tryd.prog Tryd.f3 false true false false) := by
  obtain ⟨places, hx⟩ := reads os enc
  refine returnsInHanded_of_row (C := Tryd.checked) (s := OpenSpec.ofChange Rows.nvramKeepsSpec) own started (by kernel_rfl) Tryd.func3
    (witness_row_at (enc := enc) (C := Tryd.checked) false ({ World.holding Tryd.prog os ⟨#[], #[], []⟩ with heap := (World.holding Tryd.prog os ⟨#[], #[], []⟩).heap.modify 0 fun | .cells _ t frozen => .cells #[.int .i64 1, .int .i64 0, .int .i64 2] t frozen | o => o } : World) #[.slice none 0 0, .int .i64 0, .int .u8 0] rfl (by kernel_rfl) (by kernel_rfl) (by kernel_rfl)
      (OpenSpec.preRow_of_cond 8 hx (by kernel_rfl) (fun k hk => by cases hk) (by kernel_rfl) (laid_met os))) ?_
  intro W base args ds gs before hval hW _ _ _ hL _ _
  exact contract H enc W base args ds gs before hval hW hL
theorem said : Rows.NvramKeepsSaid :=
  OpenClaim.holds_of_cond 3 Tryd.f3 rfl rfl rfl rfl rfl rfl rfl ⟨rfl, rfl, rfl, rfl, rfl⟩ rfl rfl rfl rfl rfl (by kernel_rfl) Tryd.func3 (by kernel_rfl)
    (of_decide_eq_true (by kernel_rfl)) (by unfold Func.isWrapper; first | (rw [if_pos (by decide +kernel)]; kernel_rfl) | (rw [if_neg (by decide +kernel)]; exact ⟨rfl, rfl⟩))
    (fun os started H enc _ F => by rw [OpenClaim.pre_eq_preRow]; exact lifted os started H enc F)
theorem plain (f : FuncId) (fn : Func) (hf : Tryd.pinned.checked.prog.funcNamed "scupper/scupperlaw05.NvramKeeps" = some f) (hfn : Tryd.pinned.checked.prog.funcs[f]? = some fn) :
    false = Tryd.pinned.checked.prog.looks [] ∧ ∀ (j : Nat) t, fn.params[j]? = some t → Tryd.pinned.checked.prog.wantsStandIn t = false := by
  obtain rfl : f = 3 := Option.some.inj ((show Tryd.prog.funcNamed "scupper/scupperlaw05.NvramKeeps" = some 3 by kernel_rfl).symm.trans hf) |>.symm
  obtain rfl : fn = Tryd.f3 := (Option.some.inj (Tryd.func3.symm.trans hfn)).symm
  refine ⟨by kernel_rfl, fun j t ht => ?_⟩
  rw [Tryd.params3] at ht
  have hm := Array.mem_of_getElem? ht
  simp at hm
  rcases hm with rfl | rfl | rfl
  · exact (show Tryd.prog.wantsStandIn 22 = false by kernel_rfl)
  · exact (show Tryd.prog.wantsStandIn 3 = false by kernel_rfl)
  · exact (show Tryd.prog.wantsStandIn 5 = false by kernel_rfl)
end Go.Proofs.YteaaipkfggnjgaaDoor.nvramKeeps
namespace Go.Proofs.YteaaipkfggnjgaaDoor
/-- The statement. -/
theorem nvramKeeps_holds : Rows.NvramKeepsCardSaid :=
  Claim7.holds_tied_plain_at .later [] _ _ _ _ nvramKeeps.said (fun _ h => by cases h) (by kernel_rfl) (fun _ h => by cases h) nvramKeeps_row_tie rfl ⟨rfl, rfl⟩ (by kernel_rfl) rfl nvramKeeps.plain (by kernel_rfl)
#print axioms nvramKeeps_holds
end Go.Proofs.YteaaipkfggnjgaaDoor
