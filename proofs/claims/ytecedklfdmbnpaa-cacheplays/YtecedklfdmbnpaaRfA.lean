/-
  The document's disk of layer 4 in memory, as a function of what the code's disk holds; what 'is' and Read return: no statement is proved here.
-/
import Derived.Test.YtecedklfdmbnpaaDskG
import Derived.Test.YtecedklfdmbnpaaPowD
namespace Go.Proofs.Ytecedklfdmbnpaa
open Go.ChangeShapes Go.WideShapes Go.ChangeAt Go.RowKit
set_option linter.unusedVariables false

/-- The document's disk at y: its supply at q; what is stable at s; what waits at t, 'v i' at sector i; R: the blocks that it takes. -/
structure Rk (w : World) (y q s t : Nat) (v : Nat → Value) (S : DS) (R : Nat → Prop) : Prop where
  c0 : w.cell? ⟨y, 0, none⟩ = some (.pointer (some ⟨q, 0, none⟩))
  c1 : w.cell? ⟨y, 1, none⟩ = some (.slice (some ⟨s, 0, none⟩) S.n S.n)
  c2 : w.cell? ⟨y, 2, none⟩ = some (.slice (some ⟨t, 0, none⟩) S.n S.n)
  c3 : w.cell? ⟨y, 3, none⟩ = some (.int .i64 S.wr)
  z3 : w.frozen? ⟨y, 3, none⟩ = false
  st : ∀ i : Nat, i < S.n → w.rangeAt s (i * 64) (S.st i).cs
  th : ∀ i : Nat, i < S.n → w.there s (i * 64) 64
  wc : ∀ i : Nat, i < S.n → w.cell? ⟨t, i, none⟩ = some (v i)
  wz : ∀ i : Nat, i < S.n → w.frozen? ⟨t, i, none⟩ = false
  wv : ∀ i : Nat, i < S.n → ∃ a c, v i = .slice a (S.wt i).length c ∧ Bls w a (S.wt i).length c (S.wt i) ∧ ∀ x : Addr, a = some x → R x.block ∧ x.block ≠ y ∧ x.block ≠ s ∧ x.block ≠ t
  ok : S.ok
  ry : R y
  rs : R s
  rt : R t
  ys : y ≠ s
  yt : y ≠ t
  st' : s ≠ t
  lt : ∀ x, R x → x < w.heap.size
  wn : ∀ i : Nat, i < S.n → ∀ L c, v i = .slice none L c → c = 0
theorem Rk.step {B R : Nat → Prop} {w w' : World} {y q s t : Nat} {v : Nat → Value} {S : DS} (h : Rk w y q s t v S R) (k : Stp B w w') (hB : ∀ x, R x → ¬ B x) : Rk w' y q s t v S R := by
  have by' := hB y h.ry; have bs := hB s h.rs; have bt := hB t h.rt
  refine ⟨k.cell h.c0 by', k.cell h.c1 by', k.cell h.c2 by', k.cell h.c3 by', by rw [k.frozen (p := ⟨y, 3, none⟩) (h.lt y h.ry) by']; exact h.z3, fun i hi => k.range (h.st i hi) bs, fun i hi => k.there (h.th i hi) bs,
    fun i hi => k.cell (h.wc i hi) bt, fun i hi => by rw [k.frozen (p := ⟨t, i, none⟩) (h.lt t h.rt) bt]; exact h.wz i hi, fun i hi => ?_, h.ok, h.ry, h.rs, h.rt, h.ys, h.yt, h.st', fun x hx => Nat.lt_of_lt_of_le (h.lt x hx) k.size, h.wn⟩
  obtain ⟨a, c, e, hb, hx⟩ := h.wv i hi
  exact ⟨a, c, e, hb.step k (fun x e => hB _ (hx x e).1), hx⟩
/-- The document's disk, whole. -/
def RD (w : World) (y q : Nat) (S : DS) (R : Nat → Prop) : Prop := ∃ s t v, Rk w y q s t v S R
theorem RD.step {B R : Nat → Prop} {w w' : World} {y q : Nat} {S : DS} (h : RD w y q S R) (k : Stp B w w') (hB : ∀ x, R x → ¬ B x) : RD w' y q S R := by
  obtain ⟨s, t, v, h⟩ := h; exact ⟨s, t, v, h.step k hB⟩
theorem RD.lt {R : Nat → Prop} {w : World} {y q : Nat} {S : DS} (h : RD w y q S R) : ∀ x, R x → x < w.heap.size := by obtain ⟨s, t, v, h⟩ := h; exact h.lt
theorem RD.ok {R : Nat → Prop} {w : World} {y q : Nat} {S : DS} (h : RD w y q S R) : S.ok := by obtain ⟨s, t, v, h⟩ := h; exact h.ok

theorem is_any {R : Nat → Prop} {w : World} {y q : Nat} {S : DS} (h : RD w y q S R) (i : Int) :
    Calls Try.prog 48 #[.pointer (some ⟨y, 0, none⟩), .int .i64 i] w fun e w' => e = .returned (.bool (decide (S.inn i))) ∧ w = w' := by
  obtain ⟨s, t, v, h⟩ := h
  have c1 := h.c1
  have n2 := h.ok.n2
  by_cases h0 : 0 ≤ i
  · by_cases h1 : i < S.n
    · have e : decide (S.inn i) = true := by simp [DS.inn, h0, h1]
      rw [e]; clear e
      go_enter Try.func48, Try.ntmps48
      go_wp2
      go_returns
      exact ⟨rfl, rfl⟩
    · have e : decide (S.inn i) = false := decide_eq_false (by unfold DS.inn; omega)
      rw [e]; clear e
      have h2 : ¬ (i < (S.n : Int)) := h1
      go_enter Try.func48, Try.ntmps48
      go_wp2
      go_returns
      exact ⟨rfl, rfl⟩
  · have e : decide (S.inn i) = false := decide_eq_false (by unfold DS.inn; omega)
    rw [e]; clear e
    go_enter Try.func48, Try.ntmps48
    go_wp2
    go_returns
    exact ⟨rfl, rfl⟩

set_option maxRecDepth 100000 in
set_option maxHeartbeats 1000000 in
theorem rread_any {R : Nat → Prop} {w : World} {y q : Nat} {S : DS} (h : RD w y q S R) (i : Int) (hwf : (Lit.int .i64 i).wf = true) :
    Calls Try.prog 21 #[.pointer (some ⟨y, 0, none⟩), .int .i64 i] w fun e w' => e = .returned (.tuple #[.agg (S.shown i).cs.toArray, .int .i64 (checkErr S i)]) ∧ Below w.heap.size w w' := by
  have sA : Stp (fun _ => False) w (w.alloc (.cells Blk.zero.cs.toArray 42)) := Stp.of_alloc _ _ _
  have h' := h.step sA (fun _ _ => id)
  have his := is_any h' i
  obtain ⟨s, t, v, hk⟩ := h
  have hk' := hk.step sA (fun _ _ => id)
  have n2 := hk.ok.n2
  have bz := fold36 Blk.zero
  by_cases hi : S.inn i
  · have e1 : checkErr S i = 0 := by unfold checkErr; rw [if_pos hi]
    have e2 : decide (S.inn i) = true := by simp [hi]
    rw [e2] at his
    rw [e1]
    obtain ⟨m, rfl⟩ := Int.eq_ofNat_of_zero_le hi.1
    have hm : m < S.n := by have := hi.2; omega
    have c2 := hk'.c2
    have wc := hk'.wc m hm
    obtain ⟨a, c, ev, hB, _⟩ := hk'.wv m hm
    rw [ev] at wc
    have i1 : (0 : Int) ≤ (m : Int) := by omega
    have i2 : (m : Int) < (S.n : Int) := by omega
    have c1 := hk'.c1
    have hst := hk'.st m hm
    clear e1 e2 h' hi
    have hcap := hB.cap
    have hle := hB.le
    unfold maxLen at hcap
    by_cases hn : 0 < (S.wt m).length
    · obtain ⟨b, o, rfl, hc⟩ := hB.cell hn
      have hr := hc ((S.wt m).length - 1) (by omega)
      have e3 : S.shown m = (S.wt m).getD ((S.wt m).length - 1) Blk.zero := by unfold DS.shown shownBy; rw [getLastD_getD _ _ hn]
      rw [e3]; clear e3 hc hB ev
      generalize (S.wt m).getD ((S.wt m).length - 1) Blk.zero = X at *
      generalize (S.wt m).length = L at *
      have q1 : IntKind.i64.wrap ((L : Int) - 1) = ((L - 1 : Nat) : Int) := by rw [IntKind.wrap_i64]; omega
      have q2 : ((L - 1 : Nat) : Int) < (L : Int) := by omega
      have q3 : (0 : Int) ≤ ((L - 1 : Nat) : Int) := by omega
      go_enter Try.func21, Try.ntmps21
      go_wp2_with (first
        | (refine at_alloc (by rfl) (by rfl) ?_)
        | (go_at_call 48; refine his.mono ?_; rintro e u ⟨rfl, rfl⟩)
        | (refine at_load (by rfl) _ (by rfl) b (o + (L - 1) * 64) (by rfl) X hr ?_)
        | (refine at_store (by rfl) _ _ (by rfl) _ _ (by rfl) X (by rfl) (there_made w) ?_; rw [setCells_made]))
      refine bodyPost_ret (ret2 Try.results21 rfl rfl (made_range w _ _)) rfl ⟨rfl, by go_grown⟩
    · have e3 : S.shown m = S.st m := shown_st (List.eq_nil_of_length_eq_zero (by omega))
      rw [e3]; clear e3
      have hn0 : (S.wt m).length = 0 := by omega
      rw [hn0] at wc
      clear hB ev hn hcap hle hn0 hk hk' n2 bz
      go_enter Try.func21, Try.ntmps21
      go_wp2_with (first
        | (refine at_alloc (by rfl) (by rfl) ?_)
        | (go_at_call 48; refine his.mono ?_; rintro e u ⟨rfl, rfl⟩)
        | (refine at_load (by rfl) _ (by rfl) s (m * 64) (by rfl) (S.st m) hst ?_)
        | (refine at_store (by rfl) _ _ (by rfl) _ _ (by rfl) (S.st m) (by rfl) (there_made w) ?_; rw [setCells_made]))
      refine bodyPost_ret (ret2 Try.results21 rfl rfl (made_range w _ _)) rfl ⟨rfl, by go_grown⟩
  · have e1 : checkErr S i = 2 := by unfold checkErr; rw [if_neg hi]
    have e2 : decide (S.inn i) = false := by simp [hi]
    rw [e2] at his
    rw [e1, shown_out hk.ok hi]
    clear e1 e2
    go_enter Try.func21, Try.ntmps21
    go_wp2_with (first
      | (refine at_alloc (by rfl) (by rfl) ?_)
      | (go_at_call 48; refine his.mono ?_; rintro e u ⟨rfl, rfl⟩)
      | (refine at_build (by rfl) (by rfl) ?_)
      | (refine at_store (by rfl) _ _ (by rfl) _ _ (by rfl) Blk.zero (by rfl) (there_made w) ?_; rw [setCells_made]))
    refine bodyPost_ret (ret2 Try.results21 rfl rfl (made_range w _ _)) rfl ⟨rfl, by go_grown⟩
end Go.Proofs.Ytecedklfdmbnpaa
