/-
  Texts of my own, joined: no statement is proved here.
-/
import Derived.Laws.MakeOwn
import Derived.Deep.DeepCutAuto
import Derived.Deep.CutBlock
import Derived.OwnWalk
import Derived.Maps.AppendAt
import Derived.Deep.RegionLaw
import Derived.Test.YtgdnhkdfcjpdiaaGreatDoorRows
import Derived.OpenShut
import Derived.Test.YtgdnhkdfcjpdiaaGreatDoorJan
set_option linter.unusedSimpArgs false
set_option linter.unusedVariables false
namespace Go.Proofs.YtgdnhkdfcjpdiaaGreatDoor
open Go.ChangeShapes Go.WideShapes Go.ChangeAt Go.RowKit
structure Rk (w : World) (y q s t : Nat) (v : Nat → Value) (S : DS) (R : Nat → Prop) : Prop where
  c0 : w.cell? ⟨y, 0, none⟩ = some (.pointer (some ⟨q, 0, none⟩))
  c1 : w.cell? ⟨y, 1, none⟩ = some (.slice (some ⟨s, 0, none⟩) S.n S.n)
  c2 : w.cell? ⟨y, 2, none⟩ = some (.slice (some ⟨t, 0, none⟩) S.n S.n)
  c3 : w.cell? ⟨y, 3, none⟩ = some (.int .i64 S.wr)
  z3 : w.frozen? ⟨y, 3, none⟩ = false
  st : ∀ i : Nat, i < S.n → w.rangeAt s (i * 64) (S.st i).cs
  th : ∀ i : Nat, i < S.n → w.there s (i * 64) 64
  wc : ∀ i : Nat, i < S.n → w.cell? ⟨t, i, none⟩ = some (v i)
  wz : ∀ i : Nat, i < S.n → w.frozen? ⟨t, i, none⟩ = false
  wv : ∀ i : Nat, i < S.n → ∃ a c, v i = .slice a (S.wt i).length c ∧ Bls w a (S.wt i).length c (S.wt i) ∧ ∀ x : Addr, a = some x → R x.block ∧ x.block ≠ y ∧ x.block ≠ s ∧ x.block ≠ t
  ok : S.ok
  ry : R y
  rs : R s
  rt : R t
  ys : y ≠ s
  yt : y ≠ t
  st' : s ≠ t
  lt : ∀ x, R x → x < w.heap.size
  wn : ∀ i : Nat, i < S.n → ∀ L c, v i = .slice none L c → c = 0
theorem Rk.step {B R : Nat → Prop} {w w' : World} {y q s t : Nat} {v : Nat → Value} {S : DS} (h : Rk w y q s t v S R) (k : Stp B w w') (hB : ∀ x, R x → ¬ B x) : Rk w' y q s t v S R := by
  have by' := hB y h.ry; have bs := hB s h.rs; have bt := hB t h.rt
  refine ⟨k.cell h.c0 by', k.cell h.c1 by', k.cell h.c2 by', k.cell h.c3 by', by rw [k.frozen (p := ⟨y, 3, none⟩) (h.lt y h.ry) by']; exact h.z3, fun i hi => k.range (h.st i hi) bs, fun i hi => k.there (h.th i hi) bs,
    fun i hi => k.cell (h.wc i hi) bt, fun i hi => by rw [k.frozen (p := ⟨t, i, none⟩) (h.lt t h.rt) bt]; exact h.wz i hi, fun i hi => ?_, h.ok, h.ry, h.rs, h.rt, h.ys, h.yt, h.st', fun x hx => Nat.lt_of_lt_of_le (h.lt x hx) k.size, h.wn⟩
  obtain ⟨a, c, e, hb, hx⟩ := h.wv i hi
  exact ⟨a, c, e, hb.step k (fun x e => hB _ (hx x e).1), hx⟩
def RD (w : World) (y q : Nat) (S : DS) (R : Nat → Prop) : Prop := ∃ s t v, Rk w y q s t v S R
theorem RD.step {B R : Nat → Prop} {w w' : World} {y q : Nat} {S : DS} (h : RD w y q S R) (k : Stp B w w') (hB : ∀ x, R x → ¬ B x) : RD w' y q S R := by
  obtain ⟨s, t, v, h⟩ := h; exact ⟨s, t, v, h.step k hB⟩
theorem RD.lt {R : Nat → Prop} {w : World} {y q : Nat} {S : DS} (h : RD w y q S R) : ∀ x, R x → x < w.heap.size := by obtain ⟨s, t, v, h⟩ := h; exact h.lt
theorem RD.ok {R : Nat → Prop} {w : World} {y q : Nat} {S : DS} (h : RD w y q S R) : S.ok := by obtain ⟨s, t, v, h⟩ := h; exact h.ok
theorem is_any {R : Nat → Prop} {w : World} {y q : Nat} {S : DS} (h : RD w y q S R) (i : Int) :
    Calls Tryz.prog 82 #[.pointer (some ⟨y, 0, none⟩), .int .i64 i] w fun e w' => e = .returned (.bool (decide (S.inn i))) ∧ w = w' := by
  obtain ⟨s, t, v, h⟩ := h
  have c1 := h.c1
  have n2 := h.ok.n2
  by_cases h0 : 0 ≤ i
  · by_cases h1 : i < S.n
    · have e : decide (S.inn i) = true := by simp [DS.inn, h0, h1]
      rw [e]; clear e
      go_enter Tryz.func82, Tryz.ntmps82
      go_wp2
      go_returns
      exact ⟨rfl, rfl⟩
    · have e : decide (S.inn i) = false := decide_eq_false (by unfold DS.inn; omega)
      rw [e]; clear e
      have h2 : ¬ (i < (S.n : Int)) := h1
      go_enter Tryz.func82, Tryz.ntmps82
      go_wp2
      go_returns
      exact ⟨rfl, rfl⟩
  · have e : decide (S.inn i) = false := decide_eq_false (by unfold DS.inn; omega)
    rw [e]; clear e
    go_enter Tryz.func82, Tryz.ntmps82
    go_wp2
    go_returns
    exact ⟨rfl, rfl⟩
set_option maxRecDepth 100000 in
set_option maxHeartbeats 1000000 in
theorem rread_any {R : Nat → Prop} {w : World} {y q : Nat} {S : DS} (h : RD w y q S R) (i : Int) (hwf : (Lit.int .i64 i).wf = true) :
    Calls Tryz.prog 53 #[.pointer (some ⟨y, 0, none⟩), .int .i64 i] w fun e w' => e = .returned (.tuple #[.agg (S.shown i).cs.toArray, .int .i64 (checkErr S i)]) ∧ Below w.heap.size w w' := by
  have sA : Stp (fun _ => False) w (w.alloc (.cells Blk.zero.cs.toArray 88)) := Stp.of_alloc _ _ _
  have h' := h.step sA (fun _ _ => id)
  have his := is_any h' i
  obtain ⟨s, t, v, hk⟩ := h
  have hk' := hk.step sA (fun _ _ => id)
  have n2 := hk.ok.n2
  have bz := fold36 Blk.zero
  by_cases hi : S.inn i
  · have e1 : checkErr S i = 0 := by unfold checkErr; rw [if_pos hi]
    have e2 : decide (S.inn i) = true := by simp [hi]
    rw [e2] at his
    rw [e1]
    obtain ⟨m, rfl⟩ := Int.eq_ofNat_of_zero_le hi.1
    have hm : m < S.n := by have := hi.2; omega
    have c2 := hk'.c2
    have wc := hk'.wc m hm
    obtain ⟨a, c, ev, hB, _⟩ := hk'.wv m hm
    rw [ev] at wc
    have i1 : (0 : Int) ≤ (m : Int) := by omega
    have i2 : (m : Int) < (S.n : Int) := by omega
    have c1 := hk'.c1
    have hst := hk'.st m hm
    clear e1 e2 h' hi
    have hcap := hB.cap
    have hle := hB.le
    unfold maxLen at hcap
    by_cases hn : 0 < (S.wt m).length
    · obtain ⟨b, o, rfl, hc⟩ := hB.cell hn
      have hr := hc ((S.wt m).length - 1) (by omega)
      have e3 : S.shown m = (S.wt m).getD ((S.wt m).length - 1) Blk.zero := by unfold DS.shown shownBy; rw [getLastD_getD _ _ hn]
      rw [e3]; clear e3 hc hB ev
      generalize (S.wt m).getD ((S.wt m).length - 1) Blk.zero = X at *
      generalize (S.wt m).length = L at *
      have q1 : IntKind.i64.wrap ((L : Int) - 1) = ((L - 1 : Nat) : Int) := by rw [IntKind.wrap_i64]; omega
      have q2 : ((L - 1 : Nat) : Int) < (L : Int) := by omega
      have q3 : (0 : Int) ≤ ((L - 1 : Nat) : Int) := by omega
      go_enter Tryz.func53, Tryz.ntmps53
      go_wp2_with (first
        | (refine at_alloc (by rfl) (by rfl) ?_)
        | (go_at_call 82; refine his.mono ?_; rintro e u ⟨rfl, rfl⟩)
        | (refine at_load (by rfl) _ (by rfl) b (o + (L - 1) * 64) (by rfl) X hr ?_)
        | (refine at_store (by rfl) _ _ (by rfl) _ _ (by rfl) X (by rfl) (there_made w) ?_; rw [setCells_made]))
      refine bodyPost_ret (ret2 Tryz.results53 rfl rfl (made_range w _ _)) rfl ⟨rfl, by go_grown⟩
    · have e3 : S.shown m = S.st m := shown_st (List.eq_nil_of_length_eq_zero (by omega))
      rw [e3]; clear e3
      have hn0 : (S.wt m).length = 0 := by omega
      rw [hn0] at wc
      clear hB ev hn hcap hle hn0 hk hk' n2 bz
      go_enter Tryz.func53, Tryz.ntmps53
      go_wp2_with (first
        | (refine at_alloc (by rfl) (by rfl) ?_)
        | (go_at_call 82; refine his.mono ?_; rintro e u ⟨rfl, rfl⟩)
        | (refine at_load (by rfl) _ (by rfl) s (m * 64) (by rfl) (S.st m) hst ?_)
        | (refine at_store (by rfl) _ _ (by rfl) _ _ (by rfl) (S.st m) (by rfl) (there_made w) ?_; rw [setCells_made]))
      refine bodyPost_ret (ret2 Tryz.results53 rfl rfl (made_range w _ _)) rfl ⟨rfl, by go_grown⟩
  · have e1 : checkErr S i = 2 := by unfold checkErr; rw [if_neg hi]
    have e2 : decide (S.inn i) = false := by simp [hi]
    rw [e2] at his
    rw [e1, shown_out hk.ok hi]
    clear e1 e2
    go_enter Tryz.func53, Tryz.ntmps53
    go_wp2_with (first
      | (refine at_alloc (by rfl) (by rfl) ?_)
      | (go_at_call 82; refine his.mono ?_; rintro e u ⟨rfl, rfl⟩)
      | (refine at_build (by rfl) (by rfl) ?_)
      | (refine at_store (by rfl) _ _ (by rfl) _ _ (by rfl) Blk.zero (by rfl) (there_made w) ?_; rw [setCells_made]))
    refine bodyPost_ret (ret2 Tryz.results53 rfl rfl (made_range w _ _)) rfl ⟨rfl, by go_grown⟩
def DS.setSt (S : DS) (i : Int) (b : Blk) : DS := { S with st := fun k => if k = i then b else S.st k }
def DS.clr (S : DS) (i : Int) : DS := { S with wt := fun k => if k = i then [] else S.wt k }
theorem settle_two (S : DS) (i : Int) (b : Blk) : S.settle i b = (S.setSt i b).clr i := rfl
theorem Rk.setSt {R : Nat → Prop} {w : World} {y q s t : Nat} {v : Nat → Value} {S : DS} (h : Rk w y q s t v S R) {i : Nat} (hi : i < S.n) (b : Blk) : Rk (w.setCells s (i * 64) b.cs) y q s t v (S.setSt i b) R := by
  have k : Stp (fun x => x = s) w (w.setCells s (i * 64) b.cs) := Stp.of_setCells w s (i * 64) b.cs (.inl rfl)
  refine ⟨k.cell h.c0 h.ys, k.cell h.c1 h.ys, k.cell h.c2 h.ys, k.cell h.c3 h.ys, by rw [k.frozen (p := ⟨y, 3, none⟩) (h.lt y h.ry) h.ys]; exact h.z3, fun j hj => ?_, fun j hj => World.there_setCells (h.th j hj) _ _ _,
    fun j hj => k.cell (h.wc j hj) (fun e => h.st' e.symm), fun j hj => by rw [k.frozen (p := ⟨t, j, none⟩) (h.lt t h.rt) (fun e => h.st' e.symm)]; exact h.wz j hj, fun j hj => ?_, ?_, h.ry, h.rs, h.rt, h.ys, h.yt, h.st', fun x hx => Nat.lt_of_lt_of_le (h.lt x hx) k.size, h.wn⟩
  · show (w.setCells s (i * 64) b.cs).rangeAt s (j * 64) ((if (j : Int) = (i : Int) then b else S.st j)).cs
    by_cases e : j = i
    · subst e; rw [if_pos rfl]
      exact World.rangeAt_setCells_same w s (j * 64) b.cs (by rw [b.cs_len]; exact h.th j hj)
    · rw [if_neg (by omega)]
      exact World.rangeAt_setCells_apart (h.st j hj) s (i * 64) b.cs (.inr (by rw [b.cs_len, (S.st j).cs_len]; omega))
  · obtain ⟨a, c, e, hb, hx⟩ := h.wv j hj
    exact ⟨a, c, e, hb.step k (fun x ex => (hx x ex).2.2.1), hx⟩
  · refine ⟨h.ok.n1, h.ok.n2, fun k hk => ?_, h.ok.wt⟩
    show (if k = (i : Int) then b else S.st k) = Blk.zero
    rw [if_neg (fun e => hk (by subst e; exact ⟨by omega, by show (i : Int) < S.n; omega⟩))]
    exact h.ok.st k hk
theorem Rk.clr {R : Nat → Prop} {w : World} {y q s t : Nat} {v : Nat → Value} {S : DS} (h : Rk w y q s t v S R) {i : Nat} (hi : i < S.n) : Rk (w.setCell ⟨t, i, none⟩ (.slice none 0 0)) y q s t (fun j => if j = i then .slice none 0 0 else v j) (S.clr i) R := by
  have k : Stp (fun x => x = t) w (w.setCell ⟨t, i, none⟩ (.slice none 0 0)) := (Stp.refl (fun x => x = t) w).setCell (p := ⟨t, i, none⟩) (.inl rfl) _
  refine ⟨k.cell h.c0 h.yt, k.cell h.c1 h.yt, k.cell h.c2 h.yt, k.cell h.c3 h.yt, by rw [k.frozen (p := ⟨y, 3, none⟩) (h.lt y h.ry) h.yt]; exact h.z3, fun j hj => k.range (h.st j hj) h.st', fun j hj => k.there (h.th j hj) h.st',
    fun j hj => ?_, fun j hj => by simpa using h.wz j hj, fun j hj => ?_, ?_, h.ry, h.rs, h.rt, h.ys, h.yt, h.st', fun x hx => Nat.lt_of_lt_of_le (h.lt x hx) k.size, fun j hj L c e => ?_⟩
  · by_cases e : j = i
    · subst e; simp only [if_true]; exact World.cell?_setCell_same _ _ _ (h.wc j hj)
    · simp only [if_neg e]; rw [World.cell?_setCell_other _ _ _ _ (fun e' => e (by injection e' with _ e'; exact e'.symm))]; exact h.wc j hj
  · by_cases e : j = i
    · subst e
      refine ⟨none, 0, ?_, ?_, fun x ex => by cases ex⟩
      · show (if j = j then Value.slice none 0 0 else v j) = .slice none (if (j : Int) = (j : Int) then [] else S.wt j).length 0
        rw [if_pos rfl, if_pos rfl]; rfl
      · show Bls _ none (if (j : Int) = (j : Int) then [] else S.wt j).length 0 (if (j : Int) = (j : Int) then [] else S.wt j)
        rw [if_pos rfl]; exact Bls.nilSlice _
    · obtain ⟨a, c, ev, hb, hx⟩ := h.wv j hj
      have e' : ¬ (j : Int) = (i : Int) := by omega
      refine ⟨a, c, ?_, ?_, hx⟩
      · show (if j = i then Value.slice none 0 0 else v j) = .slice a (if (j : Int) = (i : Int) then [] else S.wt j).length c
        rw [if_neg e, if_neg e']; exact ev
      · show Bls _ a (if (j : Int) = (i : Int) then [] else S.wt j).length c (if (j : Int) = (i : Int) then [] else S.wt j)
        rw [if_neg e']; exact hb.step k (fun x ex => (hx x ex).2.2.2)
  · refine ⟨h.ok.n1, h.ok.n2, h.ok.st, fun k hk => ?_⟩
    show (if k = (i : Int) then [] else S.wt k) = []
    split
    · rfl
    · exact h.ok.wt k hk
  · by_cases e' : j = i
    · rw [if_pos e'] at e; injection e with _ _ e3; exact e3.symm
    · rw [if_neg e'] at e; exact h.wn j hj L c e
theorem Rw.stp {F : Nat → Prop} {w w' : World} {g : Nat} {p : RS} (h : Rw w g p) (k : Stp F w w') (hg : ¬ F g) : Rw w' g p :=
  ⟨k.cell h.c0 hg, k.cell h.c1 hg, k.cell h.c2 hg, by rw [k.frozen (p := ⟨g, 0, none⟩) h.lt hg]; exact h.f0, by rw [k.frozen (p := ⟨g, 1, none⟩) h.lt hg]; exact h.f1, by rw [k.frozen (p := ⟨g, 2, none⟩) h.lt hg]; exact h.f2⟩
def lftD (k : Nat) : Int → Bool := fun j => !(decide (0 ≤ j ∧ j < k))
theorem part_zero (S : DS) (h : Int → Blk) : S.part h (lftD 0) = S := by
  cases S with
  | mk n st wt wr =>
    simp only [DS.part, DS.mk.injEq, true_and, and_true]
    refine ⟨funext fun j => ?_, funext fun j => ?_⟩ <;>
    · have : lftD 0 j = true := by unfold lftD; simp; omega
      rw [if_pos this]
theorem part_next (S : DS) (h : Int → Blk) (k : Nat) : (((S.part h (lftD k)).setSt k (h k)).clr k) = S.part h (lftD (k + 1)) := by
  have e1 : ∀ j : Int, j ≠ k → lftD (k + 1) j = lftD k j := fun j hj => by
    unfold lftD
    congr 1
    rw [decide_eq_decide]; push_cast; constructor <;> rintro ⟨a, b⟩ <;> exact ⟨a, by omega⟩
  have e2 : lftD (k + 1) k = false := by unfold lftD; simp; omega
  unfold DS.clr DS.setSt DS.part
  simp only [DS.mk.injEq, true_and, and_true]
  refine ⟨funext fun j => ?_, funext fun j => ?_⟩
  · by_cases e : j = k
    · subst e; rw [if_pos rfl, if_neg (by rw [e2]; simp)]
    · rw [if_neg e, e1 j e]
  · by_cases e : j = k
    · subst e; rw [if_pos rfl, if_neg (by rw [e2]; simp)]
    · rw [if_neg e, e1 j e]
theorem part_all {S : DS} (ok : S.ok) (h : Int → Blk) (ho : ∀ j, ¬ S.inn j → h j = Blk.zero) : S.part h (lftD S.n) = { S with st := h, wt := fun _ => [] } := by
  unfold DS.part
  simp only [DS.mk.injEq, true_and, and_true]
  refine ⟨funext fun j => ?_, funext fun j => ?_⟩
  · by_cases e : S.inn j
    · rw [if_neg (by unfold lftD; unfold DS.inn at e; simp; omega)]
    · rw [if_pos (by unfold lftD; unfold DS.inn at e; simp; omega), ok.st j e, ho j e]
  · by_cases e : S.inn j
    · rw [if_neg (by unfold lftD; unfold DS.inn at e; simp; omega)]
    · rw [if_pos (by unfold lftD; unfold DS.inn at e; simp; omega), ok.wt j e]
def stOf (l : List Blk) (j : Int) : Blk := if 0 ≤ j then l.getD j.toNat Blk.zero else Blk.zero
theorem stOf_nat (l : List Blk) (k : Nat) : stOf l k = l.getD k Blk.zero := by unfold stOf; rw [if_pos (by omega), Int.toNat_natCast]
def DS.load (S : DS) (l : List Blk) : DS := if l.length = S.n then { S with st := stOf l, wt := fun _ => [] } else S
def loadErr (S : DS) (l : List Blk) : Int := if l.length = S.n then 0 else 2
theorem stOf_out {S : DS} {l : List Blk} (h : l.length = S.n) (j : Int) (hj : ¬ S.inn j) : stOf l j = Blk.zero := by
  unfold stOf DS.inn at *
  split
  · rw [List.getD_eq_getElem?_getD, List.getElem?_eq_none (by omega)]; rfl
  · rfl
set_option maxRecDepth 100000 in
set_option maxHeartbeats 1000000 in
theorem rload_any {R : Nat → Prop} {w : World} {y q : Nat} {S : DS} (h : RD w y q S R) {a : Option Addr} {n c : Nat} {l : List Blk} (hl : Bls w a n c l) (hlR : ∀ x : Addr, 0 < n → a = some x → ¬ R x.block) :
    Calls Tryz.prog 23 #[.pointer (some ⟨y, 0, none⟩), .slice a n c] w fun e w' => e = .returned (.int .i64 (loadErr S l)) ∧ RD w' y q (S.load l) R ∧ Stp R w w' := by
  have hok := h.ok
  obtain ⟨s, t, v, hk⟩ := h
  have c1 := hk.c1
  have n2 := hok.n2
  have hlen := hl.len
  unfold DS.load loadErr
  by_cases he : l.length = S.n
  · rw [if_pos he, if_pos he]
    have hn : n = S.n := by omega
    subst hn
    have hh : ¬ (S.n : Int) ≠ (S.n : Int) := by simp
    have start : Rk w y q s t v (S.part (stOf l) (lftD 0)) R := by rw [part_zero]; exact hk
    go_enter Tryz.func23, Tryz.ntmps23
    go_wp2_with fail
    clear hk
    go_loopw [5] (fun i wr => ∃ (k : Nat) (v : Nat → Value), k ≤ S.n ∧ i = .int .i64 k ∧ Rk wr y q s t v (S.part (stOf l) (lftD k)) R ∧ Stp R w wr) (fun i _ => S.n - (intOf i).toNat)
    case atStart => exact ⟨0, v, Nat.zero_le _, rfl, start, Stp.refl _ _⟩
    case round =>
      clear start
      obtain ⟨k, v', hkn, rfl, hk, kw⟩ := hrel
      by_cases hlt : k < S.n
      · have i1 : (0 : Int) ≤ (k : Int) := by omega
        have i2 : (k : Int) < (S.n : Int) := by omega
        have hkk : k < (S.part (stOf l) (lftD k)).n := hlt
        obtain ⟨b, o, rfl, hc⟩ := hl.cell (by omega)
        have hbR : ¬ R b := hlR ⟨b, o, none⟩ (by omega) rfl
        have hr : wr.rangeAt b (o + k * 64) (l.getD k Blk.zero).cs := kw.range (hc k hlt) hbR
        have hX : Hid (stOf l k = l.getD k Blk.zero) := stOf_nat l k
        clear hc
        obtain ⟨X, hXe⟩ : ∃ X, l.getD k Blk.zero = X := ⟨_, rfl⟩
        rw [hXe] at hr hX
        clear hXe
        have one := X.cs_one
        have len := X.cs_len
        have s36 := size36 X
        have u36' := u36
        have d1 := hk.step (Stp.refl (fun _ => False) wr).drew (fun _ _ => id)
        have hr1 := (Stp.refl (fun _ => False) wr).drew.range hr id
        have t1 := d1.th k hkk
        have d2 := d1.setSt hkk X
        have wc2 := d2.wc k hkk
        have wz2 := d2.wz k hkk
        have d3 := d2.clr hkk
        have hr2 := (Stp.of_setCells wr.drew s (k * 64) X.cs (F := R) (.inl d1.rs)).range hr1 hbR
        have hr3 := ((Stp.refl R (wr.drew.setCells s (k * 64) X.cs)).setCell (p := ⟨t, k, none⟩) (.inl d1.rt) (.slice none 0 0)).range hr2 hbR
        have kR : Stp R wr ((wr.drew.setCells s (k * 64) X.cs).setCell ⟨t, k, none⟩ (.slice none 0 0)) := ((Stp.refl R wr).drew.trans (Stp.of_setCells wr.drew s (k * 64) X.cs (.inl d1.rs))).setCell (p := ⟨t, k, none⟩) (.inl d1.rt) _
        have kS := kw.trans kR
        go_wp2_with fail
        go_region_held3 (fun u => u.cell? ⟨y, 1, none⟩ = some (.slice (some ⟨s, 0, none⟩) S.n S.n) ∧ u.cell? ⟨y, 2, none⟩ = some (.slice (some ⟨t, 0, none⟩) S.n S.n) ∧ u.rangeAt b (o + k * 64) X.cs)
          (first | exact ⟨d1.c1, d1.c2, hr1⟩ | exact ⟨d2.c1, d2.c2, hr2⟩ | exact ⟨d3.c1, d3.c2, hr3⟩) (fail)
        rw [← hX.out, part_next S (stOf l) k, hX.out] at d3
        clear hr hr1 hr2 hr3 t1 d1 d2 wc2 wz2 kR kw hk
        go_wp2_with fail
        go_roundw
        case rel => exact ⟨k + 1, _, by omega, by go_num, d3, kS⟩
        case measure => simp [intOf]; omega
      · obtain rfl : k = S.n := by omega
        rw [part_all hok (stOf l) (fun j hj => stOf_out he j hj)] at hk
        go_wp2_with fail
        go_returns
        exact ⟨rfl, ⟨s, t, v', hk⟩, kw⟩
  · rw [if_neg he, if_neg he]
    have hn : ¬ (n : Int) = (S.n : Int) := by omega
    go_enter Tryz.func23, Tryz.ntmps23
    go_wp2_with fail
    go_returns
    exact ⟨rfl, ⟨s, t, v, hk⟩, Stp.refl _ _⟩
def zBlks (n : Nat) : Obj := .cells (madeCells Blk.zero.cs.toArray (n * 64)) 88
def zSls (n : Nat) : Obj := .cells (madeCells #[.slice none 0 0] n) 40
theorem info41 : (Tryz.prog.info? 40).map (fun i => (i.zero, i.size, i.bytes)) = some (some (.slice none 0 0), 1, 24) := by kernel_rfl
theorem make_blks (n : Nat) (h : n ≤ 100000) (u : World) : (Instr.makeSlice 40 (.int .i64 n) (.int .i64 n)).run Tryz.prog u = .ok (.slice (some ⟨u.heap.size, 0, none⟩) n n) (u.alloc (zBlks n)) := by
  obtain ⟨i, hi, hz, hs, hb⟩ := info_parts info36
  have := run_make (P := Tryz.prog) u 40 88 i _ u41 hi hz .i64 .i64 n n (by omega) (Int.le_refl _) (by rw [hb]; omega) (by omega)
  simp only [Int.toNat_natCast, hs] at this
  exact this
theorem make_sls (n : Nat) (h : n ≤ 100000) (u : World) : (Instr.makeSlice 122 (.int .i64 n) (.int .i64 n)).run Tryz.prog u = .ok (.slice (some ⟨u.heap.size, 0, none⟩) n n) (u.alloc (zSls n)) := by
  obtain ⟨i, hi, hz, hs, hb⟩ := info_parts info41
  have := run_make (P := Tryz.prog) u 122 40 i _ (by kernel_rfl) hi hz .i64 .i64 n n (by omega) (Int.le_refl _) (by rw [hb]; omega) (by omega)
  simp only [Int.toNat_natCast, hs, Nat.mul_one] at this
  exact this
theorem zcs (j : Nat) (h : j < 64) : Blk.zero.cs[j]? = some (.int .u8 0) := by
  have e : Blk.zero.cs = List.replicate 64 (.int .u8 0) := rfl
  rw [e, List.getElem?_replicate, if_pos h]
theorem zBlks_cell (u : World) (n i j : Nat) (hi : i < n) (hj : j < 64) : (u.alloc (zBlks n)).cell? ⟨u.heap.size, i * 64 + j, none⟩ = some (.int .u8 0) := by
  unfold zBlks
  rw [cell_of_row _ _ _ _ _ (0, 0) (heap_alloc_new u _)]
  unfold madeCells
  have h1 : i * 64 + j < n * 64 := by have : (i + 1) * 64 ≤ n * 64 := Nat.mul_le_mul_right _ hi; omega
  rw [Array.getElem?_map, Array.getElem?_range]
  rw [if_pos h1]
  simp only [Option.map_some, List.size_toArray, Blk.cs_len]
  have h2 : (i * 64 + j) % 64 = j := by omega
  rw [h2]
  have h3 := zcs j hj
  have h4 : Blk.zero.cs.toArray[j]? = some (.int .u8 0) := by simpa using h3
  rw [getElem!_def, h4]
theorem zBlks_range (u : World) (n i : Nat) (hi : i < n) : (u.alloc (zBlks n)).rangeAt u.heap.size (i * 64) Blk.zero.cs := fun j v hv => by
  have hj : j < 64 := by have := (List.getElem?_eq_some_iff.1 hv).1; rwa [Blk.cs_len] at this
  rw [zcs j hj] at hv; cases hv
  exact zBlks_cell u n i j hi hj
theorem zBlks_there (u : World) (n i : Nat) (hi : i < n) : (u.alloc (zBlks n)).there u.heap.size (i * 64) 64 := fun j hj => ⟨by rw [zBlks_cell u n i j hi hj]; rfl, by unfold zBlks; simp [go_sem]⟩
theorem zSls_cell (u : World) (n i : Nat) (hi : i < n) : (u.alloc (zSls n)).cell? ⟨u.heap.size, i, none⟩ = some (.slice none 0 0) := by
  unfold zSls
  rw [cell_of_row _ _ _ _ _ (0, 0) (heap_alloc_new u _)]
  unfold madeCells
  rw [Array.getElem?_map, Array.getElem?_range, if_pos hi]
  simp [Nat.mod_one]
theorem zSls_frozen (u : World) (n i : Nat) : (u.alloc (zSls n)).frozen? ⟨u.heap.size, i, none⟩ = false := by unfold zSls; simp [go_sem]
theorem rk_new {w u1 u2 u : World} {y q s t n : Nat} (h1 : 1 ≤ n) (h2 : n ≤ 2048) (ks : Stp (fun _ => False) (u1.alloc (zBlks n)) u) (kt : Stp (fun _ => False) (u2.alloc (zSls n)) u) (es : u1.heap.size = s) (et : u2.heap.size = t) (hy : y = u.heap.size) (hst : s ≠ t) (hsw : w.heap.size ≤ s) (htw : w.heap.size ≤ t) (huw : w.heap.size ≤ u.heap.size) :
    Rk (u.alloc (.cells #[.pointer (some ⟨q, 0, none⟩), .slice (some ⟨s, 0, none⟩) n n, .slice (some ⟨t, 0, none⟩) n n, .int .i64 0] 124)) y q s t (fun _ => .slice none 0 0) (DS.new n) (fun x => w.heap.size ≤ x ∧ x ≤ u.heap.size) := by
  subst es; subst et; subst hy
  have ls : u1.heap.size < u.heap.size := by have := ks.size; simp at this; omega
  have lt : u2.heap.size < u.heap.size := by have := kt.size; simp at this; omega
  have kA : Stp (fun _ => False) u (u.alloc (.cells #[.pointer (some ⟨q, 0, none⟩), .slice (some ⟨u1.heap.size, 0, none⟩) n n, .slice (some ⟨u2.heap.size, 0, none⟩) n n, .int .i64 0] 124)) := Stp.of_alloc _ _ _
  refine ⟨by simp [go_sem], by simp [go_sem, DS.new], by simp [go_sem, DS.new], by simp [go_sem, DS.new], by simp [go_sem], fun i hi => kA.range (ks.range (zBlks_range u1 n i hi) id) id, fun i hi => kA.there (ks.there (zBlks_there u1 n i hi) id) id,
    fun i hi => kA.cell (kt.cell (zSls_cell u2 n i hi) id) id, fun i hi => ?_, fun i hi => ⟨none, 0, rfl, Bls.nilSlice _, fun x e => by cases e⟩, ⟨h1, h2, fun _ _ => rfl, fun _ _ => rfl⟩, ⟨huw, Nat.le_refl _⟩, ⟨hsw, by omega⟩, ⟨htw, by omega⟩, by omega, by omega, hst, fun x hx => by simp; omega, fun i hi L c e => by injection e with _ _ e3; exact e3.symm⟩
  rw [kA.frozen (p := ⟨u2.heap.size, i, none⟩) lt id, kt.frozen (p := ⟨u2.heap.size, i, none⟩) (by simp) id]
  exact zSls_frozen u2 n i
set_option maxRecDepth 100000 in
theorem rnew_disk (n q : Nat) (w : World) (h1 : 1 ≤ n) (h2 : n ≤ 2048) :
    Calls Tryz.prog 21 #[.int .i64 n, .pointer (some ⟨q, 0, none⟩)] w fun e w' => ∃ y R, e = .returned (.tuple #[.pointer (some ⟨y, 0, none⟩), .int .i64 0]) ∧ Below w.heap.size w w' ∧ RD w' y q (DS.new n) R ∧ (∀ x, R x → w.heap.size ≤ x) := by
  have m1 := make_blks n (by omega)
  have m2 := make_sls n (by omega)
  have h1' : ¬ (n : Int) < 1 := by omega
  have h2' : (n : Int) ≤ 2048 := by omega
  go_enter Tryz.func21, Tryz.ntmps21
  go_wp2_with fail
  go_region_held3 (fun _ => True) (trivial) (fail)
  · go_wp2_with fail
    go_ret2
    have k := rk_new (w := w) (u1 := w) (u2 := w.alloc (zBlks n)) (u := (w.alloc (zBlks n)).alloc (zSls n)) (q := q) h1 h2 (Stp.of_alloc _ _ _) (Stp.refl _ _) rfl rfl rfl (by simp) (Nat.le_refl _) (by simp) (by simp; omega)
    refine ⟨w.heap.size + 1 + 1, fun x => w.heap.size ≤ x ∧ x ≤ ((w.alloc (zBlks n)).alloc (zSls n)).heap.size, rfl, by go_grown, ⟨w.heap.size, w.heap.size + 1, fun _ => .slice none 0 0, ?_⟩, fun x hx => hx.1⟩
    have k' := k.step (Stp.refl (fun _ => False) _).drew (fun _ _ => id)
    simpa using k'
  · go_wp2_with fail
    go_ret2
    have k := rk_new (w := w) (u1 := w.alloc (zSls n)) (u2 := w) (u := (w.alloc (zSls n)).alloc (zBlks n)) (q := q) h1 h2 (Stp.refl _ _) (Stp.of_alloc _ _ _) rfl rfl rfl (by simp) (by simp) (Nat.le_refl _) (by simp; omega)
    refine ⟨w.heap.size + 1 + 1, fun x => w.heap.size ≤ x ∧ x ≤ ((w.alloc (zSls n)).alloc (zBlks n)).heap.size, rfl, by go_grown, ⟨w.heap.size + 1, w.heap.size, fun _ => .slice none 0 0, ?_⟩, fun x hx => hx.1⟩
    have k' := k.step (Stp.refl (fun _ => False) _).drew (fun _ _ => id)
    simpa using k'
set_option maxRecDepth 100000 in
set_option maxHeartbeats 1000000 in
theorem load_any {F : Nat → Prop} {w : World} {g : Nat} {sp : Value} {S : DS} (h : Disk w g sp S F) {a : Option Addr} {n c : Nat} {l : List Blk} (hl : Bls w a n c l) (hlF : ∀ x : Addr, 0 < n → a = some x → ¬ F x.block) :
    Calls Tryz.prog 22 #[.pointer (some ⟨g, 0, none⟩), .slice a n c] w fun e w' => e = .returned (.int .i64 (loadErr S l)) ∧ Disk w' g sp (S.load l) F ∧ Stp F w w' := by
  obtain ⟨m1, m2, f, hd, hm⟩ := h
  have hok := hd.ok
  have n2 := hok.n2
  have c0 := hd.c0
  have hlen := hl.len
  unfold DS.load loadErr
  by_cases he : l.length = S.n
  · rw [if_pos he, if_pos he]
    have hn : n = S.n := by omega
    subst hn
    have start : Disk w g sp (S.part (stOf l) (lftD 0)) F := by rw [part_zero]; exact ⟨m1, m2, f, hd, hm⟩
    go_enter Tryz.func22, Tryz.ntmps22
    go_wp2_with fail
    clear hd hm c0
    go_loopw [18] (fun i wr => ∃ (k : Nat), k ≤ S.n ∧ i = .int .i64 k ∧ Disk wr g sp (S.part (stOf l) (lftD k)) F ∧ Stp F w wr) (fun i _ => S.n - (intOf i).toNat)
    case atStart => exact ⟨0, Nat.zero_le _, rfl, start, Stp.refl _ _⟩
    case round =>
      clear start
      obtain ⟨k, hkn, rfl, hD, kw⟩ := hrel
      by_cases hlt : k < S.n
      · have i1 : (0 : Int) ≤ (k : Int) := by omega
        have i2 : (k : Int) < (S.n : Int) := by omega
        obtain ⟨b, o, rfl, hc⟩ := hl.cell (by omega)
        have hbF : ¬ F b := hlF ⟨b, o, none⟩ (by omega) rfl
        have hr : wr.rangeAt b (o + k * 64) (l.getD k Blk.zero).cs := kw.range (hc k hlt) hbF
        have hX : Hid (stOf l k = l.getD k Blk.zero) := stOf_nat l k
        clear hc
        obtain ⟨X, hXe⟩ : ∃ X, l.getD k Blk.zero = X := ⟨_, rfl⟩
        rw [hXe] at hr hX
        clear hXe
        have hr1 := World.rangeAt_alloc hr (.cells Blk.zero.cs.toArray 88)
        obtain ⟨m1, m2, f, hd, hm⟩ := hD
        have sA : Stp (fun _ => False) wr (wr.alloc (.cells X.cs.toArray 88)) := Stp.of_alloc _ _ _
        have hset := settle_anyD (hd.step sA (fun _ _ => id)) (hm.step sA id) k ⟨by omega, by show (k : Int) < (S.n : Int); omega⟩ X
        have hF1 := hd.f1
        have hF2 := hd.f2
        go_wp2_with (first
          | (refine at_load (by rfl) _ (by rfl) b (o + k * 64) (by rfl) X hr ?_)
          | (refine at_alloc (by rfl) (by rfl) ?_)
          | (refine at_store (by rfl) _ _ (by rfl) _ _ (by rfl) X (by rfl) (there_made wr) ?_; rw [setCells_made])
          | (refine at_load (by rfl) _ (by rfl) wr.heap.size 0 (by rfl) X (made_range wr _ _) ?_)
          | (go_at_call 45; refine hset.mono ?_; rintro e u1 ⟨rfl, hd1, hm1, k1⟩))
        rw [← hX.out] at hd1
        rw [settle_two, part_next] at hd1
        have kS := (kw.trans (sA.mono (fun x hx => hx.elim))).trans (k1.mono (F' := F) (fun x hx => .inl (by rcases hx with rfl | rfl; exact hF1; exact hF2)))
        clear hd hm hset hr hr1 sA k1
        go_roundw
        case rel => exact ⟨k + 1, by omega, by go_num, ⟨m1, m2, _, hd1, hm1⟩, kS⟩
        case measure => simp [intOf]; omega
      · obtain rfl : k = S.n := by omega
        rw [part_all hok (stOf l) (fun j hj => stOf_out he j hj)] at hD
        go_wp2_with fail
        go_returns
        exact ⟨rfl, hD, kw⟩
  · rw [if_neg he, if_neg he]
    have hn : ¬ (n : Int) = (S.n : Int) := by omega
    go_enter Tryz.func22, Tryz.ntmps22
    go_wp2_with fail
    go_returns
    exact ⟨rfl, ⟨m1, m2, f, hd, hm⟩, Stp.refl _ _⟩
end Go.Proofs.YtgdnhkdfcjpdiaaGreatDoor
