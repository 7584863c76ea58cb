/-
  What Flush of the document's disk leaves: no statement is proved here.
-/
import Derived.Test.YtdjkdkekcjmokaaRfB
namespace Go.Proofs.Ytdjkdkekcjmokaa
open Go.ChangeShapes Go.WideShapes Go.ChangeAt Go.RowKit
set_option linter.unusedVariables false

def lft (k : Nat) : Int → Bool := fun j => !(decide (0 ≤ j ∧ j < k))
theorem part_zero (S : DS) (h : Int → Blk) : S.part h (lft 0) = S := by
  cases S with
  | mk n st wt wr =>
    simp only [DS.part, DS.mk.injEq, true_and, and_true]
    refine ⟨funext fun j => ?_, funext fun j => ?_⟩ <;>
    · have : lft 0 j = true := by unfold lft; simp; omega
      rw [if_pos this]
theorem lft_at (k : Nat) : lft k k = true := by unfold lft; simp
theorem part_next (S : DS) (h : Int → Blk) (k : Nat) : (((S.part h (lft k)).setSt k (h k)).clr k) = S.part h (lft (k + 1)) := by
  have e1 : ∀ j : Int, j ≠ k → lft (k + 1) j = lft k j := fun j hj => by
    unfold lft
    congr 1
    rw [decide_eq_decide]; push_cast; constructor <;> rintro ⟨a, b⟩ <;> exact ⟨a, by omega⟩
  have e2 : lft (k + 1) k = false := by unfold lft; simp; omega
  unfold DS.clr DS.setSt DS.part
  simp only [DS.mk.injEq, true_and, and_true]
  refine ⟨funext fun j => ?_, funext fun j => ?_⟩
  · by_cases e : j = k
    · subst e; rw [if_pos rfl, if_neg (by rw [e2]; simp)]
    · rw [if_neg e, e1 j e]
  · by_cases e : j = k
    · subst e; rw [if_pos rfl, if_neg (by rw [e2]; simp)]
    · rw [if_neg e, e1 j e]
theorem part_all {S : DS} (ok : S.ok) (h : Int → Blk) (ho : ∀ j, ¬ S.inn j → h j = Blk.zero) : S.part h (lft S.n) = { S with st := h, wt := fun _ => [] } := by
  unfold DS.part
  simp only [DS.mk.injEq, true_and, and_true]
  refine ⟨funext fun j => ?_, funext fun j => ?_⟩
  · by_cases e : S.inn j
    · rw [if_neg (by unfold lft; unfold DS.inn at e; simp; omega)]
    · rw [if_pos (by unfold lft; unfold DS.inn at e; simp; omega), ok.st j e, ho j e]
  · by_cases e : S.inn j
    · rw [if_neg (by unfold lft; unfold DS.inn at e; simp; omega)]
    · rw [if_pos (by unfold lft; unfold DS.inn at e; simp; omega), ok.wt j e]
theorem part_shown (S : DS) (h : Int → Blk) (k : Nat) : (S.part h (lft k)).shown k = S.shown k ∧ (S.part h (lft k)).wt k = S.wt k := by
  have e := lft_at k
  unfold DS.shown shownBy DS.part
  simp only [if_pos e]
  exact ⟨trivial, trivial⟩
theorem wf2048 {k : Nat} (hk : k < 2048) : (Lit.int .i64 (k : Int)).wf = true := by simp [Lit.wf, IntKind.min, IntKind.max, IntKind.bits, IntKind.signed]; omega

def DS.rflush (S : DS) (p : RS) : DS := if p.useErr = 0 then { S with st := S.shown, wt := fun _ => [] } else S
set_option maxRecDepth 100000 in
set_option maxHeartbeats 1000000 in
theorem rflush_any {R : Nat → Prop} {w : World} {y q : Nat} {S : DS} {p : RS} (h : RD w y q S R) (hq : Rw w q p) (hqR : ¬ R q) (ok : p.ok) :
    Calls Try.prog 21 #[.pointer (some ⟨y, 0, none⟩)] w fun e w' => e = .returned (.int .i64 p.useErr) ∧ RD w' y q (S.rflush p) R ∧ Rw w' q p.use ∧ Stp (fun x => R x ∨ x = q) w w' := by
  have hRl : ∀ x, R x → x < w.heap.size := h.lt
  have hok := h.ok
  obtain ⟨s, t, v, hk⟩ := h
  have c0 := hk.c0
  have n2 := hok.n2
  unfold DS.rflush
  by_cases he : p.useErr = 0
  · rw [if_pos he]
    go_enter Try.func21, Try.ntmps21
    go_wp2_with (first
      | (go_at_call 38; refine (ruse_any q p _ hq ok).mono ?_; rintro e u1 ⟨rfl, k1, p1⟩; rw [he]))
    have k1' : Stp (fun x => x = q) w u1 := Stp.of_step k1 (by simp)
    have h1 := hk.step k1' (fun x hx e => hqR (e ▸ hx))
    have start : Rk u1 y q s t v (S.part S.shown (lft 0)) R := by rw [part_zero]; exact h1
    have kw : Stp (fun x => R x ∨ x = q) w u1 := k1'.mono (fun x hx => .inl (.inr hx))
    clear k1 k1' h1 hk hq c0
    go_loopw [4] (fun i wr => ∃ (k : Nat) (v : Nat → Value), k ≤ S.n ∧ i = .int .i64 k ∧ Rk wr y q s t v (S.part S.shown (lft k)) R ∧ Rw wr q p.use ∧ Stp (fun x => R x ∨ x = q) w wr) (fun i _ => S.n - (intOf i).toNat)
    case atStart => exact ⟨0, v, Nat.zero_le _, rfl, start, p1, kw⟩
    case round =>
      clear start p1 kw
      obtain ⟨k, v', hkn, rfl, hk, hp, kw⟩ := hrel
      have c1 : wr.cell? ⟨y, 1, none⟩ = some (.slice (some ⟨s, 0, none⟩) S.n S.n) := hk.c1
      have c2 : wr.cell? ⟨y, 2, none⟩ = some (.slice (some ⟨t, 0, none⟩) S.n S.n) := hk.c2
      by_cases hlt : k < S.n
      · have i1 : (0 : Int) ≤ (k : Int) := by omega
        have i2 : (k : Int) < (S.n : Int) := by omega
        have hkk : k < (S.part S.shown (lft k)).n := hlt
        have hrd := fun u (b : Below wr.heap.size wr u) => rread_any (w := u) ⟨s, t, v', hk.step (Stp.of_below b (fun _ => False)) (fun _ _ => id)⟩ k (wf2048 (by omega))
        have e1 : checkErr (S.part S.shown (lft k)) k = 0 := by unfold checkErr; rw [if_pos ⟨by omega, by show (k : Int) < (S.n : Int); omega⟩]
        rw [e1, (part_shown S S.shown k).1] at hrd
        obtain ⟨X, hXe⟩ : ∃ X, S.shown k = X := ⟨_, rfl⟩
        rw [hXe] at hrd
        have hX : Hid (S.shown k = X) := hXe
        clear hXe
        have one := X.cs_one
        have len := X.cs_len
        have s36 := size36 X
        have u36' := u36
        have hD : ∀ u, Below wr.heap.size wr u → u.cell? ⟨y, 1, none⟩ = some (.slice (some ⟨s, 0, none⟩) S.n S.n) := fun u b => (hk.step (Stp.of_below b (fun _ => False)) (fun _ _ => id)).c1
        have b0 : Below wr.heap.size wr wr.drew := (Below.refl _ wr).drew
        have t0 := fun u (b : Below wr.heap.size wr u) => (hk.step (Stp.of_below b (fun _ => False)) (fun _ _ => id)).th k hlt
        go_wp2_with fail
        go_region_held3 (fun u => u.cell? ⟨y, 1, none⟩ = some (.slice (some ⟨s, 0, none⟩) S.n S.n))
          (first | exact hD _ b0 | exact hD _ b1 | exact d2.c1)
          (first
            | (go_at_call 13; refine (hrd _ b0).mono ?_; rintro e u2 ⟨rfl, b2⟩; have b1 : Below wr.heap.size wr u2 := bnext b0 b2 (Nat.le_refl _); have t1 := t0 _ b1; have d2 := (hk.step (Stp.of_below b1 (fun _ => False)) (fun _ _ => id)).setSt hkk X))
        have c2' := d2.c2
        have wc2 := d2.wc k hkk
        have wz2 := d2.wz k hkk
        have d3 := d2.clr hkk
        rw [← hX.out, part_next S S.shown k, hX.out] at d3
        have kR : Stp R wr (u2.setCells s (k * 64) X.cs) := (Stp.of_below b1 R).trans (Stp.of_setCells u2 s (k * 64) X.cs (.inl d2.rs))
        have kR' : Stp R wr ((u2.setCells s (k * 64) X.cs).setCell ⟨t, k, none⟩ (.slice none 0 0)) := kR.setCell (p := ⟨t, k, none⟩) (.inl d2.rt) _
        have pS := hp.stp kR' hqR
        have kS := kw.trans (kR'.mono (fun x hx => .inl (.inl hx)))
        clear hrd hD t0 t1 kR kR' hp kw
        go_wp2_with fail
        go_roundw
        case rel => exact ⟨k + 1, _, by omega, by go_num, d3, pS, kS⟩
        case measure => simp [intOf]; omega
      · obtain rfl : k = S.n := by omega
        rw [part_all hok S.shown (fun j hj => shown_out hok hj)] at hk
        go_wp2_with fail
        go_returns
        exact ⟨by rw [he]; rfl, ⟨s, t, v', hk⟩, hp, kw⟩
  · rw [if_neg he]
    go_enter Try.func21, Try.ntmps21
    go_wp2_with (first
      | (go_at_call 38; refine (ruse_any q p _ hq ok).mono ?_; rintro e u1 ⟨rfl, k1, p1⟩))
    go_returns
    have k1' : Stp (fun x => x = q) w u1 := Stp.of_step k1 (by simp)
    exact ⟨rfl, ⟨s, t, v, hk.step k1' (fun x hx e => hqR (e ▸ hx))⟩, p1, k1'.mono (fun x hx => .inl (.inr hx))⟩
end Go.Proofs.Ytdjkdkekcjmokaa
