/-
  What Close, Seek, Open, Count and Used of the document's table of layer 24 return: no statement is proved here.
-/
import Derived.Test.YtddglkejegmmmaaFdF
import Derived.Test.YtddglkejegmmmaaFdD
namespace Go.Proofs.Ytddglkejegmmmaa
open Go.ChangeShapes Go.WideShapes Go.ChangeAt Go.RowKit
set_option linter.unusedVariables false
set_option linter.unusedSimpArgs false

theorem rfclose_any {w : World} {y : Nat} {t : FT} (h : Rd w y t) (x : Int) :
    Calls Try.prog 12 #[.pointer (some ⟨y, 0, none⟩), .int .i64 x] w fun e w' => e = .returned (.tuple #[.agg (fdGet t x).cs.toArray, .int .i64 (fdGetE t x)]) ∧ Rd w' y (fdClose t x) ∧ Stp (fun z => z = y) w w' := by
  have hG := fun w' (b : Below w.heap.size w w') => rfget_any (h.later b) x
  have hy := h.lt
  cases hh : fdHas t x with
  | none =>
    have e1 : fdGet t x = Fl.zero := by unfold fdGet; rw [hh]; rfl
    have e2 : fdGetE t x = 46 := by unfold fdGetE; rw [hh]; rfl
    have e3 : fdClose t x = t := by unfold fdClose; rw [hh]
    rw [e1, e2, e3]
    rw [e1, e2] at hG
    clear e1 e2 e3
    have tk : Hid True := trivial
    go_enter Try.func12, Try.ntmps12
    go_wp2_with (first
      | (clear tk; refine at_newRl (by rfl) (by rfl) ?_; intro g1 w1 a1 a2 r1 b1)
      | (go_at_call 17; refine (hG _ b1).mono ?_; rintro e w2 ⟨rfl, b2⟩; clear hG)
      | (refine at_newRl (by rfl) (by rfl) ?_; intro g3 w3 a3 a4 r3 b3)
      | (refine at_putRl (by rfl) _ _ (by rfl) g3 (by rfl) Fl.zero (by rfl) _ r3 rfl ?_; intro w4 r4 s4
         have r5 := ((r1.later b2).later b3).step s4 (fun e => by have e : g1 = g3 := e; have := b2.size; omega))
      | (refine at_getRl (by rfl) _ (by rfl) g3 (by rfl) _ r4 ?_)
      | (refine at_putRl (by rfl) _ _ (by rfl) g1 (by rfl) Fl.zero (by rfl) _ r5 rfl ?_; intro w6 r6 s6))
    have hz2 := b2.size
    have B : Below w.heap.size w w6 := (((Stp.of_below (bnext (bnext b1 b2 (Nat.le_refl _)) b3 (Nat.le_refl _)) (fun _ => False)).next s4 (fun x e => .inr (by omega))).next s6 (fun x e => .inr (by omega))).below (Nat.le_refl _) (fun _ h => h.elim)
    exact bodyPost_ret (retCt srtRl Try.results12 rfl rfl r6 rfl) rfl ⟨rfl, h.later B, Stp.of_below B _⟩
  | some f =>
    obtain ⟨k, hk, rfl⟩ : ∃ k : Nat, k < 8 ∧ x = (k : Int) := by
      unfold fdHas at hh
      split at hh
      · exact ⟨x.toNat, by omega, by omega⟩
      · cases hh
    have e1 : fdGet t (k : Int) = f := by unfold fdGet; rw [hh]; rfl
    have e2 : fdGetE t (k : Int) = 0 := by unfold fdGetE; rw [hh]; rfl
    have e3 : fdClose t (k : Int) = fdUp t k none := by unfold fdClose; rw [hh]; simp
    rw [e1, e2, e3]
    rw [e1, e2] at hG
    rw [fdHas_in hk] at hh
    have a0 : (0 : Int) ≤ (k : Int) := by omega
    have a1 : (k : Int) < 8 := by omega
    clear e1 e2 e3
    have tk : Hid True := trivial
    go_enter Try.func12, Try.ntmps12
    go_wp2_with (first
      | (clear tk; refine at_newRl (by rfl) (by rfl) ?_; intro g1 w1 q1 q2 r1 b1)
      | (go_at_call 17; refine (hG _ b1).mono ?_; rintro e w2 ⟨rfl, b2⟩; clear hG)
      | (refine at_newRl (by rfl) (by rfl) ?_; intro g3 w3 q3 q4 r3 b3)
      | (refine at_putRl (by rfl) _ _ (by rfl) g3 (by rfl) f (by rfl) _ r3 rfl ?_; intro w4 r4 s4
         have hz2 := b2.size
         have B4 : Below w.heap.size w w4 := ((Stp.of_below (bnext (bnext b1 b2 (Nat.le_refl _)) b3 (Nat.le_refl _)) (fun _ => False)).next s4 (fun x e => .inr (by omega))).below (Nat.le_refl _) (fun _ h => h.elim)
         have R4 := h.later B4
         have c4 := R4.in hk
         have f4 := R4.fz k
         have s5 : Stp (fun z => z = y) w4 (w4.setCell ⟨y, k, none⟩ (.bool false)) := (Stp.refl (fun z => z = y) w4).setCell (p := ⟨y, k, none⟩) (.inl rfl) _
         have r4' := r4.step s5 (fun e => by have e : g3 = y := e; omega)
         have r5 := (((r1.later b2).later b3).step s4 (fun e => by have e : g1 = g3 := e; omega)).step s5 (fun e => by have e : g1 = y := e; omega))
      | (refine at_getRl (by rfl) _ (by rfl) g3 (by rfl) _ r4' ?_)
      | (refine at_putRl (by rfl) _ _ (by rfl) g1 (by rfl) f (by rfl) _ r5 rfl ?_; intro w6 r6 s6))
    refine bodyPost_ret (retCt srtRl Try.results12 rfl rfl r6 rfl) rfl ⟨rfl, (R4.free hk).step s6 (fun e => by have e : y = g1 := e; omega), ?_⟩
    exact ((Stp.of_below B4 _).trans s5).next s6 (fun x e => .inr (by omega))
theorem rfseek_any {w : World} {y : Nat} {t : FT} (h : Rd w y t) (x p : Int) :
    Calls Try.prog 14 #[.pointer (some ⟨y, 0, none⟩), .int .i64 x, .int .i64 p] w fun e w' => e = .returned (.int .i64 (fdSeekE t x p)) ∧ Rd w' y (fdSeek t x p) ∧ Stp (fun z => z = y) w w' := by
  have hG := rfget_any h x
  have hy := h.lt
  cases hh : fdHas t x with
  | none =>
    have e1 : fdGet t x = Fl.zero := by unfold fdGet; rw [hh]; rfl
    have e4 : fdGetE t x = 46 := by unfold fdGetE; rw [hh]; rfl
    have e2 : fdSeekE t x p = 46 := by unfold fdSeekE; rw [hh]; rfl
    have e3 : fdSeek t x p = t := by unfold fdSeek; rw [hh]
    rw [e2, e3]
    rw [e1, e4] at hG
    clear e1 e2 e3 e4
    go_enter Try.func14, Try.ntmps14
    go_wp2_with (first
      | (go_at_call 17; refine hG.mono ?_; rintro e w2 ⟨rfl, b2⟩; clear hG)
      | (refine at_newRl (by rfl) (by rfl) ?_; intro g3 w3 a3 a4 r3 b3)
      | (refine at_putRl (by rfl) _ _ (by rfl) g3 (by rfl) Fl.zero (by rfl) _ r3 rfl ?_; intro w4 r4 s4))
    go_returns
    have hz2 := b2.size
    have B : Below w.heap.size w w4 := ((Stp.of_below (bnext b2 b3 (Nat.le_refl _)) (fun _ => False)).next s4 (fun x e => .inr (by omega))).below (Nat.le_refl _) (fun _ h => h.elim)
    exact ⟨rfl, h.later B, Stp.of_below B _⟩
  | some f =>
    obtain ⟨k, hk, rfl⟩ : ∃ k : Nat, k < 8 ∧ x = (k : Int) := by
      unfold fdHas at hh
      split at hh
      · exact ⟨x.toNat, by omega, by omega⟩
      · cases hh
    have e1 : fdGet t (k : Int) = f := by unfold fdGet; rw [hh]; rfl
    have e4 : fdGetE t (k : Int) = 0 := by unfold fdGetE; rw [hh]; rfl
    rw [e1, e4] at hG
    by_cases hp : p < 0
    · have e2 : fdSeekE t (k : Int) p = 2 := by unfold fdSeekE; rw [hh]; simp [hp]
      have e3 : fdSeek t (k : Int) p = t := by unfold fdSeek; rw [hh]; simp [hp]
      rw [e2, e3]
      clear e1 e2 e3 e4 hh
      go_enter Try.func14, Try.ntmps14
      go_wp2_with (first
        | (go_at_call 17; refine hG.mono ?_; rintro e w2 ⟨rfl, b2⟩; clear hG)
        | (refine at_newRl (by rfl) (by rfl) ?_; intro g3 w3 a3 a4 r3 b3)
        | (refine at_putRl (by rfl) _ _ (by rfl) g3 (by rfl) f (by rfl) _ r3 rfl ?_; intro w4 r4 s4))
      go_returns
      have hz2 := b2.size
      have B : Below w.heap.size w w4 := ((Stp.of_below (bnext b2 b3 (Nat.le_refl _)) (fun _ => False)).next s4 (fun x e => .inr (by omega))).below (Nat.le_refl _) (fun _ h => h.elim)
      exact ⟨rfl, h.later B, Stp.of_below B _⟩
    · have e2 : fdSeekE t (k : Int) p = 0 := by unfold fdSeekE; rw [hh]; simp [hp]
      have e3 : fdSeek t (k : Int) p = fdUp t k (some ⟨f.i, p, f.m⟩) := by unfold fdSeek; rw [hh]; simp [hp]
      rw [e2, e3]
      rw [fdHas_in hk] at hh
      have a0 : (0 : Int) ≤ (k : Int) := by omega
      have a1 : (k : Int) < 8 := by omega
      clear e1 e2 e3 e4
      go_enter Try.func14, Try.ntmps14
      go_wp2_with (first
        | (go_at_call 17; refine hG.mono ?_; rintro e w2 ⟨rfl, b2⟩; clear hG)
        | (refine at_newRl (by rfl) (by rfl) ?_; intro g3 w3 a3 a4 r3 b3)
        | (refine at_putRl (by rfl) _ _ (by rfl) g3 (by rfl) f (by rfl) _ r3 rfl ?_; intro w4 r4 s4
           have hz2 := b2.size
           have B4 : Below w.heap.size w w4 := ((Stp.of_below (bnext b2 b3 (Nat.le_refl _)) (fun _ => False)).next s4 (fun x e => .inr (by omega))).below (Nat.le_refl _) (fun _ h => h.elim)
           have R4 := h.later B4
           have c4 := R4.c1 hk hh
           have f4 := R4.fz (8 + k * 3 + 1)))
      go_returns
      exact ⟨rfl, R4.pos hk hh p, (Stp.of_below B4 (fun z => z = y)).setCell (p := ⟨y, 8 + k * 3 + 1, none⟩) (.inl rfl) _⟩
theorem rfcount_any {w : World} {y : Nat} {t : FT} (h : Rd w y t) (x : Int) :
    Calls Try.prog 19 #[.pointer (some ⟨y, 0, none⟩), .int .i64 x] w fun e w' => e = .returned (.int .i64 (fdCt t x 8)) ∧ w = w' := by
  go_enter Try.func19, Try.ntmps19
  go_wp2
  go_loopw [5, 6] (fun n i wr => ∃ k : Nat, k ≤ 8 ∧ i = .int .i64 (k : Int) ∧ ∃ z : Int, n = .int .i64 z ∧ Hid (z = fdCt t x k) ∧ 0 ≤ z ∧ z ≤ k ∧ w = wr) (fun _ i _ => 8 - (intOf i).toNat)
  case atStart => exact ⟨0, Nat.zero_le _, rfl, 0, rfl, rfl, by omega, by omega, rfl⟩
  case round =>
    obtain ⟨k, hk, rfl, z, rfl, hz, hz0, hz1, rfl⟩ := hrel
    by_cases hlt : (k : Int) < 8
    · have hk8 : k < 8 := by omega
      have a0 : (0 : Int) ≤ (k : Int) := by omega
      have c0 := h.in hk8
      have hst : fdCt t x (k + 1) = z + (match t k with | some f => if f.i = x then 1 else 0 | none => 0) := by rw [hz.out]; rfl
      cases ht : t k with
      | none =>
        rw [ht] at c0 hst
        simp only [Option.isSome_none] at c0
        have hst' : Hid (z = fdCt t x (k + 1)) := by show _ = _; rw [hst]; simp
        clear hst
        go_wp2
        go_roundw
        case rel => exact ⟨k + 1, by omega, by go_num, z, rfl, hst', hz0, by omega, by simp⟩
        case measure => simp [intOf]; omega
      | some f =>
        have c1 := h.c0 hk8 ht
        rw [ht] at c0 hst
        simp only [Option.isSome_some] at c0
        by_cases hix : f.i = x
        · have hst' : Hid (z + 1 = fdCt t x (k + 1)) := by show _ = _; rw [hst]; simp [hix]
          rw [hix] at c1
          clear hst hix
          go_wp2
          go_roundw
          case rel => exact ⟨k + 1, by omega, by go_num, z + 1, by go_num, hst', by omega, by omega, by simp⟩
          case measure => simp [intOf]; omega
        · have hst' : Hid (z = fdCt t x (k + 1)) := by show _ = _; rw [hst]; simp [hix]
          clear hst
          go_wp2
          go_roundw
          case rel => exact ⟨k + 1, by omega, by go_num, z, by go_num, hst', by omega, by omega, by simp⟩
          case measure => simp [intOf]; omega
    · have hk8 : k = 8 := by omega
      subst hk8
      go_wp2
      go_returns
      exact ⟨by rw [← hz.out]; simp, rfl⟩
theorem own_empty (w : World) : OwV (w.alloc (.cells #[] 3)) (.slice (some ⟨w.heap.size, 0, none⟩) 0 0) [] :=
  Rw1.own (l := []) (cur := #[]) ⟨heap_alloc_new w _, Nat.le_refl _, by decide, rfl, rfl⟩
theorem rfused_any {w : World} {y : Nat} {t : FT} (h : Rd w y t) :
    Calls Try.prog 22 #[.pointer (some ⟨y, 0, none⟩)] w fun e w' => ∃ v, e = .returned v ∧ LiR w (fdUs t 8) v w' := by
  go_enter Try.func22, Try.ntmps22
  go_wp2_with fail
  go_loopw [3, 4] (fun v x wr => ∃ (k : Nat) (sv : Sv), k ≤ 8 ∧ x = .int .i64 (k : Int) ∧ v = .slice sv.a sv.n sv.c ∧ LiR w (fdUs t k) (.slice sv.a sv.n sv.c) wr) (fun _ x _ => 8 - (intOf x).toNat)
  case atStart => exact ⟨0, ⟨some ⟨w.heap.size, 0, none⟩, 0, 0⟩, Nat.zero_le _, rfl, rfl, own_empty w, (fun r e => Nat.le_of_eq (by simpa [Value.ownBlock] using e)), (Below.refl _ _).alloc (Nat.le_refl _) _⟩
  case round =>
    obtain ⟨k, sv, hk, rfl, rfl, I⟩ := hrel
    have hln := fdUs_len t k
    have hu : w.heap.size ≤ wr.heap.size := I.2.2.size
    by_cases hlt : (k : Int) < 8
    · have hk8 : k < 8 := by omega
      have a0 : (0 : Int) ≤ (k : Int) := by omega
      have c0 := (h.later I.2.2).in hk8
      obtain ⟨l, hl⟩ : ∃ l, Hid (fdUs t k = l) := ⟨_, rfl⟩
      rw [hl.out] at I hln
      cases ht : t k with
      | none =>
        have hL' : Hid (fdUs t (k + 1) = l) := by show _ = _; unfold fdUs; rw [hl.out, ht]; simp
        rw [ht] at c0
        simp only [Option.isSome_none] at c0
        go_wp2
        go_roundw
        case rel => exact ⟨k + 1, sv, by omega, by go_num, rfl, by rw [hL'.out]; exact I⟩
        case measure => simp [intOf]; omega
      | some f =>
        have hL' : Hid (fdUs t (k + 1) = l ++ [(k : Int)]) := by show _ = _; unfold fdUs; rw [hl.out, ht]; simp
        rw [ht] at c0
        simp only [Option.isSome_some] at c0
        have hbig : l.length + 1 ≤ 1000000 := by omega
        go_wp2_with (first
          | (at_builtin; refine at_appR elI w.heap.size rfl _ _ (by rfl) (by rfl) (I.later ((Below.refl _ wr).alloc (Nat.le_refl _) _)).1 I.2.1 (some ⟨wr.heap.size, 0, none⟩) 1 [.int .i64 (k : Int)] (by rfl) (by simp) (fun e => by cases e) (fun ad e => by injection e with e; subst e; exact cell_one_new _ _ _) (by simp [Value.oneCell']) hbig (Nat.le_trans hu (by simp)) ?_; intro v' w9 hA
             have I9 := (I.later ((Below.refl _ wr).alloc (Nat.le_refl _) _)).app hA
             obtain ⟨xa, xn, xc, rfl⟩ := I9.1.shape
             clear hA))
        go_roundw
        case rel => exact ⟨k + 1, ⟨xa, xn, xc⟩, by omega, by go_num, rfl, by rw [hL'.out]; exact I9⟩
        case measure => simp [intOf]; omega
    · have hk8 : k = 8 := by omega
      subst hk8
      go_wp2
      go_returns
      exact ⟨_, rfl, I⟩
end Go.Proofs.Ytddglkejegmmmaa
