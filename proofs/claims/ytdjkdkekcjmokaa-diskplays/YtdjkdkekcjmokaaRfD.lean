/-
  What Load and Crash of the document's disk leave: no statement is proved here.
-/
import Derived.Test.YtdjkdkekcjmokaaRfC
namespace Go.Proofs.Ytdjkdkekcjmokaa
open Go.ChangeShapes Go.WideShapes Go.ChangeAt Go.RowKit
set_option linter.unusedVariables false

def stOf (l : List Blk) (j : Int) : Blk := if 0 ≤ j then l.getD j.toNat Blk.zero else Blk.zero
theorem stOf_nat (l : List Blk) (k : Nat) : stOf l k = l.getD k Blk.zero := by unfold stOf; rw [if_pos (by omega), Int.toNat_natCast]
def DS.load (S : DS) (l : List Blk) : DS := if l.length = S.n then { S with st := stOf l, wt := fun _ => [] } else S
def loadErr (S : DS) (l : List Blk) : Int := if l.length = S.n then 0 else 2
theorem stOf_out {S : DS} {l : List Blk} (h : l.length = S.n) (j : Int) (hj : ¬ S.inn j) : stOf l j = Blk.zero := by
  unfold stOf DS.inn at *
  split
  · rw [List.getD_eq_getElem?_getD, List.getElem?_eq_none (by omega)]; rfl
  · rfl

set_option maxRecDepth 100000 in
set_option maxHeartbeats 1000000 in
theorem rload_any {R : Nat → Prop} {w : World} {y q : Nat} {S : DS} (h : RD w y q S R) {a : Option Addr} {n c : Nat} {l : List Blk} (hl : Bls w a n c l) (hlR : ∀ x : Addr, 0 < n → a = some x → ¬ R x.block) :
    Calls Try.prog 30 #[.pointer (some ⟨y, 0, none⟩), .slice a n c] w fun e w' => e = .returned (.int .i64 (loadErr S l)) ∧ RD w' y q (S.load l) R ∧ Stp R w w' := by
  have hok := h.ok
  obtain ⟨s, t, v, hk⟩ := h
  have c1 := hk.c1
  have n2 := hok.n2
  have hlen := hl.len
  unfold DS.load loadErr
  by_cases he : l.length = S.n
  · rw [if_pos he, if_pos he]
    have hn : n = S.n := by omega
    subst hn
    have hh : ¬ (S.n : Int) ≠ (S.n : Int) := by simp
    have start : Rk w y q s t v (S.part (stOf l) (lft 0)) R := by rw [part_zero]; exact hk
    go_enter Try.func30, Try.ntmps30
    go_wp2_with fail
    clear hk
    go_loopw [5] (fun i wr => ∃ (k : Nat) (v : Nat → Value), k ≤ S.n ∧ i = .int .i64 k ∧ Rk wr y q s t v (S.part (stOf l) (lft k)) R ∧ Stp R w wr) (fun i _ => S.n - (intOf i).toNat)
    case atStart => exact ⟨0, v, Nat.zero_le _, rfl, start, Stp.refl _ _⟩
    case round =>
      clear start
      obtain ⟨k, v', hkn, rfl, hk, kw⟩ := hrel
      by_cases hlt : k < S.n
      · have i1 : (0 : Int) ≤ (k : Int) := by omega
        have i2 : (k : Int) < (S.n : Int) := by omega
        have hkk : k < (S.part (stOf l) (lft k)).n := hlt
        obtain ⟨b, o, rfl, hc⟩ := hl.cell (by omega)
        have hbR : ¬ R b := hlR ⟨b, o, none⟩ (by omega) rfl
        have hr : wr.rangeAt b (o + k * 64) (l.getD k Blk.zero).cs := kw.range (hc k hlt) hbR
        have hX : Hid (stOf l k = l.getD k Blk.zero) := stOf_nat l k
        clear hc
        obtain ⟨X, hXe⟩ : ∃ X, l.getD k Blk.zero = X := ⟨_, rfl⟩
        rw [hXe] at hr hX
        clear hXe
        have one := X.cs_one
        have len := X.cs_len
        have s36 := size36 X
        have u36' := u36
        have d1 := hk.step (Stp.refl (fun _ => False) wr).drew (fun _ _ => id)
        have hr1 := (Stp.refl (fun _ => False) wr).drew.range hr id
        have t1 := d1.th k hkk
        have d2 := d1.setSt hkk X
        have wc2 := d2.wc k hkk
        have wz2 := d2.wz k hkk
        have d3 := d2.clr hkk
        have hr2 := (Stp.of_setCells wr.drew s (k * 64) X.cs (F := R) (.inl d1.rs)).range hr1 hbR
        have hr3 := ((Stp.refl R (wr.drew.setCells s (k * 64) X.cs)).setCell (p := ⟨t, k, none⟩) (.inl d1.rt) (.slice none 0 0)).range hr2 hbR
        have kR : Stp R wr ((wr.drew.setCells s (k * 64) X.cs).setCell ⟨t, k, none⟩ (.slice none 0 0)) := ((Stp.refl R wr).drew.trans (Stp.of_setCells wr.drew s (k * 64) X.cs (.inl d1.rs))).setCell (p := ⟨t, k, none⟩) (.inl d1.rt) _
        have kS := kw.trans kR
        go_wp2_with fail
        go_region_held3 (fun u => u.cell? ⟨y, 1, none⟩ = some (.slice (some ⟨s, 0, none⟩) S.n S.n) ∧ u.cell? ⟨y, 2, none⟩ = some (.slice (some ⟨t, 0, none⟩) S.n S.n) ∧ u.rangeAt b (o + k * 64) X.cs)
          (first | exact ⟨d1.c1, d1.c2, hr1⟩ | exact ⟨d2.c1, d2.c2, hr2⟩ | exact ⟨d3.c1, d3.c2, hr3⟩) (fail)
        rw [← hX.out, part_next S (stOf l) k, hX.out] at d3
        clear hr hr1 hr2 hr3 t1 d1 d2 wc2 wz2 kR kw hk
        go_wp2_with fail
        go_roundw
        case rel => exact ⟨k + 1, _, by omega, by go_num, d3, kS⟩
        case measure => simp [intOf]; omega
      · obtain rfl : k = S.n := by omega
        rw [part_all hok (stOf l) (fun j hj => stOf_out he j hj)] at hk
        go_wp2_with fail
        go_returns
        exact ⟨rfl, ⟨s, t, v', hk⟩, kw⟩
  · rw [if_neg he, if_neg he]
    have hn : ¬ (n : Int) = (S.n : Int) := by omega
    go_enter Try.func30, Try.ntmps30
    go_wp2_with fail
    go_returns
    exact ⟨rfl, ⟨s, t, v, hk⟩, Stp.refl _ _⟩
end Go.Proofs.Ytdjkdkekcjmokaa
