/-
  What Load of the code's disk leaves: no statement is proved here.
-/
import Derived.Test.YtdjkdkekcjmokaaRfI
namespace Go.Proofs.Ytdjkdkekcjmokaa
open Go.ChangeShapes Go.WideShapes Go.ChangeAt Go.RowKit
set_option linter.unusedVariables false

set_option maxRecDepth 100000 in
set_option maxHeartbeats 1000000 in
theorem load_any {F : Nat → Prop} {w : World} {g : Nat} {sp : Value} {S : DS} (h : Disk w g sp S F) {a : Option Addr} {n c : Nat} {l : List Blk} (hl : Bls w a n c l) (hlF : ∀ x : Addr, 0 < n → a = some x → ¬ F x.block) :
    Calls Try.prog 29 #[.pointer (some ⟨g, 0, none⟩), .slice a n c] w fun e w' => e = .returned (.int .i64 (loadErr S l)) ∧ Disk w' g sp (S.load l) F ∧ Stp F w w' := by
  obtain ⟨m1, m2, f, hd, hm⟩ := h
  have hok := hd.ok
  have n2 := hok.n2
  have c0 := hd.c0
  have hlen := hl.len
  unfold DS.load loadErr
  by_cases he : l.length = S.n
  · rw [if_pos he, if_pos he]
    have hn : n = S.n := by omega
    subst hn
    have start : Disk w g sp (S.part (stOf l) (lft 0)) F := by rw [part_zero]; exact ⟨m1, m2, f, hd, hm⟩
    go_enter Try.func29, Try.ntmps29
    go_wp2_with fail
    clear hd hm c0
    go_loopw [18] (fun i wr => ∃ (k : Nat), k ≤ S.n ∧ i = .int .i64 k ∧ Disk wr g sp (S.part (stOf l) (lft k)) F ∧ Stp F w wr) (fun i _ => S.n - (intOf i).toNat)
    case atStart => exact ⟨0, Nat.zero_le _, rfl, start, Stp.refl _ _⟩
    case round =>
      clear start
      obtain ⟨k, hkn, rfl, hD, kw⟩ := hrel
      by_cases hlt : k < S.n
      · have i1 : (0 : Int) ≤ (k : Int) := by omega
        have i2 : (k : Int) < (S.n : Int) := by omega
        obtain ⟨b, o, rfl, hc⟩ := hl.cell (by omega)
        have hbF : ¬ F b := hlF ⟨b, o, none⟩ (by omega) rfl
        have hr : wr.rangeAt b (o + k * 64) (l.getD k Blk.zero).cs := kw.range (hc k hlt) hbF
        have hX : Hid (stOf l k = l.getD k Blk.zero) := stOf_nat l k
        clear hc
        obtain ⟨X, hXe⟩ : ∃ X, l.getD k Blk.zero = X := ⟨_, rfl⟩
        rw [hXe] at hr hX
        clear hXe
        have hr1 := World.rangeAt_alloc hr (.cells Blk.zero.cs.toArray 36)
        obtain ⟨m1, m2, f, hd, hm⟩ := hD
        have sA : Stp (fun _ => False) wr (wr.alloc (.cells X.cs.toArray 36)) := Stp.of_alloc _ _ _
        have hset := settle_any (hd.step sA (fun _ _ => id)) (hm.step sA id) k ⟨by omega, by show (k : Int) < (S.n : Int); omega⟩ X
        have hF1 := hd.f1
        have hF2 := hd.f2
        go_wp2_with (first
          | (refine at_load (by rfl) _ (by rfl) b (o + k * 64) (by rfl) X hr ?_)
          | (refine at_alloc (by rfl) (by rfl) ?_)
          | (refine at_store (by rfl) _ _ (by rfl) _ _ (by rfl) X (by rfl) (there_made wr) ?_; rw [setCells_made])
          | (refine at_load (by rfl) _ (by rfl) wr.heap.size 0 (by rfl) X (made_range wr _ _) ?_)
          | (go_at_call 37; refine hset.mono ?_; rintro e u1 ⟨rfl, hd1, hm1, k1⟩))
        rw [← hX.out] at hd1
        rw [settle_two, part_next] at hd1
        have kS := (kw.trans (sA.mono (fun x hx => hx.elim))).trans (k1.mono (F' := F) (fun x hx => .inl (by rcases hx with rfl | rfl; exact hF1; exact hF2)))
        clear hd hm hset hr hr1 sA k1
        go_roundw
        case rel => exact ⟨k + 1, by omega, by go_num, ⟨m1, m2, _, hd1, hm1⟩, kS⟩
        case measure => simp [intOf]; omega
      · obtain rfl : k = S.n := by omega
        rw [part_all hok (stOf l) (fun j hj => stOf_out he j hj)] at hD
        go_wp2_with fail
        go_returns
        exact ⟨rfl, hD, kw⟩
  · rw [if_neg he, if_neg he]
    have hn : ¬ (n : Int) = (S.n : Int) := by omega
    go_enter Try.func29, Try.ntmps29
    go_wp2_with fail
    go_returns
    exact ⟨rfl, ⟨m1, m2, f, hd, hm⟩, Stp.refl _ _⟩
end Go.Proofs.Ytdjkdkekcjmokaa
