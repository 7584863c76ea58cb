/-
  What Crash of the document's disk leaves: no statement is proved here.
-/
import Derived.Test.YtdjkdkekcjmokaaRfD
import Derived.Deep.DeepCutAuto
import Derived.Deep.CutBlock
namespace Go.Proofs.Ytdjkdkekcjmokaa
open Go.ChangeShapes Go.WideShapes Go.ChangeAt Go.RowKit
set_option linter.unusedVariables false

theorem setSt_self (S : DS) (i : Int) (b : Blk) (h : S.st i = b) : S.setSt i b = S := by
  cases S with
  | mk n st wt wr =>
    simp only [DS.setSt, DS.mk.injEq, true_and, and_true]
    refine funext fun k => ?_
    split
    · rename_i e; subst e; exact h.symm
    · rfl
theorem part_st (S : DS) (h : Int → Blk) (k : Nat) : (S.part h (lft k)).st k = S.st k := by unfold DS.part; simp only [if_pos (lft_at k)]
theorem crashed_out {S : DS} (ok : S.ok) (keep : List Int) (j : Int) (hj : ¬ S.inn j) : S.crashed keep j = Blk.zero := by
  unfold DS.crashed shownBy; rw [ok.wt j hj, ok.st j hj]; simp
theorem crashed_none {S : DS} {keep : List Int} {k : Nat} (h : keptN keep k (S.wt k).length = 0) : S.crashed keep k = S.st k := by
  unfold DS.crashed shownBy; rw [h]; rfl
theorem crashed_some {S : DS} {keep : List Int} {k N : Nat} (h : keptN keep k (S.wt k).length = N) (hN : 0 < N) : S.crashed keep k = (S.wt k).getD (N - 1) Blk.zero := by
  have hle := keptN_le keep k (S.wt k).length
  unfold DS.crashed shownBy; rw [h]
  rw [getLastD_getD _ _ (by rw [List.length_take]; omega), List.length_take]
  rw [List.getD_eq_getElem?_getD, List.getD_eq_getElem?_getD, List.getElem?_take, if_pos (by omega), Nat.min_eq_left (by omega)]

set_option maxRecDepth 100000 in
set_option maxHeartbeats 2000000 in
theorem rcrash_any {R : Nat → Prop} {w : World} {y q : Nat} {S : DS} (h : RD w y q S R) {a : Option Addr} {n c : Nat} {keep : List Int} (hw : ∀ k, (S.wt k).length < 100000) (hl : Ins w a n c keep) (hlR : ∀ x : Addr, 0 < n → a = some x → ¬ R x.block) :
    Calls Try.prog 24 #[.pointer (some ⟨y, 0, none⟩), .slice a n c] w fun e w' => e = .returned (.tuple #[]) ∧ RD w' y q (S.crash keep) R ∧ Stp R w w' := by
  have hok := h.ok
  obtain ⟨s, t, v, hk⟩ := h
  have n2 := hok.n2
  have hlen := hl.len
  have hcap := hl.cap
  have hle := hl.le
  unfold maxLen at hcap
  have start : Rk w y q s t v (S.part (S.crashed keep) (lft 0)) R := by rw [part_zero]; exact hk
  clear hk
  go_enter Try.func24, Try.ntmps24
  go_wp2_with fail
  go_loopw [4] (fun i wr => ∃ (k : Nat) (v : Nat → Value), k ≤ S.n ∧ i = .int .i64 k ∧ Rk wr y q s t v (S.part (S.crashed keep) (lft k)) R ∧ Stp R w wr) (fun i _ => S.n - (intOf i).toNat)
  case atStart => exact ⟨0, v, Nat.zero_le _, rfl, start, Stp.refl _ _⟩
  case round =>
    clear start
    obtain ⟨k, v', hkn, rfl, hk, kw⟩ := hrel
    have c1 : wr.cell? ⟨y, 1, none⟩ = some (.slice (some ⟨s, 0, none⟩) S.n S.n) := hk.c1
    have c2 : wr.cell? ⟨y, 2, none⟩ = some (.slice (some ⟨t, 0, none⟩) S.n S.n) := hk.c2
    by_cases hlt : k < S.n
    · have i1 : (0 : Int) ≤ (k : Int) := by omega
      have i2 : (k : Int) < (S.n : Int) := by omega
      have hkk : k < (S.part (S.crashed keep) (lft k)).n := hlt
      -- a round that keeps nothing
      have none0 : keptN keep k (S.wt k).length = 0 → ∀ u, Below wr.heap.size wr u → ∃ v'', Rk (u.setCell ⟨t, k, none⟩ (.slice none 0 0)) y q s t v'' (S.part (S.crashed keep) (lft (k + 1))) R ∧ Stp R w (u.setCell ⟨t, k, none⟩ (.slice none 0 0)) := fun h0 u b => by
        have d := (hk.step (Stp.of_below b (fun _ => False)) (fun _ _ => id)).clr hkk
        rw [← setSt_self (S.part (S.crashed keep) (lft k)) k (S.crashed keep k) (by rw [part_st, crashed_none h0]), part_next] at d
        exact ⟨_, d, kw.trans (((Stp.of_below b R).setCell (p := ⟨t, k, none⟩) (.inl hk.rt) _))⟩
      by_cases hm : k < n
      · obtain ⟨b, o, rfl, hc⟩ := hl.cell (by omega)
        have hbR : ¬ R b := hlR ⟨b, o, none⟩ (by omega) rfl
        have hx : wr.cell? ⟨b, o + k, none⟩ = some (.int .i64 (keep.getD k 0)) := kw.cell (hc k hm) hbR
        have hxw : (Lit.int .i64 (keep.getD k 0)).wf = true := by
          rw [List.getD_eq_getElem?_getD, List.getElem?_eq_getElem (by omega)]; exact hl.wf _ (List.getElem_mem _)
        have hxb := bounds_i64 hxw
        have hN : Hid (keptN keep k (S.wt k).length = min (keep.getD k 0).toNat (S.wt k).length) := by show _ = _; unfold keptN; rw [Int.toNat_natCast, if_pos (by omega)]
        have wcl := hk.wc k hkk
        obtain ⟨a', c', ev, hB, hxR⟩ := hk.wv k hkk
        rw [(part_shown S (S.crashed keep) k).2] at ev hB
        rw [ev] at wcl
        have j1 : (k : Int) < (n : Int) := by omega
        have hL := hw k
        have hkeep : ∀ N, 0 < N → keptN keep k (S.wt k).length = N → S.crashed keep k = (S.wt k).getD (N - 1) Blk.zero := fun N h0 e => crashed_some e h0
        clear hc hxw
        generalize keep.getD k 0 = x at *
        obtain ⟨L, hLe⟩ : ∃ L, (S.wt k).length = L := ⟨_, rfl⟩
        rw [hLe] at wcl hB hN hL none0 hkeep ev
        obtain ⟨N, hNe⟩ : ∃ N, min x.toNat L = N := ⟨_, rfl⟩
        rw [hNe] at hN
        have hD : ∀ u, Below wr.heap.size wr u → (u.cell? ⟨b, o + k, none⟩ = some (.int .i64 x) ∧ u.cell? ⟨y, 2, none⟩ = some (.slice (some ⟨t, 0, none⟩) S.n S.n) ∧ u.cell? ⟨t, k, none⟩ = some (.slice a' L c')) := fun u bb => ⟨(Stp.of_below bb (fun _ => False)).cell hx id, (Stp.of_below bb (fun _ => False)).cell c2 id, (Stp.of_below bb (fun _ => False)).cell wcl id⟩
        have b0 : Below wr.heap.size wr wr.drew := (Below.refl _ wr).drew
        have hD0 := hD _ b0
        go_upto_region 5 with fail
        go_cut [5] (fun s5 wx => s5 = .int .i64 (N : Nat) ∧ Below wr.heap.size wr wx)
        case first =>
          go_region_held3 (fun u => u.cell? ⟨b, o + k, none⟩ = some (.int .i64 x) ∧ u.cell? ⟨y, 2, none⟩ = some (.slice (some ⟨t, 0, none⟩) S.n S.n) ∧ u.cell? ⟨t, k, none⟩ = some (.slice a' L c')) (first | exact hD0) (fail)
          go_wp2_with fail
          all_goals
            go_meet
            refine ⟨?_, b0⟩
            congr 1
            rename_i hh
            split at hh <;> (try split) <;> omega
        case rest =>
          obtain ⟨rfl, bw⟩ := hcut
          clear hD hD0 b0
          have dw := hk.step (Stp.of_below bw (fun _ => False)) (fun _ _ => id)
          by_cases hN0 : 0 < N
          · have hNL : N ≤ L := by omega
            have hB' := hB.step (Stp.of_below bw (fun _ => False)) (fun _ _ => id)
            obtain ⟨r, ro, rfl, hcB⟩ := hB'.cell (by omega)
            have hr := hcB (N - 1) (by omega)
            have hrs : r ≠ s := (hxR ⟨r, ro, none⟩ rfl).2.2.1
            have hX : Hid (S.crashed keep k = (S.wt k).getD (N - 1) Blk.zero) := hkeep N hN0 hN.out
            obtain ⟨X, hXe⟩ : ∃ X, (S.wt k).getD (N - 1) Blk.zero = X := ⟨_, rfl⟩
            rw [hXe] at hr hX
            clear hXe hcB hkeep hB hB' none0 hN hNe
            have one := X.cs_one
            have len := X.cs_len
            have s36 := size36 X
            have uB := _root_.Go.Proofs.Ytdjkdkekcjmokaa.u36
            have q1 : IntKind.i64.wrap ((N : Int) - 1) = ((N - 1 : Nat) : Int) := by rw [IntKind.wrap_i64]; omega
            have q2 : ((N - 1 : Nat) : Int) < (L : Int) := by omega
            have q3 : (0 : Int) ≤ ((N - 1 : Nat) : Int) := by omega
            have q4 : (0 : Int) < (N : Int) := by omega
            have d1 := dw.step (Stp.refl (fun _ => False) wc).drew (fun _ _ => id)
            have hr1 := (Stp.refl (fun _ => False) wc).drew.range hr id
            have t1 := d1.th k hkk
            have wc1 : wc.drew.cell? ⟨t, k, none⟩ = some (.slice (some ⟨r, ro, none⟩) L c') := ((Stp.of_below bw (fun _ => False)).drew).cell wcl id
            have d2 := d1.setSt hkk X
            have hr2 := (Stp.of_setCells wc.drew s (k * 64) X.cs (F := fun x => x = s) (.inl rfl)).range hr1 hrs
            have wc2 : (wc.drew.setCells s (k * 64) X.cs).cell? ⟨t, k, none⟩ = some (.slice (some ⟨r, ro, none⟩) L c') := (Stp.of_setCells wc.drew s (k * 64) X.cs (F := fun x => x = s) (.inl rfl)).cell wc1 (fun e => d1.st' e.symm)
            have wz2 := d2.wz k hkk
            have d3 := d2.clr hkk
            rw [← hX.out, part_next S (S.crashed keep) k, hX.out] at d3
            have kR : Stp R wr ((wc.drew.setCells s (k * 64) X.cs).setCell ⟨t, k, none⟩ (.slice none 0 0)) := ((Stp.of_below bw R).drew.trans (Stp.of_setCells wc.drew s (k * 64) X.cs (.inl d1.rs))).setCell (p := ⟨t, k, none⟩) (.inl d1.rt) _
            have kS := kw.trans kR
            have c1' := d1.c1
            have c2' := d2.c2
            clear kR kw hk
            go_wp2_with fail
            go_region_held3 (fun u => u.cell? ⟨y, 1, none⟩ = some (.slice (some ⟨s, 0, none⟩) S.n S.n) ∧ u.cell? ⟨y, 2, none⟩ = some (.slice (some ⟨t, 0, none⟩) S.n S.n) ∧ u.cell? ⟨t, k, none⟩ = some (.slice (some ⟨r, ro, none⟩) L c') ∧ u.rangeAt r (ro + (N - 1) * 64) X.cs)
              (first | exact ⟨d1.c1, d1.c2, wc1, hr1⟩ | exact ⟨d2.c1, d2.c2, wc2, hr2⟩) (fail)
            clear hr1 hr2 hr t1 d1 dw c1 c2 hx wcl
            go_wp2_with fail
            go_roundw
            case rel => exact ⟨k + 1, _, by omega, by go_num, d3, kS⟩
            case measure => simp [intOf]; omega
          · obtain rfl : N = 0 := by omega
            obtain ⟨v2, d, kk⟩ := none0 hN.out wc bw
            have c2' := dw.c2
            have wc2 := dw.wc k hkk
            have wz2 := dw.wz k hkk
            clear none0 hkeep hN hNe hB hk kw
            go_wp2_with fail
            go_roundw
            case rel => exact ⟨k + 1, _, by omega, by go_num, d, kk⟩
            case measure => simp [intOf]; omega
      · have h0 : keptN keep k (S.wt k).length = 0 := by unfold keptN; rw [Int.toNat_natCast, if_neg (by omega)]
        obtain ⟨v2, d, kk⟩ := none0 h0 wr (Below.refl _ _)
        have wc2 := hk.wc k hkk
        have wz2 := hk.wz k hkk
        have j1 : ¬ (k : Int) < (n : Int) := by omega
        clear none0 h0 hk kw
        go_wp2_with fail
        go_roundw
        case rel => exact ⟨k + 1, _, by omega, by go_num, d, kk⟩
        case measure => simp [intOf]; omega
    · obtain rfl : k = S.n := by omega
      rw [part_all hok (S.crashed keep) (fun j hj => crashed_out hok keep j hj)] at hk
      have i2 : ¬ (S.n : Int) < (S.n : Int) := by omega
      go_wp2_with fail
      first | go_end0 | refine bodyPost_ret (results_none rfl _ _ _) rfl ?_
      exact ⟨rfl, ⟨s, t, v', hk⟩, kw⟩
end Go.Proofs.Ytdjkdkekcjmokaa
