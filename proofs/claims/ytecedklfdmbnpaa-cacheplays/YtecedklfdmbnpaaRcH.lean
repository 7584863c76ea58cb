/-
  What Pin, Unpin, Held, Changed, Sync and New of the document's cache do: no statement is proved here.
-/
import Derived.Test.YtecedklfdmbnpaaRcG
namespace Go.Proofs.Ytecedklfdmbnpaa
open Go.ChangeShapes Go.WideShapes Go.ChangeAt Go.RowKit
set_option linter.unusedVariables false
set_option linter.unusedSimpArgs false

set_option maxRecDepth 100000 in
theorem rpin_any {w : World} {yc y q : Nat} {Z : CZ} {s : PS} {lv : Value} {E R : Nat → Prop} {t : Nat} (H : Rx w yc y q Z s lv E R) (ok : Z.ok t) (i : Int) :
    Calls Try.prog 34 #[.pointer (some ⟨yc, 0, none⟩), .int .i64 i] w fun r w' => r = .returned (.int .i64 (Z.pinE i)) ∧ RTo yc y q E R (Z.pin i) w w' := by
  have hlen : Z.l.length ≤ 64 := by have := ok.len; have := ok.n2; omega
  have hfi := rfind_any H i hlen
  obtain ⟨y0, y1, y2, y3, y4⟩ := H.cells
  cases hq : fnd Z.l i with
  | none =>
    have e1 : Z.pinE i = 5 := by unfold CZ.pinE; rw [hq]
    have e2 : Z.pin i = Z := by unfold CZ.pin; rw [hq]
    have e3 : pos Z.l i = -1 := by unfold pos; rw [hq]
    rw [e1, e2]; rw [e3] at hfi; clear e1 e2 e3
    go_enter Try.func34, Try.ntmps34
    go_wp2_with (go_at_call 45; refine hfi.mono ?_; rintro e w1 ⟨rfl, rfl⟩)
    go_returns
    exact ⟨rfl, H.here (Stp.refl _ _)⟩
  | some p =>
    obtain ⟨k1, k2, k3⟩ := idx_some hq
    have hset := fun q' => set_idx ok.nd hq q'
    have e1 : Z.pinE i = 0 := by unfold CZ.pinE; rw [hq]
    have e2 : Z.pin i = Z.setP i ⟨p.b, p.ch, wrap64 (p.pn + 1)⟩ := by unfold CZ.pin; rw [hq]
    have e3 : pos Z.l i = (idx Z.l i : Int) := by unfold pos; rw [hq]
    rw [e1, e2]; rw [e3] at hfi; clear e1 e2 e3
    generalize idx Z.l i = k at *
    have hne : Z.l ≠ [] := by intro e; rw [e] at k1; simp at k1
    obtain ⟨g0, cap, cur, elv, hw⟩ := H.ow.row1 hne
    subst elv
    have rk := hw.range k k1
    rw [k2] at rk
    have x1 := onc_pn rk
    have x2 := hw.frozen (k * 67 + 66)
    have a1 : (0 : Int) ≤ (k : Int) := by omega
    have a2 : (k : Int) < (Z.l.length : Int) := by omega
    have hX := H.set hw k k1 66 [.int .i64 (wrap64 (p.pn + 1))] (i, ⟨p.b, p.ch, wrap64 (p.pn + 1)⟩) (by simp) (by intro v hv; simp at hv; subst hv; rfl) (by rw [k2]; exact onc_set_pn (i, p) _)
    rw [hset] at hX
    have hEg := H.eo g0 rfl
    clear k2 k3 hset rk
    go_enter Try.func34, Try.ntmps34
    go_wp2_with (go_at_call 45; refine hfi.mono ?_; rintro e w1 ⟨rfl, rfl⟩)
    go_returns
    exact ⟨rfl, s, _, E, R, hX, (stp_sc w g0 (k * 67 + 66) [.int .i64 (wrap64 (p.pn + 1))]).mono (fun x e => Or.inl (Or.inl (e ▸ hEg.1))), Grew.refl _ _ _, Grew.refl _ _ _⟩
set_option maxRecDepth 100000 in
theorem runpin_any {w : World} {yc y q : Nat} {Z : CZ} {s : PS} {lv : Value} {E R : Nat → Prop} {t : Nat} (H : Rx w yc y q Z s lv E R) (ok : Z.ok t) (i : Int) :
    Calls Try.prog 35 #[.pointer (some ⟨yc, 0, none⟩), .int .i64 i] w fun r w' => r = .returned (.int .i64 (Z.unpinE i)) ∧ RTo yc y q E R (Z.unpin i) w w' := by
  have hlen : Z.l.length ≤ 64 := by have := ok.len; have := ok.n2; omega
  have hfi := rfind_any H i hlen
  obtain ⟨y0, y1, y2, y3, y4⟩ := H.cells
  cases hq : fnd Z.l i with
  | none =>
    have e1 : Z.unpinE i = 5 := by unfold CZ.unpinE; rw [hq]
    have e2 : Z.unpin i = Z := by unfold CZ.unpin; rw [hq]
    have e3 : pos Z.l i = -1 := by unfold pos; rw [hq]
    rw [e1, e2]; rw [e3] at hfi; clear e1 e2 e3
    go_enter Try.func35, Try.ntmps35
    go_wp2_with (go_at_call 45; refine hfi.mono ?_; rintro e w1 ⟨rfl, rfl⟩)
    go_returns
    exact ⟨rfl, H.here (Stp.refl _ _)⟩
  | some p =>
    obtain ⟨k1, k2, k3⟩ := idx_some hq
    have hset := fun q' => set_idx ok.nd hq q'
    have e3 : pos Z.l i = (idx Z.l i : Int) := by unfold pos; rw [hq]
    rw [e3] at hfi; clear e3
    generalize idx Z.l i = k at *
    have hne : Z.l ≠ [] := by intro e; rw [e] at k1; simp at k1
    obtain ⟨g0, cap, cur, elv, hw⟩ := H.ow.row1 hne
    subst elv
    have rk := hw.range k k1
    rw [k2] at rk
    have x1 := onc_pn rk
    have x2 := hw.frozen (k * 67 + 66)
    have a1 : (0 : Int) ≤ (k : Int) := by omega
    have a2 : (k : Int) < (Z.l.length : Int) := by omega
    have a3 : ¬ ((k : Int) < 0) := by omega
    by_cases h0 : p.pn = 0
    · have e1 : Z.unpinE i = 5 := by unfold CZ.unpinE; rw [hq]; simp [h0]
      have e2 : Z.unpin i = Z := by unfold CZ.unpin; rw [hq]; simp [h0]
      rw [e1, e2]; clear e1 e2
      simp only [h0] at x1
      clear k2 k3 hset rk
      go_enter Try.func35, Try.ntmps35
      go_wp2_with (go_at_call 45; refine hfi.mono ?_; rintro e w1 ⟨rfl, rfl⟩)
      go_returns
      exact ⟨rfl, H.here (Stp.refl _ _)⟩
    · have e1 : Z.unpinE i = 0 := by unfold CZ.unpinE; rw [hq]; simp [h0]
      have e2 : Z.unpin i = Z.setP i ⟨p.b, p.ch, wrap64 (p.pn - 1)⟩ := by unfold CZ.unpin; rw [hq]; simp [h0]
      rw [e1, e2]; clear e1 e2
      have a5 : (p.pn == 0) = false := by simpa using h0
      have a6 : (decide ((k : Int) < 0) || p.pn == 0) = false := by simp [a5]
      have hX := H.set hw k k1 66 [.int .i64 (wrap64 (p.pn - 1))] (i, ⟨p.b, p.ch, wrap64 (p.pn - 1)⟩) (by simp) (by intro v hv; simp at hv; subst hv; rfl) (by rw [k2]; exact onc_set_pn (i, p) _)
      rw [hset] at hX
      have hEg := H.eo g0 rfl
      clear k2 k3 hset rk
      go_enter Try.func35, Try.ntmps35
      go_wp2_with (go_at_call 45; refine hfi.mono ?_; rintro e w1 ⟨rfl, rfl⟩)
      go_returns
      exact ⟨rfl, s, _, E, R, hX, (stp_sc w g0 (k * 67 + 66) [.int .i64 (wrap64 (p.pn - 1))]).mono (fun x e => Or.inl (Or.inl (e ▸ hEg.1))), Grew.refl _ _ _, Grew.refl _ _ _⟩
theorem owV_empty (w : World) : OwV (w.alloc (.cells #[] 3)) (.slice (some ⟨w.heap.size, 0, none⟩) 0 0) [] := Rw1.own (l := []) (cur := #[]) ⟨heap_alloc_new w _, Nat.le_refl _, by decide, rfl, rfl⟩
theorem bs0I (w : World) : (Instr.buildSlice 51 0 #[]).run Try.prog w = .ok (.slice (some ⟨w.heap.size, 0, none⟩) 0 0) (w.alloc (.cells #[] 3)) := by kernel_rfl
theorem at_bs0I {ops : Array Oper} {rest : List Oper} {o : Oper} {a : Act} {w : World} {Q : Exit → Act → World → Prop} (hw : Region.wanted o (yielded ops a.tmps) = true) (ho : o.op = .buildSlice 51 0 #[])
    (h : ∀ g w', w.heap.size ≤ g → OwV w' (.slice (some ⟨g, 0, none⟩) 0 0) [] → Below w.heap.size w w' → wpList Try.prog ops Q rest (a.put o.dst (.slice (some ⟨g, 0, none⟩) 0 0)) w') : wpList Try.prog ops Q (o :: rest) a w := by
  refine wpList_val hw _ _ ?_ (h w.heap.size _ (Nat.le_refl _) (owV_empty w) ((Below.refl _ _).alloc (Nat.le_refl _) _))
  simp [execOp, ho, bs0I]
set_option maxRecDepth 100000 in
set_option maxHeartbeats 2000000 in
theorem rheld_any {w : World} {yc y q : Nat} {Z : CZ} {s : PS} {lv : Value} {E R : Nat → Prop} {t : Nat} (H : Rx w yc y q Z s lv E R) (ok : Z.ok t) :
    Calls Try.prog 16 #[.pointer (some ⟨yc, 0, none⟩)] w fun r w' => ∃ v', r = .returned v' ∧ OwV w' v' (keys Z.l) ∧ Below w.heap.size w w' := by
  have hlen : Z.l.length ≤ 64 := by have := ok.len; have := ok.n2; omega
  obtain ⟨a0, c0, rfl⟩ := H.ow.shape
  go_enter Try.func16, Try.ntmps16
  go_wp2_with (refine at_bs0I (by rfl) (by rfl) ?_; intro g1 w1 a1 o1 b1)
  go_loopw [3, 4] (fun vo vj wr => ∃ j : Nat, j ≤ Z.l.length ∧ vj = .int .i64 (j : Int) ∧ OwV wr vo ((keys Z.l).take j) ∧ New w.heap.size vo ∧ Below w.heap.size w wr) (fun _ vj _ => Z.l.length - (intOf vj).toNat)
  case atStart => exact ⟨0, Nat.zero_le _, rfl, o1, new_at a1, b1⟩
  case round =>
    obtain ⟨j, hj, rfl, ho, hN, hb⟩ := hrel
    have H2 := H.later hb
    obtain ⟨y0, y1, y2, y3, y4⟩ := H2.cells
    by_cases hlt : j < Z.l.length
    · have hlt' : (j : Int) < (Z.l.length : Int) := by omega
      have hne : Z.l ≠ [] := by intro e; rw [e] at hlt; simp at hlt
      obtain ⟨g0, cap, cur, e1, hw⟩ := H2.ow.row1 hne
      obtain ⟨p1, -, p2⟩ := Value.slice.inj e1
      subst p1; subst p2; clear e1
      have x1 := onc_at (hw.range j hlt)
      have hT : Hid ((keys Z.l).take (j + 1) = (keys Z.l).take j ++ [(Z.l.getD j e0).1]) := by
        show _ = _
        rw [List.take_add_one, List.getD_eq_getElem?_getD, List.getElem?_eq_getElem hlt]
        unfold keys
        rw [List.getElem?_map, List.getElem?_eq_getElem hlt]; rfl
      have hul : ((keys Z.l).take j).length ≤ 64 := by rw [List.length_take, keys_len]; omega
      generalize (Z.l.getD j e0).1 = kj at *
      have b3 : Below wr.heap.size wr (wr.alloc (.cells #[.int .i64 kj] 3)) := (Below.refl _ wr).alloc (Nat.le_refl _) _
      have ho3 := ho.later b3
      go_wp2_with (at_builtin; refine at_appI rfl _ _ rfl rfl ho3 hN ⟨wr.heap.size, 0, none⟩ kj rfl (cell_one_new _ _ _) (by omega) (Nat.le_trans hb.size b3.size) ?_; intro v4 w4 o4 n4 s4)
      go_roundw
      case rel => exact ⟨j + 1, by omega, by go_num, by rw [hT.out]; exact o4, n4, ((Stp.of_below (bnext hb b3 (Nat.le_refl _)) (fun x => w.heap.size ≤ x)).next s4 (fun x e => .inl (hN x e))).below (Nat.le_refl _) (fun _ h => h)⟩
      case measure => simp [intOf]; omega
    · obtain rfl : j = Z.l.length := by omega
      rw [← keys_len, List.take_length] at ho
      go_wp2
      go_returns
      exact ⟨_, rfl, ho, hb⟩
set_option maxRecDepth 100000 in
set_option maxHeartbeats 2000000 in
theorem rchanged_any {w : World} {yc y q : Nat} {Z : CZ} {s : PS} {lv : Value} {E R : Nat → Prop} {t : Nat} (H : Rx w yc y q Z s lv E R) (ok : Z.ok t) :
    Calls Try.prog 18 #[.pointer (some ⟨yc, 0, none⟩)] w fun r w' => ∃ v', r = .returned v' ∧ OwV w' v' Z.chg ∧ New w.heap.size v' ∧ Below w.heap.size w w' := by
  have hlen : Z.l.length ≤ 64 := by have := ok.len; have := ok.n2; omega
  have hn2 : Z.d.n ≤ 2048 := H.rd.ok.n2
  obtain ⟨a0, c0, rfl⟩ := H.ow.shape
  go_enter Try.func18, Try.ntmps18
  go_wp2_with (refine at_bs0I (by rfl) (by rfl) ?_; intro g1 w1 a1 o1 b1)
  go_loopw [3, 4] (fun vo vj wr => ∃ j : Nat, j ≤ Z.d.n ∧ vj = .int .i64 (j : Int) ∧ OwV wr vo (chgN Z.l j) ∧ New w.heap.size vo ∧ Below w.heap.size w wr) (fun _ vj _ => Z.d.n - (intOf vj).toNat)
  case atStart => exact ⟨0, Nat.zero_le _, rfl, o1, new_at a1, b1⟩
  case round =>
    obtain ⟨j, hj, rfl, ho, hN, hb⟩ := hrel
    have H2 := H.later hb
    obtain ⟨y0, y1, y2, y3, y4⟩ := H2.cells
    obtain ⟨sb, yS⟩ := H2.stable
    by_cases hlt : j < Z.d.n
    · have hlt' : (j : Int) < (Z.d.n : Int) := by omega
      have hfi := rfind_any H2 (j : Int) hlen
      have hul := chgN_len Z.l j
      have b3 : Below wr.heap.size wr (wr.alloc (.cells #[.int .i64 (j : Int)] 3)) := (Below.refl _ wr).alloc (Nat.le_refl _) _
      have ho3 := ho.later b3
      cases hq : fnd Z.l (j : Int) with
      | none =>
        have e3 : pos Z.l (j : Int) = -1 := by unfold pos; rw [hq]
        have hT : Hid (chgN Z.l (j + 1) = chgN Z.l j) := by
          show _ = _
          conv => lhs; unfold chgN
          rw [if_neg (by unfold isCh; rw [hq]; simp)]
        rw [e3] at hfi; clear e3
        go_wp2_with (go_at_call 45; refine hfi.mono ?_; rintro e w2 ⟨rfl, rfl⟩)
        go_roundw
        case rel => exact ⟨j + 1, by omega, by go_num, by rw [hT.out]; exact ho, hN, hb⟩
        case measure => simp [intOf]; omega
      | some p =>
        obtain ⟨k1, k2, k3⟩ := idx_some hq
        have e3 : pos Z.l (j : Int) = (idx Z.l (j : Int) : Int) := by unfold pos; rw [hq]
        rw [e3] at hfi; clear e3 k3
        generalize idx Z.l (j : Int) = k at *
        have hne : Z.l ≠ [] := by intro e; rw [e] at k1; simp at k1
        obtain ⟨g0, cap, cur, e1, hw⟩ := H2.ow.row1 hne
        obtain ⟨p1, -, p2⟩ := Value.slice.inj e1
        subst p1; subst p2; clear e1
        have rk := hw.range k k1
        rw [k2] at rk
        have x1 := onc_ch rk
        have a2 : (k : Int) < (Z.l.length : Int) := by omega
        have a3 : (0 : Int) ≤ (k : Int) := by omega
        clear k2 rk
        cases hch : p.ch with
        | false =>
          simp only [hch] at x1
          have hT : Hid (chgN Z.l (j + 1) = chgN Z.l j) := by
            show _ = _
            conv => lhs; unfold chgN
            rw [if_neg (by unfold isCh; rw [hq]; simp [hch])]
          go_wp2_with (go_at_call 45; refine hfi.mono ?_; rintro e w2 ⟨rfl, rfl⟩)
          go_roundw
          case rel => exact ⟨j + 1, by omega, by go_num, by rw [hT.out]; exact ho, hN, hb⟩
          case measure => simp [intOf]; omega
        | true =>
          simp only [hch] at x1
          have hT : Hid (chgN Z.l (j + 1) = chgN Z.l j ++ [(j : Int)]) := by
            show _ = _
            conv => lhs; unfold chgN
            rw [if_pos (by unfold isCh; rw [hq]; exact hch)]
          go_wp2_with (first
            | (go_at_call 45; refine hfi.mono ?_; rintro e w2 ⟨rfl, rfl⟩)
            | (at_builtin; refine at_appI rfl _ _ rfl rfl ho3 hN ⟨wr.heap.size, 0, none⟩ (j : Int) rfl (cell_one_new _ _ _) (by omega) (Nat.le_trans hb.size b3.size) ?_; intro v4 w4 o4 n4 s4))
          go_roundw
          case rel => exact ⟨j + 1, by omega, by go_num, by rw [hT.out]; exact o4, n4, ((Stp.of_below (bnext hb b3 (Nat.le_refl _)) (fun x => w.heap.size ≤ x)).next s4 (fun x e => .inl (hN x e))).below (Nat.le_refl _) (fun _ h => h)⟩
          case measure => simp [intOf]; omega
    · obtain rfl : j = Z.d.n := by omega
      go_wp2
      go_returns
      exact ⟨_, rfl, ho, hN, hb⟩
/-- Part way. -/
structure RySI (w w1 : World) (yc y q : Nat) (v : Value) (Z : CZ) (E R : Nat → Prop) (t : Nat) (L : List Int) (k : Nat) (wr : World) (Y : CZ) (s : PS) (lv : Value) (E' R' : Nat → Prop) : Prop where
  x : Rx wr yc y q Y s lv E' R'
  ok : Y.ok (t + k)
  eq : CZ.syncL L Z = CZ.syncL (L.drop k) Y
  s : Stp (Rl q E R) w1 wr
  gE : Grew E E' w1 wr
  gR : Grew R R' w1 wr
  ow : OwV wr v L
set_option maxRecDepth 100000 in
set_option maxHeartbeats 2000000 in
theorem rsync_any {w : World} {yc y q : Nat} {Z : CZ} {s : PS} {lv : Value} {E R : Nat → Prop} {t : Nat} (H : Rx w yc y q Z s lv E R) (ok : Z.ok t) (ht : t ≤ 9000) :
    Calls Try.prog 37 #[.pointer (some ⟨yc, 0, none⟩)] w fun r w' => r = .returned (.int .i64 (CZ.syncL Z.chg Z).1) ∧ RTo yc y q E R (CZ.syncL Z.chg Z).2 w w' := by
  have hC := rchanged_any H ok
  have hlen := chg_len ok
  generalize Z.chg = L at *
  go_enter Try.func37, Try.ntmps37
  go_wp2_with (first
    | (go_at_call 18; refine hC.mono ?_; rintro e w1 ⟨v1, rfl, o1, n1, b1⟩
       obtain ⟨a1, m1, c1, hv1⟩ : ∃ a m c, v1 = .slice a m c ∧ m = L.length := by
         rcases o1.row with ⟨e, e2⟩ | ⟨g0, cap, cur, e, _⟩
         · exact ⟨_, _, _, e, by rw [e2]; rfl⟩
         · exact ⟨_, _, _, e, rfl⟩
       obtain ⟨hv1, hm1⟩ := hv1
       subst hv1; subst hm1))
  have hvr : ∀ r, (Value.slice a1 L.length c1).ownBlock = some r → w.heap.size ≤ r ∧ r < w1.heap.size := fun r hr => ⟨n1 r hr, o1.lt hr⟩
  have start : RySI w w1 yc y q (.slice a1 L.length c1) Z E R t L 0 w1 Z s lv E R := ⟨H.later b1, ok, rfl, Stp.refl _ _, Grew.refl _ _ _, Grew.refl _ _ _, o1⟩
  go_loopw [4] (fun iv wr => ∃ k : Nat, k ≤ L.length ∧ iv = .int .i64 (k : Int) ∧ ∃ Y s lv E' R', RySI w w1 yc y q (.slice a1 L.length c1) Z E R t L k wr Y s lv E' R') (fun iv _ => L.length - (intOf iv).toNat)
  case atStart => exact ⟨0, Nat.zero_le _, rfl, _, _, _, _, _, start⟩
  case round =>
    clear start
    obtain ⟨k, hk, rfl, Y, s2, lv2, E2, R2, I⟩ := hrel
    by_cases hlt : k < L.length
    · have hlt' : (k : Int) < (L.length : Int) := by omega
      have hne : L ≠ [] := by intro e; rw [e] at hlt; simp at hlt
      obtain ⟨g0, cap, cur, e1, hw⟩ := I.ow.row1 hne
      obtain ⟨p1, -, p2⟩ := Value.slice.inj e1
      subst p1; subst p2; clear e1
      have ck := hw.cell k hlt
      have hB := rback_any I.x I.ok (by omega) (L.getD k 0)
      have hd : L.drop k = L.getD k 0 :: L.drop (k + 1) := by
        rw [List.getD_eq_getElem?_getD, List.getElem?_eq_getElem hlt, List.drop_eq_getElem_cons hlt]; rfl
      have he := I.eq
      rw [hd] at he
      generalize L.getD k 0 = x at *
      have hnF : ∀ r, w.heap.size ≤ r → r < w1.heap.size → ¬ Rl q E2 R2 r := fun r h1 h2 e => by
        rcases e with e | e | e
        · rcases I.gE r e with e | e
          · have := H.lt r e; omega
          · omega
        · rcases I.gR r e with e | e
          · have := H.rd.lt r e; omega
          · omega
        · have := H.qt; omega
      rw [syncL_cons] at he
      by_cases hbE : Y.backE x = 0
      · rw [if_pos hbE] at he
        rw [hbE] at hB
        have hE : Hid (CZ.syncL L Z = CZ.syncL (L.drop (k + 1)) (Y.back x)) := he
        clear he hd hbE
        go_wp2_with (go_at_call 36; refine hB.mono ?_; rintro e w2 ⟨rfl, s3, lv3, E3, R3, H3, st3, gE3, gR3⟩)
        go_roundw
        case rel =>
          obtain ⟨_, _, _, _, _, q1, q2, q3⟩ := RTo.mk' I.s ⟨s3, lv3, E3, R3, H3, st3, gE3, gR3⟩ I.gE I.gR
          have q2' : Grew E E3 w1 w2 := Grew.trans I.gE gE3 I.s.size st3.size
          have q3' : Grew R R3 w1 w2 := Grew.trans I.gR gR3 I.s.size st3.size
          exact ⟨k + 1, by omega, by go_num, _, _, _, _, _, H3, by have := I.ok.back x; rw [show t + (k + 1) = t + k + 1 by omega]; exact this, hE.out, q1, q2', q3', I.ow.step st3 (fun r hr => by have := hvr r hr; exact hnF r this.1 this.2)⟩
        case measure => simp [intOf]; omega
      · rw [if_neg hbE] at he
        have hE : Hid (CZ.syncL L Z = (Y.backE x, Y.back x)) := he
        clear he hd
        go_wp2_with (go_at_call 36; refine hB.mono ?_; rintro e w2 ⟨rfl, hT⟩)
        go_returns
        refine ⟨by rw [hE.out]; rfl, ?_⟩
        rw [hE.out]
        exact (RTo.mk' I.s hT I.gE I.gR).pre b1
    · obtain rfl : k = L.length := by omega
      have he := I.eq
      rw [List.drop_length] at he
      have hE : Hid (CZ.syncL L Z = (0, Y)) := he
      clear he
      go_wp2
      go_returns
      refine ⟨by rw [hE.out]; rfl, ?_⟩
      rw [hE.out]
      exact RTo.pre ⟨_, _, _, _, I.x, I.s, I.gE, I.gR⟩ b1
theorem rcnew_bad {w : World} (y : Nat) (n : Int) (h : n < 1 ∨ 64 < n) :
    Calls Try.prog 11 #[.pointer (some ⟨y, 0, none⟩), .int .i64 n] w fun e w' => e = .returned (.tuple #[.pointer none, .int .i64 2]) ∧ w = w' := by
  by_cases h1 : n < 1
  · clear h
    go_enter Try.func11, Try.ntmps11
    go_wp2
    go_returns
    exact ⟨rfl, rfl⟩
  · have h2 : 64 < n := by omega
    clear h
    go_enter Try.func11, Try.ntmps11
    go_wp2
    go_returns
    exact ⟨rfl, rfl⟩
theorem rcnew_good {w : World} {y q : Nat} {d : DS} {s : PS} {R : Nat → Prop} (hd : RD w y q d R) (hr : Rw w q (ref s)) (hq : ¬ R q) (hqt : q < w.heap.size) (n : Nat) (h1 : 1 ≤ n) (h2 : n ≤ 64) :
    Calls Try.prog 11 #[.pointer (some ⟨y, 0, none⟩), .int .i64 (n : Int)] w fun e w' => ∃ yc, e = .returned (.tuple #[.pointer (some ⟨yc, 0, none⟩), .int .i64 0]) ∧ w.heap.size ≤ yc ∧ Rx w' yc y q (CZ.new d (some s) n) s (.slice none 0 0) (fun x => x = yc) R ∧ Below w.heap.size w w' := by
  have a1 : (1 : Int) ≤ (n : Int) := by omega
  have a2 : (n : Int) ≤ 64 := by omega
  go_enter Try.func11, Try.ntmps11
  go_wp2
  go_returns
  have b2 : Below w.heap.size w (w.alloc (.cells #[.pointer (some ⟨y, 0, none⟩), .int .i64 (n : Int), .slice none 0 0, .int .i64 0, .int .i64 0] 49)) := (Below.refl _ w).alloc (Nat.le_refl _) _
  refine ⟨w.heap.size, rfl, Nat.le_refl _, ⟨hd.step (Stp.of_below b2 (fun _ => False)) (fun _ _ => id), rw_step hr (Stp.of_below b2 (fun _ => False)) id hqt, rfl, ?_, OwL.nil _, rfl, (fun r hr => by cases hr), fun x hx e => ?_, fun e => ?_, hq, fun x hx => ?_, Nat.lt_of_lt_of_le hqt b2.size⟩, b2⟩
  · exact Cs.made w [.pointer (some ⟨y, 0, none⟩), .int .i64 (n : Int), .slice none 0 0, .int .i64 0, .int .i64 0] 49 (by intro v hv; simp at hv; rcases hv with rfl | rfl | rfl | rfl <;> rfl)
  · have := hd.lt x e; omega
  · omega
  · subst hx; simp
end Go.Proofs.Ytecedklfdmbnpaa
