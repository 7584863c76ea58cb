/-
  The statement RollRolls, proved: for every sector, all patches and all numbers the law returns true, and what came in reads as it did; no condition.
-/
import Derived.Test.YteceapdkgidenaaRoW
import Derived.Test.YteceapdkgidenaaRoX
import Derived.Test.YteceapdkgidenaaLdIn
namespace Go.Proofs.Yteceapdkgidenaa.rollRolls
open Go.ChangeShapes Go.WideShapes Go.ChangeAt Go.RowKit
set_option linter.unusedVariables false
set_option linter.unusedSimpArgs false

set_option maxRecDepth 100000 in
set_option maxHeartbeats 4000000 in
theorem walk (b : Blk) (a1 : Option Addr) (n1 c1 : Nat) (L : List Pe) (s : Sv) (ids : List Int) (w : World) (w1 : Ps w (fun x => x < w.heap.size) ⟨a1, n1, c1⟩ L) (w2 : InsS w s ids) (w3 : ids.length * 8 ≤ reachBytes) :
    Calls Try.prog 4 #[.agg b.cs.toArray, .slice a1 n1 c1, .slice s.a s.n s.c] w fun e w' => e = .returned (.bool true) ∧ Below w.heap.size w w' := by
  have hb := b.len
  have H0 : PsL w ⟨a1, n1, c1⟩ (pts L) := ⟨L, w1, rfl⟩
  have HI : ∀ u, Below w.heap.size w u → _ := fun u hu => gints_big (w2.later hu) w3
  have h20 := fewL_len (pts L)
  have hsm : ∀ p ∈ fewL (pts L), _ := fun p hp => fewL_small hp
  have hid := fewL_idem (pts L)
  have hfew := fun (u : World) (q : Sv) (h : PsL u q (fewL (pts L))) => few_L h
  rw [hid] at hfew
  have hfew0 := fun (u : World) (h : PsL u ⟨a1, n1, c1⟩ (pts L)) => few_L h
  clear hid w1
  generalize fewL (pts L) = l at *
  generalize pts L = l0 at *
  have hX := (nwB b l).len
  have hY := (nwB b (smP l ids)).len
  have hNow := fun (u : World) (q : Sv) (h : PsL u q l) => now_L h b
  have hRNow := fun (u : World) (q : Sv) (h : PsL u q l) => rnow_L h b
  have hSome := fun (u : World) (q n : Sv) (h : PsL u q l) (hn : InsS u n ids) => some_L h hn b
  have hRSome := fun (u : World) (q n : Sv) (h : PsL u q l) (hn : InsS u n ids) => rsome_L h hn b h20
  have hWo := fun (u : World) (q n : Sv) (h : PsL u q l) (hn : InsS u n ids) => without_L h hn h20 hsm
  have hRWo := fun (u : World) (q n : Sv) (h : PsL u q l) (hn : InsS u n ids) => rwithout_L h hn h20
  have hws : ∀ p ∈ woP l ids, p.needs.length ≤ 100000 := fun p hp => by have := hsm p (List.mem_filter.1 hp).1; omega
  generalize nwB b l = X at *
  generalize nwE l = e0 at *
  generalize nwB b (smP l ids) = Y at *
  generalize nwE (smP l ids) = f0 at *
  generalize woP l ids = q at *
  clear hsm h20
  obtain ⟨sa, sn, sc⟩ := s
  simp only at *
  have heX := eqB X X
  have heY := eqB Y Y
  simp only [decide_true] at heX heY
  have hgb := guardB
  have t1 : Hid True := trivial
  go_enter Try.func4, Try.ntmps4
  go_wp2_with (first
    | (refine at_box 23 64 arrB (by rfl) _ (by rfl) b.l (by rfl) hb ?_; intro g3 u1 k1 z1 r1 b1)
    | (go_at_call 16; clear t1; refine (hfew0 _ (H0.later b1)).mono ?_; rintro e W ⟨⟨la, ln, lc⟩, rfl, P1, b2⟩
       have rb := r1.later b2
       have B1 := bnext b1 b2 (Nat.le_refl _)
       clear r1 b1 b2 hfew0 H0 k1 z1))
  refine wp_region_held_drew (S := fun u => Below W.heap.size W u) (by kernel_rfl) (Below.refl _ _).drew (fun hHeld => ?_)
  rename_i K1 hK1
  have tail1 : ∀ g7 xa xn xc v, Row v g7 X.l → Below W.heap.size W v →
      K1 ⟨#[.agg b.cs.toArray, .slice la ln lc, .slice sa sn sc, .pointer (some ⟨g3, 0, none⟩), undef, undef, .bool false, .pointer (some ⟨g7, 0, none⟩), .int .i64 e0, undef, undef, undef, undef, undef, undef, undef, undef, undef, .slice a1 n1 c1, .slice la ln lc, .tuple #[.agg X.cs.toArray, .int .i64 e0], .agg b.cs.toArray, .slice la ln lc, .slice xa xn xc, .tuple #[.agg X.cs.toArray, .int .i64 e0], .agg X.cs.toArray, .int .i64 e0, undef, undef, undef, undef, undef, undef, undef, undef, undef, undef, undef, undef, undef, undef, undef, undef, undef, undef, undef, undef, undef, undef, undef, undef, undef, undef, undef, undef, undef, undef, undef, undef, undef, undef, undef, undef, undef, undef, undef, undef, undef, undef, undef, undef, undef, undef, undef, undef, undef, undef, undef, undef, undef, undef, undef, undef, undef, undef, undef, undef, undef, undef, undef, undef, undef, undef, undef, undef, undef, undef, undef, undef], []⟩ v := by
    intro g7 xa xn xc v rX hv
    refine hK1 _ _ ?_
    have rb0 := rb.later hv
    have P2 := P1.later hv
    have B2 := bnext B1 hv (Nat.le_refl _)
    clear hK1 hHeld rb P1 B1 hv
    have t1 : Hid True := trivial
    have t2 : Hid True := trivial
    have t3 : Hid True := trivial
    go_wp2_with (first
      | (clear t1; refine at_get 23 64 arrB (by rfl) _ (by rfl) g3 (by rfl) _ rb0 hb ?_)
      | (go_at_call 18; refine (hRNow _ ⟨la, ln, lc⟩ P2).mono ?_; rintro e v3 ⟨rfl, c3⟩)
      | (clear t2; refine at_new 23 64 arrB (by rfl) (by rfl) ?_; intro g9 v4 a4 z4 y4 b4)
      | (clear t3; refine at_put 23 64 arrB (by rfl) _ _ (by rfl) g9 (by rfl) X.l (by rfl) hX _ y4 (by simp) ?_; intro V y9 s9
         have S9 : Stp (fun _ => False) v V := (Stp.of_below (bnext c3 b4 (Nat.le_refl _)) (fun _ => False)).next s9 (fun x hx => .inr (by subst hx; have := c3.size; omega))
         have bV := S9.below (Nat.le_refl _) (fun _ h => h.elim)
         have rb1 := rb0.later bV
         have rX1 := rX.later bV
         have P3 := P2.later bV
         have B3 := bnext B2 bV (Nat.le_refl _)
         clear rb0 rX P2 B2 bV S9 s9 y4 b4 c3 a4 z4 hRNow))
    refine wp_region_held_drew (S := fun u => Below V.heap.size V u) (by kernel_rfl) (Below.refl _ _).drew (fun hHeld => ?_)
    rename_i K2 hK2
    have tail2 : ∀ g11 ya yn yc za zn zc v, Row v g11 Y.l → Below V.heap.size V v →
        K2 ⟨#[.agg b.cs.toArray, .slice la ln lc, .slice sa sn sc, .pointer (some ⟨g3, 0, none⟩), undef, undef, .bool false, .pointer (some ⟨g7, 0, none⟩), .int .i64 e0, .pointer (some ⟨g9, 0, none⟩), .int .i64 e0, .pointer (some ⟨g11, 0, none⟩), .int .i64 f0, undef, undef, undef, undef, undef, .slice a1 n1 c1, .slice la ln lc, .tuple #[.agg X.cs.toArray, .int .i64 e0], .agg b.cs.toArray, .slice la ln lc, .slice xa xn xc, .tuple #[.agg X.cs.toArray, .int .i64 e0], .agg X.cs.toArray, .int .i64 e0, .tuple #[.agg X.cs.toArray, .int .i64 e0], .agg b.cs.toArray, .slice la ln lc, .tuple #[.agg X.cs.toArray, .int .i64 e0], .agg X.cs.toArray, .int .i64 e0, .tuple #[.agg Y.cs.toArray, .int .i64 f0], .agg b.cs.toArray, .slice la ln lc, .slice ya yn yc, .slice sa sn sc, .slice za zn zc, .tuple #[.agg Y.cs.toArray, .int .i64 f0], .agg Y.cs.toArray, .int .i64 f0, undef, undef, undef, undef, undef, undef, undef, undef, undef, undef, undef, undef, undef, undef, undef, undef, undef, undef, undef, undef, undef, undef, undef, undef, undef, undef, undef, undef, undef, undef, undef, undef, undef, undef, undef, undef, undef, undef, undef, undef, undef, undef, undef, undef, undef, undef, undef, undef, undef, undef, undef, undef, undef, undef, undef, undef, undef], []⟩ v := by
      intro g11 ya yn yc za zn zc v rY hv
      refine hK2 _ _ ?_
      have rb0 := rb1.later hv
      have rX0 := rX1.later hv
      have rZ0 := y9.later hv
      have P4 := P3.later hv
      have B4 := bnext B3 hv (Nat.le_refl _)
      clear hK2 hHeld rb1 P3 B3 hv rX1 y9
      have t1 : Hid True := trivial
      have t2 : Hid True := trivial
      have t3 : Hid True := trivial
      go_wp2_with (first
        | (clear t1; refine at_get 23 64 arrB (by rfl) _ (by rfl) g3 (by rfl) _ rb0 hb ?_)
        | (go_at_call 21; refine (hRSome _ ⟨la, ln, lc⟩ ⟨sa, sn, sc⟩ P4 (w2.later B4)).mono ?_; rintro e v3 ⟨rfl, c3⟩)
        | (clear t2; refine at_new 23 64 arrB (by rfl) (by rfl) ?_; intro g13 v4 a4 z4 y4 b4)
        | (clear t3; refine at_put 23 64 arrB (by rfl) _ _ (by rfl) g13 (by rfl) Y.l (by rfl) hY _ y4 (by simp) ?_; intro v5 y5 s5
           have S5 : Stp (fun _ => False) v v5 := (Stp.of_below (bnext c3 b4 (Nat.le_refl _)) (fun _ => False)).next s5 (fun x hx => .inr (by subst hx; have := c3.size; omega))
           have b5 := S5.below (Nat.le_refl _) (fun _ h => h.elim)
           have rX5 := rX0.later b5
           have rY5 := rY.later b5
           have rZ5 := rZ0.later b5
           have P5 := P4.later b5
           have B5 := bnext B4 b5 (Nat.le_refl _)
           clear rb0 rX0 rY rZ0 P4 B4 b5 S5 s5 y4 b4 c3 a4 z4 hRSome)
        | (go_at_call 16; refine (hfew _ ⟨la, ln, lc⟩ P5).mono ?_; rintro e v6 ⟨⟨fa, fn, fc⟩, rfl, Q6, c6⟩
           have B6 := bnext B5 c6 (Nat.le_refl _))
        | (go_at_call 20; refine (HI _ B6).mono ?_; rintro e v7 ⟨⟨ia, ni, ic⟩, rfl, I7, -, c7⟩
           have Q7 := Q6.later c7
           have B7 := bnext B6 c7 (Nat.le_refl _))
        | (go_at_call 22; refine (hWo _ ⟨fa, fn, fc⟩ ⟨ia, ni, ic⟩ Q7 I7).mono ?_; rintro e v8 ⟨⟨ma, mn, mc⟩, rfl, M8, c8⟩
           have B8 := bnext B7 c8 (Nat.le_refl _)
           have P8 := P5.later (bnext (bnext c6 c7 (Nat.le_refl _)) c8 (Nat.le_refl _)))
        | (go_at_call 23; refine (hRWo _ ⟨la, ln, lc⟩ ⟨sa, sn, sc⟩ P8 (w2.later B8)).mono ?_; rintro e v9 ⟨⟨na, nn, nc⟩, rfl, N9, c9⟩
           have bb := bnext (bnext (bnext c6 c7 (Nat.le_refl _)) c8 (Nat.le_refl _)) c9 (Nat.le_refl _)
           have rX9 := rX5.later bb
           have rY9 := rY5.later bb
           have rZ9 := rZ5.later bb
           have rV9 := y5.later bb
           have M9 := M8.later c9
           have B9 := bnext B8 c9 (Nat.le_refl _)
           have hml := M9.len
           have hnl := N9.len
           have hle := M9.le
           simp only at hml hnl hle
           subst hml
           subst hnl
           have u1 : Hid True := trivial
           have u2 : Hid True := trivial
           have u3 : Hid True := trivial
           have u4 : Hid True := trivial
           clear rX5 rY5 rZ5 y5 M8 P8 P5 B5 B6 B7 B8 bb c6 c7 c8 c9 Q6 Q7 I7 hfew HI hWo hRWo hNow hSome w3)
        | (clear u1; refine at_getB (by rfl) _ (by rfl) g7 (by rfl) X rX9 ?_)
        | (clear u2; refine at_getB (by rfl) _ (by rfl) g9 (by rfl) X rZ9 ?_)
        | (clear u3; refine at_getB (by rfl) _ (by rfl) g11 (by rfl) Y rY9 ?_)
        | (clear u4; refine at_getB (by rfl) _ (by rfl) g13 (by rfl) Y rV9 ?_))
      go_loopw [17] (fun v wr => ∃ k : Nat, k ≤ q.length ∧ v = .int .i64 (k : Int) ∧ Below v9.heap.size v9 wr) (fun v _ => q.length - (intOf v).toNat)
      case atStart => exact ⟨0, Nat.zero_le _, rfl, Below.refl _ _⟩
      case round =>
        obtain ⟨k, hk, rfl, hbk⟩ := hrel
        have Mk := M9.later hbk
        have Nk := N9.later hbk
        have Bk := bnext B9 hbk (Nat.le_refl _)
        clear rX9 rY9 rZ9 rV9 heX heY M9 N9 B9
        by_cases hkl : k < q.length
        · have a9 : (k : Int) < (q.length : Int) := by omega
          have hq : q[k]? = some q[k] := List.getElem?_eq_getElem hkl
          have hwq := hws _ (List.getElem_mem hkl)
          generalize q[k] = p at *
          obtain ⟨bm, om, d1, e1, x1, hr1, hm1, _⟩ := Mk.at k p hq
          obtain ⟨bn, on, d2, e2, x2, hr2, hm2, _⟩ := Nk.at k p hq
          simp only at x1 x2
          subst x1
          subst x2
          clear Mk Nk hq hws
          go_wp2_with fail
          refine wp_region_held_drew (S := fun u => Below wr.heap.size wr u) (by kernel_rfl) (Below.refl _ _).drew (fun hHeld => ?_)
          refine wpAnyH_take (i := 0) (oi := { dst := some 88, op := Op.move (Operand.tmp 15), type := 39, pos := _, after := #[], guard := none }) (v := .slice (some ⟨bm, om, none⟩) q.length mc) rfl (by kernel_rfl) (by kernel_rfl) (by kernel_rfl) (fun _ _ _ h => h) (Or.inl ⟨by rfl, ?_⟩) hHeld ?_
          · intro u hu
            go_simp
          try simp only [Act.put, List.setIfInBounds_toArray, List.set_cons_zero, List.set_cons_succ]
          refine wpAnyH_take (i := 1) (oi := { dst := some 89, op := Op.move (Operand.tmp 17), type := 3, pos := _, after := #[], guard := none }) (v := .int .i64 (k : Int)) rfl (by kernel_rfl) (by kernel_rfl) (by kernel_rfl) (fun _ _ _ h => h) (Or.inl ⟨by rfl, ?_⟩) hHeld ?_
          · intro u hu
            go_simp
          try simp only [Act.put, List.setIfInBounds_toArray, List.set_cons_zero, List.set_cons_succ]
          refine wpAnyH_take (i := 2) (oi := { dst := some 90, op := Op.indexAddr 39 (Operand.tmp 88) (Operand.tmp 89), type := 0, pos := _, after := #[{ on := 0, ground := Ground.data }, { on := 1, ground := Ground.data }], guard := none }) (v := .pointer (some ⟨bm, om + k * 9, none⟩)) rfl (by kernel_rfl) (by kernel_rfl) (by kernel_rfl) (fun _ _ _ h => h) (Or.inl ⟨by rfl, ?_⟩) hHeld ?_
          · intro u hu
            go_simp
          try simp only [Act.put, List.setIfInBounds_toArray, List.set_cons_zero, List.set_cons_succ]
          refine wpAnyH_take (i := 3) (oi := { dst := some 91, op := Op.load 27 (Operand.tmp 90), type := 27, pos := _, after := #[{ on := 2, ground := Ground.data }], guard := none }) (v := .agg (⟨p, d1, e1⟩ : Pe).cs.toArray) rfl (by kernel_rfl) (by kernel_rfl) (by kernel_rfl) (fun _ _ _ h => h)
            (yields_Pe (by rfl) _ (by rfl) bm (om + k * 9) (by rfl) ⟨p, d1, e1⟩ (fun u hu => (Stp.of_below hu (fun _ => False)).range hr1 id)) hHeld ?_
          try simp only [Act.put, List.setIfInBounds_toArray, List.set_cons_zero, List.set_cons_succ]
          refine wpAnyH_take (i := 4) (oi := { dst := some 92, op := Op.move (Operand.tmp 16), type := 39, pos := _, after := #[], guard := none }) (v := .slice (some ⟨bn, on, none⟩) q.length nc) rfl (by kernel_rfl) (by kernel_rfl) (by kernel_rfl) (fun _ _ _ h => h) (Or.inl ⟨by rfl, ?_⟩) hHeld ?_
          · intro u hu
            go_simp
          try simp only [Act.put, List.setIfInBounds_toArray, List.set_cons_zero, List.set_cons_succ]
          refine wpAnyH_take (i := 5) (oi := { dst := some 93, op := Op.move (Operand.tmp 17), type := 3, pos := _, after := #[], guard := none }) (v := .int .i64 (k : Int)) rfl (by kernel_rfl) (by kernel_rfl) (by kernel_rfl) (fun _ _ _ h => h) (Or.inl ⟨by rfl, ?_⟩) hHeld ?_
          · intro u hu
            go_simp
          try simp only [Act.put, List.setIfInBounds_toArray, List.set_cons_zero, List.set_cons_succ]
          refine wpAnyH_take (i := 6) (oi := { dst := some 94, op := Op.indexAddr 39 (Operand.tmp 92) (Operand.tmp 93), type := 0, pos := _, after := #[{ on := 4, ground := Ground.data }, { on := 5, ground := Ground.data }], guard := none }) (v := .pointer (some ⟨bn, on + k * 9, none⟩)) rfl (by kernel_rfl) (by kernel_rfl) (by kernel_rfl) (fun _ _ _ h => h) (Or.inl ⟨by rfl, ?_⟩) hHeld ?_
          · intro u hu
            go_simp
          try simp only [Act.put, List.setIfInBounds_toArray, List.set_cons_zero, List.set_cons_succ]
          refine wpAnyH_take (i := 7) (oi := { dst := some 95, op := Op.load 27 (Operand.tmp 94), type := 27, pos := _, after := #[{ on := 6, ground := Ground.data }], guard := none }) (v := .agg (⟨p, d2, e2⟩ : Pe).cs.toArray) rfl (by kernel_rfl) (by kernel_rfl) (by kernel_rfl) (fun _ _ _ h => h)
            (yields_Pe (by rfl) _ (by rfl) bn (on + k * 9) (by rfl) ⟨p, d2, e2⟩ (fun u hu => (Stp.of_below hu (fun _ => False)).range hr2 id)) hHeld ?_
          try simp only [Act.put, List.setIfInBounds_toArray, List.set_cons_zero, List.set_cons_succ]
          refine wpAnyH_ready (rs := [8]) (by kernel_rfl) (by simp) ?_
          refine (AllReadyH.cons (o := { dst := some 96, op := Op.call { callee := Callee.value (Operand.func 24), args := #[Operand.tmp 91, Operand.tmp 95], argTypes := #[27, 27] }, type := 3, pos := _, after := #[{ on := 3, ground := Ground.data }, { on := 7, ground := Ground.data }], guard := none }) rfl (fun K hK => ?_) AllReadyH.nil)
          go_simp
          refine (psame_any (p := p) (hm1.later hHeld) (hm2.later hHeld) hwq).mono ?_
          rintro e v8 ⟨rfl, c8⟩
          try go_wp2_with fail
          refine hK.out _ _ (bnext hHeld c8 (Nat.le_refl _)) (fun hHeld => ?_)
          clear hK K
          try simp only [Act.put, List.setIfInBounds_toArray, List.set_cons_zero, List.set_cons_succ]
          refine wpAnyH_take (i := 9) (oi := { dst := some 97, op := Op.binOp BinOp.eql 3 (Operand.const (Value.int IntKind.i64 0)) (Operand.tmp 96) 3, type := 4, pos := _, after := #[{ on := 8, ground := Ground.data }], guard := none }) (v := .bool false) rfl (by kernel_rfl) (by kernel_rfl) (by kernel_rfl) (fun _ _ _ h => h) (Or.inl ⟨by rfl, ?_⟩) hHeld ?_
          · intro u hu
            go_simp
          try simp only [Act.put, List.setIfInBounds_toArray, List.set_cons_zero, List.set_cons_succ]
          refine wpAnyH_done (by kernel_rfl) ?_ _
          clear hr1 hr2 hm1 hm2
          go_wp2_with fail
          go_roundw
          case rel => exact ⟨k + 1, by omega, by go_num, bnext hbk hHeld (Nat.le_refl _)⟩
          case measure => simp [intOf]; omega
        · have a9 : ¬ (k : Int) < (q.length : Int) := by omega
          clear Mk Nk hws
          go_wp2_with (first
            | (go_at_call 15; refine (works15_any _).mono ?_; rintro e w9 ⟨rfl, b9⟩))
          go_returns
          exact ⟨rfl, bnext Bk b9 (Nat.le_refl _)⟩
    clear hK2 hWo hRWo hNow heX heY hws
    refine wpAnyH_take (i := 0) (oi := { dst := some 34, op := Op.load 23 (Operand.tmp 3), type := 23, pos := _, after := #[], guard := none }) (v := .agg b.cs.toArray) rfl (by kernel_rfl) (by kernel_rfl) (by kernel_rfl) (fun _ _ _ h => h)
      (yields_row 23 64 arrB (by rfl) (.tmp 3) rfl g3 (by rfl) b.l hb (fun u hu => rb1.later hu)) hHeld ?_
    try simp only [Act.put, List.setIfInBounds_toArray, List.set_cons_zero, List.set_cons_succ]
    refine wpAnyH_take (i := 1) (oi := { dst := some 35, op := Op.move (Operand.tmp 1), type := 39, pos := _, after := #[], guard := none }) (v := .slice la ln lc) rfl (by kernel_rfl) (by kernel_rfl) (by kernel_rfl) (fun _ _ _ h => h) (Or.inl ⟨by rfl, ?_⟩) hHeld ?_
    · intro u hu
      go_simp
    try simp only [Act.put, List.setIfInBounds_toArray, List.set_cons_zero, List.set_cons_succ]
    refine wpAnyH_take (i := 3) (oi := { dst := some 37, op := Op.move (Operand.tmp 2), type := 25, pos := _, after := #[], guard := none }) (v := .slice sa sn sc) rfl (by kernel_rfl) (by kernel_rfl) (by kernel_rfl) (fun _ _ _ h => h) (Or.inl ⟨by rfl, ?_⟩) hHeld ?_
    · intro u hu
      go_simp
    try simp only [Act.put, List.setIfInBounds_toArray, List.set_cons_zero, List.set_cons_succ]
    refine wpAnyH_ready (rs := [2, 9]) (by kernel_rfl) (by simp) ?_
    refine (AllReadyH.cons (o := { dst := some 36, op := Op.call { callee := Callee.value (Operand.func 16), args := #[Operand.tmp 35], argTypes := #[39] }, type := 39, pos := _, after := #[{ on := 1, ground := Ground.data }], guard := none }) rfl (fun K hK => ?_) (AllReadyH.cons (o := { dst := some 11, op := Op.alloc 23, type := 0, pos := _, after := #[], guard := none }) rfl (fun K hK => ?_) AllReadyH.nil))
    · skip
      go_simp
      refine (hfew _ ⟨la, ln, lc⟩ (P3.later hHeld)).mono ?_
      rintro e v2 ⟨⟨ya, yn, yc⟩, rfl, Q2, c2⟩
      try go_wp2_with fail
      try (have y7 := y7.later c2)
      try (have I4 := I4.later c2)
      refine hK.out _ _ (bnext hHeld c2 (Nat.le_refl _)) (fun hHeld => ?_)
      clear hK K
      try simp only [Act.put, List.setIfInBounds_toArray, List.set_cons_zero, List.set_cons_succ]
      refine wpAnyH_ready (rs := [4, 9]) (by kernel_rfl) (by simp) ?_
      refine (AllReadyH.cons (o := { dst := some 38, op := Op.call { callee := Callee.value (Operand.func 20), args := #[Operand.tmp 37], argTypes := #[25] }, type := 25, pos := _, after := #[{ on := 3, ground := Ground.data }, { on := 2, ground := Ground.chain }], guard := none }) rfl (fun K hK => ?_) (AllReadyH.cons (o := { dst := some 11, op := Op.alloc 23, type := 0, pos := _, after := #[], guard := none }) rfl (fun K hK => ?_) AllReadyH.nil))
      · skip
        go_simp
        refine (HI _ (bnext B3 hHeld (Nat.le_refl _))).mono ?_
        rintro e v4 ⟨⟨za, zn, zc⟩, rfl, I4, -, c4⟩
        try go_wp2_with fail
        try (have y7 := y7.later c4)
        try (have Q2 := Q2.later c4)
        refine hK.out _ _ (bnext hHeld c4 (Nat.le_refl _)) (fun hHeld => ?_)
        clear hK K
        try simp only [Act.put, List.setIfInBounds_toArray, List.set_cons_zero, List.set_cons_succ]
        refine wpAnyH_ready (rs := [5, 9]) (by kernel_rfl) (by simp) ?_
        refine (AllReadyH.cons (o := { dst := some 39, op := Op.call { callee := Callee.value (Operand.func 19), args := #[Operand.tmp 34, Operand.tmp 36, Operand.tmp 38], argTypes := #[23, 39, 25] }, type := 31, pos := _, after := #[{ on := 0, ground := Ground.data }, { on := 2, ground := Ground.data }, { on := 4, ground := Ground.data }, { on := 4, ground := Ground.chain }], guard := none }) rfl (fun K hK => ?_) (AllReadyH.cons (o := { dst := some 11, op := Op.alloc 23, type := 0, pos := _, after := #[], guard := none }) rfl (fun K hK => ?_) AllReadyH.nil))
        · skip
          go_simp
          refine (hSome _ ⟨ya, yn, yc⟩ ⟨za, zn, zc⟩ Q2 I4).mono ?_
          rintro e v5 ⟨rfl, c5⟩
          try go_wp2_with fail
          try (have y7 := y7.later c5)
          refine hK.out _ _ (bnext hHeld c5 (Nat.le_refl _)) (fun hHeld => ?_)
          clear hK K
          try simp only [Act.put, List.setIfInBounds_toArray, List.set_cons_zero, List.set_cons_succ]
          refine wpAnyH_take (i := 6) (oi := { dst := some 33, op := Op.move (Operand.tmp 39), type := 31, pos := _, after := #[{ on := 5, ground := Ground.data }], guard := none }) (v := .tuple #[.agg Y.cs.toArray, .int .i64 f0]) rfl (by kernel_rfl) (by kernel_rfl) (by kernel_rfl) (fun _ _ _ h => h) (Or.inl ⟨by rfl, ?_⟩) hHeld ?_
          · intro u hu
            go_simp
          try simp only [Act.put, List.setIfInBounds_toArray, List.set_cons_zero, List.set_cons_succ]
          refine wpAnyH_take (i := 7) (oi := { dst := some 40, op := Op.extract (Operand.tmp 33) 0, type := 23, pos := _, after := #[{ on := 6, ground := Ground.data }], guard := none }) (v := .agg Y.cs.toArray) rfl (by kernel_rfl) (by kernel_rfl) (by kernel_rfl) (fun _ _ _ h => h) (Or.inl ⟨by rfl, ?_⟩) hHeld ?_
          · intro u hu
            go_simp
          try simp only [Act.put, List.setIfInBounds_toArray, List.set_cons_zero, List.set_cons_succ]
          refine wpAnyH_take (i := 8) (oi := { dst := some 41, op := Op.extract (Operand.tmp 33) 1, type := 30, pos := _, after := #[{ on := 6, ground := Ground.data }, { on := 10, ground := Ground.gcOnly Departure.lateStores }], guard := none }) (v := .int .i64 f0) rfl (by kernel_rfl) (by kernel_rfl) (by kernel_rfl) (fun _ _ _ h => h) (Or.inl ⟨by rfl, ?_⟩) hHeld ?_
          · intro u hu
            go_simp
          try simp only [Act.put, List.setIfInBounds_toArray, List.set_cons_zero, List.set_cons_succ]
          refine wpAnyH_ready (rs := [9]) (by kernel_rfl) (by simp) ?_
          refine (AllReadyH.cons (o := { dst := some 11, op := Op.alloc 23, type := 0, pos := _, after := #[], guard := none }) rfl (fun K hK => ?_) AllReadyH.nil)
          refine step_new 23 64 arrB rfl rfl ?_
          intro g11 v7 a7 z7 y7 b7
          have m7 : V.heap.size ≤ g11 := Nat.le_trans hHeld.size a7
          try (have Q2 := Q2.later b7)
          try (have I4 := I4.later b7)
          refine hK.out _ _ (bnext hHeld b7 (Nat.le_refl _)) (fun hHeld => ?_)
          clear hK K
          try simp only [Act.put, List.setIfInBounds_toArray, List.set_cons_zero, List.set_cons_succ]
          refine wpAnyH_ready (rs := [10]) (by kernel_rfl) (by simp) ?_
          refine (AllReadyH.cons (o := { dst := none, op := Op.store 23 (Operand.tmp 11) (Operand.tmp 40), type := 0, pos := _, after := #[{ on := 9, ground := Ground.data }, { on := 7, ground := Ground.data }, { on := 5, ground := Ground.chain }, { on := 0, ground := Ground.phase }, { on := 1, ground := Ground.phase }, { on := 2, ground := Ground.phase }, { on := 3, ground := Ground.phase }, { on := 4, ground := Ground.phase }, { on := 5, ground := Ground.phase }, { on := 6, ground := Ground.phase }, { on := 7, ground := Ground.phase }, { on := 8, ground := Ground.textOnly Departure.lateStores }, { on := 9, ground := Ground.phase }], guard := none }) rfl (fun K hK => ?_) AllReadyH.nil)
          refine step_put 23 64 arrB rfl (.tmp 11) (.tmp 40) rfl g11 (by rfl) Y.l (by rfl) hY _ y7 (by simp) ?_
          intro v8 y8 s8
          refine hK.out _ _ (((Stp.of_below hHeld (fun x => V.heap.size ≤ x)).next s8 (fun x hx => .inl (by subst hx; exact m7))).below (Nat.le_refl _) (fun _ h => h)) (fun hHeld => ?_)
          clear hK K
          try simp only [Act.put]
          refine wpAnyH_take (i := 11) (oi := { dst := some 12, op := Op.assign (Operand.tmp 41), type := 30, pos := _, after := #[{ on := 8, ground := Ground.data }, { on := 10, ground := Ground.chain }, { on := 0, ground := Ground.phase }, { on := 1, ground := Ground.phase }, { on := 2, ground := Ground.phase }, { on := 3, ground := Ground.phase }, { on := 4, ground := Ground.phase }, { on := 5, ground := Ground.phase }, { on := 6, ground := Ground.phase }, { on := 7, ground := Ground.phase }, { on := 8, ground := Ground.phase }, { on := 9, ground := Ground.phase }, { on := 10, ground := Ground.phase }], guard := none }) (v := .int .i64 f0) rfl (by kernel_rfl) (by kernel_rfl) (by kernel_rfl) (fun _ _ _ h => h) (Or.inl ⟨by rfl, ?_⟩) hHeld ?_
          · intro u hu
            go_simp
          try simp only [Act.put, List.setIfInBounds_toArray, List.set_cons_zero, List.set_cons_succ]
          refine wpAnyH_done (by kernel_rfl) ?_ _
          exact tail2 g11 ya yn yc za zn zc v8 y8 hHeld
        · skip
          refine step_new 23 64 arrB rfl rfl ?_
          intro g11 v7 a7 z7 y7 b7
          have m7 : V.heap.size ≤ g11 := Nat.le_trans hHeld.size a7
          try (have Q2 := Q2.later b7)
          try (have I4 := I4.later b7)
          refine hK.out _ _ (bnext hHeld b7 (Nat.le_refl _)) (fun hHeld => ?_)
          clear hK K
          try simp only [Act.put, List.setIfInBounds_toArray, List.set_cons_zero, List.set_cons_succ]
          refine wpAnyH_ready (rs := [5]) (by kernel_rfl) (by simp) ?_
          refine (AllReadyH.cons (o := { dst := some 39, op := Op.call { callee := Callee.value (Operand.func 19), args := #[Operand.tmp 34, Operand.tmp 36, Operand.tmp 38], argTypes := #[23, 39, 25] }, type := 31, pos := _, after := #[{ on := 0, ground := Ground.data }, { on := 2, ground := Ground.data }, { on := 4, ground := Ground.data }, { on := 4, ground := Ground.chain }], guard := none }) rfl (fun K hK => ?_) AllReadyH.nil)
          go_simp
          refine (hSome _ ⟨ya, yn, yc⟩ ⟨za, zn, zc⟩ Q2 I4).mono ?_
          rintro e v5 ⟨rfl, c5⟩
          try go_wp2_with fail
          try (have y7 := y7.later c5)
          refine hK.out _ _ (bnext hHeld c5 (Nat.le_refl _)) (fun hHeld => ?_)
          clear hK K
          try simp only [Act.put, List.setIfInBounds_toArray, List.set_cons_zero, List.set_cons_succ]
          refine wpAnyH_take (i := 6) (oi := { dst := some 33, op := Op.move (Operand.tmp 39), type := 31, pos := _, after := #[{ on := 5, ground := Ground.data }], guard := none }) (v := .tuple #[.agg Y.cs.toArray, .int .i64 f0]) rfl (by kernel_rfl) (by kernel_rfl) (by kernel_rfl) (fun _ _ _ h => h) (Or.inl ⟨by rfl, ?_⟩) hHeld ?_
          · intro u hu
            go_simp
          try simp only [Act.put, List.setIfInBounds_toArray, List.set_cons_zero, List.set_cons_succ]
          refine wpAnyH_take (i := 7) (oi := { dst := some 40, op := Op.extract (Operand.tmp 33) 0, type := 23, pos := _, after := #[{ on := 6, ground := Ground.data }], guard := none }) (v := .agg Y.cs.toArray) rfl (by kernel_rfl) (by kernel_rfl) (by kernel_rfl) (fun _ _ _ h => h) (Or.inl ⟨by rfl, ?_⟩) hHeld ?_
          · intro u hu
            go_simp
          try simp only [Act.put, List.setIfInBounds_toArray, List.set_cons_zero, List.set_cons_succ]
          refine wpAnyH_take (i := 8) (oi := { dst := some 41, op := Op.extract (Operand.tmp 33) 1, type := 30, pos := _, after := #[{ on := 6, ground := Ground.data }, { on := 10, ground := Ground.gcOnly Departure.lateStores }], guard := none }) (v := .int .i64 f0) rfl (by kernel_rfl) (by kernel_rfl) (by kernel_rfl) (fun _ _ _ h => h) (Or.inl ⟨by rfl, ?_⟩) hHeld ?_
          · intro u hu
            go_simp
          try simp only [Act.put, List.setIfInBounds_toArray, List.set_cons_zero, List.set_cons_succ]
          refine wpAnyH_ready (rs := [10]) (by kernel_rfl) (by simp) ?_
          refine (AllReadyH.cons (o := { dst := none, op := Op.store 23 (Operand.tmp 11) (Operand.tmp 40), type := 0, pos := _, after := #[{ on := 9, ground := Ground.data }, { on := 7, ground := Ground.data }, { on := 5, ground := Ground.chain }, { on := 0, ground := Ground.phase }, { on := 1, ground := Ground.phase }, { on := 2, ground := Ground.phase }, { on := 3, ground := Ground.phase }, { on := 4, ground := Ground.phase }, { on := 5, ground := Ground.phase }, { on := 6, ground := Ground.phase }, { on := 7, ground := Ground.phase }, { on := 8, ground := Ground.textOnly Departure.lateStores }, { on := 9, ground := Ground.phase }], guard := none }) rfl (fun K hK => ?_) AllReadyH.nil)
          refine step_put 23 64 arrB rfl (.tmp 11) (.tmp 40) rfl g11 (by rfl) Y.l (by rfl) hY _ y7 (by simp) ?_
          intro v8 y8 s8
          refine hK.out _ _ (((Stp.of_below hHeld (fun x => V.heap.size ≤ x)).next s8 (fun x hx => .inl (by subst hx; exact m7))).below (Nat.le_refl _) (fun _ h => h)) (fun hHeld => ?_)
          clear hK K
          try simp only [Act.put]
          refine wpAnyH_take (i := 11) (oi := { dst := some 12, op := Op.assign (Operand.tmp 41), type := 30, pos := _, after := #[{ on := 8, ground := Ground.data }, { on := 10, ground := Ground.chain }, { on := 0, ground := Ground.phase }, { on := 1, ground := Ground.phase }, { on := 2, ground := Ground.phase }, { on := 3, ground := Ground.phase }, { on := 4, ground := Ground.phase }, { on := 5, ground := Ground.phase }, { on := 6, ground := Ground.phase }, { on := 7, ground := Ground.phase }, { on := 8, ground := Ground.phase }, { on := 9, ground := Ground.phase }, { on := 10, ground := Ground.phase }], guard := none }) (v := .int .i64 f0) rfl (by kernel_rfl) (by kernel_rfl) (by kernel_rfl) (fun _ _ _ h => h) (Or.inl ⟨by rfl, ?_⟩) hHeld ?_
          · intro u hu
            go_simp
          try simp only [Act.put, List.setIfInBounds_toArray, List.set_cons_zero, List.set_cons_succ]
          refine wpAnyH_done (by kernel_rfl) ?_ _
          exact tail2 g11 ya yn yc za zn zc v8 y8 hHeld
      · skip
        refine step_new 23 64 arrB rfl rfl ?_
        intro g11 v7 a7 z7 y7 b7
        have m7 : V.heap.size ≤ g11 := Nat.le_trans hHeld.size a7
        try (have Q2 := Q2.later b7)
        try (have I4 := I4.later b7)
        refine hK.out _ _ (bnext hHeld b7 (Nat.le_refl _)) (fun hHeld => ?_)
        clear hK K
        try simp only [Act.put, List.setIfInBounds_toArray, List.set_cons_zero, List.set_cons_succ]
        refine wpAnyH_ready (rs := [4]) (by kernel_rfl) (by simp) ?_
        refine (AllReadyH.cons (o := { dst := some 38, op := Op.call { callee := Callee.value (Operand.func 20), args := #[Operand.tmp 37], argTypes := #[25] }, type := 25, pos := _, after := #[{ on := 3, ground := Ground.data }, { on := 2, ground := Ground.chain }], guard := none }) rfl (fun K hK => ?_) AllReadyH.nil)
        go_simp
        refine (HI _ (bnext B3 hHeld (Nat.le_refl _))).mono ?_
        rintro e v4 ⟨⟨za, zn, zc⟩, rfl, I4, -, c4⟩
        try go_wp2_with fail
        try (have y7 := y7.later c4)
        try (have Q2 := Q2.later c4)
        refine hK.out _ _ (bnext hHeld c4 (Nat.le_refl _)) (fun hHeld => ?_)
        clear hK K
        try simp only [Act.put, List.setIfInBounds_toArray, List.set_cons_zero, List.set_cons_succ]
        refine wpAnyH_ready (rs := [5]) (by kernel_rfl) (by simp) ?_
        refine (AllReadyH.cons (o := { dst := some 39, op := Op.call { callee := Callee.value (Operand.func 19), args := #[Operand.tmp 34, Operand.tmp 36, Operand.tmp 38], argTypes := #[23, 39, 25] }, type := 31, pos := _, after := #[{ on := 0, ground := Ground.data }, { on := 2, ground := Ground.data }, { on := 4, ground := Ground.data }, { on := 4, ground := Ground.chain }], guard := none }) rfl (fun K hK => ?_) AllReadyH.nil)
        go_simp
        refine (hSome _ ⟨ya, yn, yc⟩ ⟨za, zn, zc⟩ Q2 I4).mono ?_
        rintro e v5 ⟨rfl, c5⟩
        try go_wp2_with fail
        try (have y7 := y7.later c5)
        refine hK.out _ _ (bnext hHeld c5 (Nat.le_refl _)) (fun hHeld => ?_)
        clear hK K
        try simp only [Act.put, List.setIfInBounds_toArray, List.set_cons_zero, List.set_cons_succ]
        refine wpAnyH_take (i := 6) (oi := { dst := some 33, op := Op.move (Operand.tmp 39), type := 31, pos := _, after := #[{ on := 5, ground := Ground.data }], guard := none }) (v := .tuple #[.agg Y.cs.toArray, .int .i64 f0]) rfl (by kernel_rfl) (by kernel_rfl) (by kernel_rfl) (fun _ _ _ h => h) (Or.inl ⟨by rfl, ?_⟩) hHeld ?_
        · intro u hu
          go_simp
        try simp only [Act.put, List.setIfInBounds_toArray, List.set_cons_zero, List.set_cons_succ]
        refine wpAnyH_take (i := 7) (oi := { dst := some 40, op := Op.extract (Operand.tmp 33) 0, type := 23, pos := _, after := #[{ on := 6, ground := Ground.data }], guard := none }) (v := .agg Y.cs.toArray) rfl (by kernel_rfl) (by kernel_rfl) (by kernel_rfl) (fun _ _ _ h => h) (Or.inl ⟨by rfl, ?_⟩) hHeld ?_
        · intro u hu
          go_simp
        try simp only [Act.put, List.setIfInBounds_toArray, List.set_cons_zero, List.set_cons_succ]
        refine wpAnyH_take (i := 8) (oi := { dst := some 41, op := Op.extract (Operand.tmp 33) 1, type := 30, pos := _, after := #[{ on := 6, ground := Ground.data }, { on := 10, ground := Ground.gcOnly Departure.lateStores }], guard := none }) (v := .int .i64 f0) rfl (by kernel_rfl) (by kernel_rfl) (by kernel_rfl) (fun _ _ _ h => h) (Or.inl ⟨by rfl, ?_⟩) hHeld ?_
        · intro u hu
          go_simp
        try simp only [Act.put, List.setIfInBounds_toArray, List.set_cons_zero, List.set_cons_succ]
        refine wpAnyH_ready (rs := [10]) (by kernel_rfl) (by simp) ?_
        refine (AllReadyH.cons (o := { dst := none, op := Op.store 23 (Operand.tmp 11) (Operand.tmp 40), type := 0, pos := _, after := #[{ on := 9, ground := Ground.data }, { on := 7, ground := Ground.data }, { on := 5, ground := Ground.chain }, { on := 0, ground := Ground.phase }, { on := 1, ground := Ground.phase }, { on := 2, ground := Ground.phase }, { on := 3, ground := Ground.phase }, { on := 4, ground := Ground.phase }, { on := 5, ground := Ground.phase }, { on := 6, ground := Ground.phase }, { on := 7, ground := Ground.phase }, { on := 8, ground := Ground.textOnly Departure.lateStores }, { on := 9, ground := Ground.phase }], guard := none }) rfl (fun K hK => ?_) AllReadyH.nil)
        refine step_put 23 64 arrB rfl (.tmp 11) (.tmp 40) rfl g11 (by rfl) Y.l (by rfl) hY _ y7 (by simp) ?_
        intro v8 y8 s8
        refine hK.out _ _ (((Stp.of_below hHeld (fun x => V.heap.size ≤ x)).next s8 (fun x hx => .inl (by subst hx; exact m7))).below (Nat.le_refl _) (fun _ h => h)) (fun hHeld => ?_)
        clear hK K
        try simp only [Act.put]
        refine wpAnyH_take (i := 11) (oi := { dst := some 12, op := Op.assign (Operand.tmp 41), type := 30, pos := _, after := #[{ on := 8, ground := Ground.data }, { on := 10, ground := Ground.chain }, { on := 0, ground := Ground.phase }, { on := 1, ground := Ground.phase }, { on := 2, ground := Ground.phase }, { on := 3, ground := Ground.phase }, { on := 4, ground := Ground.phase }, { on := 5, ground := Ground.phase }, { on := 6, ground := Ground.phase }, { on := 7, ground := Ground.phase }, { on := 8, ground := Ground.phase }, { on := 9, ground := Ground.phase }, { on := 10, ground := Ground.phase }], guard := none }) (v := .int .i64 f0) rfl (by kernel_rfl) (by kernel_rfl) (by kernel_rfl) (fun _ _ _ h => h) (Or.inl ⟨by rfl, ?_⟩) hHeld ?_
        · intro u hu
          go_simp
        try simp only [Act.put, List.setIfInBounds_toArray, List.set_cons_zero, List.set_cons_succ]
        refine wpAnyH_done (by kernel_rfl) ?_ _
        exact tail2 g11 ya yn yc za zn zc v8 y8 hHeld
    · skip
      refine step_new 23 64 arrB rfl rfl ?_
      intro g11 v7 a7 z7 y7 b7
      have m7 : V.heap.size ≤ g11 := Nat.le_trans hHeld.size a7
      try (have Q2 := Q2.later b7)
      try (have I4 := I4.later b7)
      refine hK.out _ _ (bnext hHeld b7 (Nat.le_refl _)) (fun hHeld => ?_)
      clear hK K
      try simp only [Act.put, List.setIfInBounds_toArray, List.set_cons_zero, List.set_cons_succ]
      refine wpAnyH_ready (rs := [2]) (by kernel_rfl) (by simp) ?_
      refine (AllReadyH.cons (o := { dst := some 36, op := Op.call { callee := Callee.value (Operand.func 16), args := #[Operand.tmp 35], argTypes := #[39] }, type := 39, pos := _, after := #[{ on := 1, ground := Ground.data }], guard := none }) rfl (fun K hK => ?_) AllReadyH.nil)
      go_simp
      refine (hfew _ ⟨la, ln, lc⟩ (P3.later hHeld)).mono ?_
      rintro e v2 ⟨⟨ya, yn, yc⟩, rfl, Q2, c2⟩
      try go_wp2_with fail
      try (have y7 := y7.later c2)
      try (have I4 := I4.later c2)
      refine hK.out _ _ (bnext hHeld c2 (Nat.le_refl _)) (fun hHeld => ?_)
      clear hK K
      try simp only [Act.put, List.setIfInBounds_toArray, List.set_cons_zero, List.set_cons_succ]
      refine wpAnyH_ready (rs := [4]) (by kernel_rfl) (by simp) ?_
      refine (AllReadyH.cons (o := { dst := some 38, op := Op.call { callee := Callee.value (Operand.func 20), args := #[Operand.tmp 37], argTypes := #[25] }, type := 25, pos := _, after := #[{ on := 3, ground := Ground.data }, { on := 2, ground := Ground.chain }], guard := none }) rfl (fun K hK => ?_) AllReadyH.nil)
      go_simp
      refine (HI _ (bnext B3 hHeld (Nat.le_refl _))).mono ?_
      rintro e v4 ⟨⟨za, zn, zc⟩, rfl, I4, -, c4⟩
      try go_wp2_with fail
      try (have y7 := y7.later c4)
      try (have Q2 := Q2.later c4)
      refine hK.out _ _ (bnext hHeld c4 (Nat.le_refl _)) (fun hHeld => ?_)
      clear hK K
      try simp only [Act.put, List.setIfInBounds_toArray, List.set_cons_zero, List.set_cons_succ]
      refine wpAnyH_ready (rs := [5]) (by kernel_rfl) (by simp) ?_
      refine (AllReadyH.cons (o := { dst := some 39, op := Op.call { callee := Callee.value (Operand.func 19), args := #[Operand.tmp 34, Operand.tmp 36, Operand.tmp 38], argTypes := #[23, 39, 25] }, type := 31, pos := _, after := #[{ on := 0, ground := Ground.data }, { on := 2, ground := Ground.data }, { on := 4, ground := Ground.data }, { on := 4, ground := Ground.chain }], guard := none }) rfl (fun K hK => ?_) AllReadyH.nil)
      go_simp
      refine (hSome _ ⟨ya, yn, yc⟩ ⟨za, zn, zc⟩ Q2 I4).mono ?_
      rintro e v5 ⟨rfl, c5⟩
      try go_wp2_with fail
      try (have y7 := y7.later c5)
      refine hK.out _ _ (bnext hHeld c5 (Nat.le_refl _)) (fun hHeld => ?_)
      clear hK K
      try simp only [Act.put, List.setIfInBounds_toArray, List.set_cons_zero, List.set_cons_succ]
      refine wpAnyH_take (i := 6) (oi := { dst := some 33, op := Op.move (Operand.tmp 39), type := 31, pos := _, after := #[{ on := 5, ground := Ground.data }], guard := none }) (v := .tuple #[.agg Y.cs.toArray, .int .i64 f0]) rfl (by kernel_rfl) (by kernel_rfl) (by kernel_rfl) (fun _ _ _ h => h) (Or.inl ⟨by rfl, ?_⟩) hHeld ?_
      · intro u hu
        go_simp
      try simp only [Act.put, List.setIfInBounds_toArray, List.set_cons_zero, List.set_cons_succ]
      refine wpAnyH_take (i := 7) (oi := { dst := some 40, op := Op.extract (Operand.tmp 33) 0, type := 23, pos := _, after := #[{ on := 6, ground := Ground.data }], guard := none }) (v := .agg Y.cs.toArray) rfl (by kernel_rfl) (by kernel_rfl) (by kernel_rfl) (fun _ _ _ h => h) (Or.inl ⟨by rfl, ?_⟩) hHeld ?_
      · intro u hu
        go_simp
      try simp only [Act.put, List.setIfInBounds_toArray, List.set_cons_zero, List.set_cons_succ]
      refine wpAnyH_take (i := 8) (oi := { dst := some 41, op := Op.extract (Operand.tmp 33) 1, type := 30, pos := _, after := #[{ on := 6, ground := Ground.data }, { on := 10, ground := Ground.gcOnly Departure.lateStores }], guard := none }) (v := .int .i64 f0) rfl (by kernel_rfl) (by kernel_rfl) (by kernel_rfl) (fun _ _ _ h => h) (Or.inl ⟨by rfl, ?_⟩) hHeld ?_
      · intro u hu
        go_simp
      try simp only [Act.put, List.setIfInBounds_toArray, List.set_cons_zero, List.set_cons_succ]
      refine wpAnyH_ready (rs := [10]) (by kernel_rfl) (by simp) ?_
      refine (AllReadyH.cons (o := { dst := none, op := Op.store 23 (Operand.tmp 11) (Operand.tmp 40), type := 0, pos := _, after := #[{ on := 9, ground := Ground.data }, { on := 7, ground := Ground.data }, { on := 5, ground := Ground.chain }, { on := 0, ground := Ground.phase }, { on := 1, ground := Ground.phase }, { on := 2, ground := Ground.phase }, { on := 3, ground := Ground.phase }, { on := 4, ground := Ground.phase }, { on := 5, ground := Ground.phase }, { on := 6, ground := Ground.phase }, { on := 7, ground := Ground.phase }, { on := 8, ground := Ground.textOnly Departure.lateStores }, { on := 9, ground := Ground.phase }], guard := none }) rfl (fun K hK => ?_) AllReadyH.nil)
      refine step_put 23 64 arrB rfl (.tmp 11) (.tmp 40) rfl g11 (by rfl) Y.l (by rfl) hY _ y7 (by simp) ?_
      intro v8 y8 s8
      refine hK.out _ _ (((Stp.of_below hHeld (fun x => V.heap.size ≤ x)).next s8 (fun x hx => .inl (by subst hx; exact m7))).below (Nat.le_refl _) (fun _ h => h)) (fun hHeld => ?_)
      clear hK K
      try simp only [Act.put]
      refine wpAnyH_take (i := 11) (oi := { dst := some 12, op := Op.assign (Operand.tmp 41), type := 30, pos := _, after := #[{ on := 8, ground := Ground.data }, { on := 10, ground := Ground.chain }, { on := 0, ground := Ground.phase }, { on := 1, ground := Ground.phase }, { on := 2, ground := Ground.phase }, { on := 3, ground := Ground.phase }, { on := 4, ground := Ground.phase }, { on := 5, ground := Ground.phase }, { on := 6, ground := Ground.phase }, { on := 7, ground := Ground.phase }, { on := 8, ground := Ground.phase }, { on := 9, ground := Ground.phase }, { on := 10, ground := Ground.phase }], guard := none }) (v := .int .i64 f0) rfl (by kernel_rfl) (by kernel_rfl) (by kernel_rfl) (fun _ _ _ h => h) (Or.inl ⟨by rfl, ?_⟩) hHeld ?_
      · intro u hu
        go_simp
      try simp only [Act.put, List.setIfInBounds_toArray, List.set_cons_zero, List.set_cons_succ]
      refine wpAnyH_done (by kernel_rfl) ?_ _
      exact tail2 g11 ya yn yc za zn zc v8 y8 hHeld
  clear hK1 hRNow hWo hRWo hSome hRSome heX heY hws HI
  refine wpAnyH_take (i := 0) (oi := { dst := some 21, op := Op.load 23 (Operand.tmp 3), type := 23, pos := _, after := #[], guard := none }) (v := .agg b.cs.toArray) rfl (by kernel_rfl) (by kernel_rfl) (by kernel_rfl) (fun _ _ _ h => h)
    (yields_row 23 64 arrB (by rfl) (.tmp 3) rfl g3 (by rfl) b.l hb (fun u hu => rb.later hu)) hHeld ?_
  try simp only [Act.put, List.setIfInBounds_toArray, List.set_cons_zero, List.set_cons_succ]
  refine wpAnyH_take (i := 1) (oi := { dst := some 22, op := Op.move (Operand.tmp 1), type := 39, pos := _, after := #[], guard := none }) (v := .slice la ln lc) rfl (by kernel_rfl) (by kernel_rfl) (by kernel_rfl) (fun _ _ _ h => h) (Or.inl ⟨by rfl, ?_⟩) hHeld ?_
  · intro u hu
    go_simp
  try simp only [Act.put, List.setIfInBounds_toArray, List.set_cons_zero, List.set_cons_succ]
  refine wpAnyH_ready (rs := [2, 7]) (by kernel_rfl) (by simp) ?_
  refine (AllReadyH.cons (o := { dst := some 23, op := Op.call { callee := Callee.value (Operand.func 16), args := #[Operand.tmp 22], argTypes := #[39] }, type := 39, pos := _, after := #[{ on := 1, ground := Ground.data }], guard := none }) rfl (fun K hK => ?_) (AllReadyH.cons (o := { dst := some 7, op := Op.alloc 23, type := 0, pos := _, after := #[], guard := none }) rfl (fun K hK => ?_) AllReadyH.nil))
  · skip
    go_simp
    refine (hfew _ ⟨la, ln, lc⟩ (P1.later hHeld)).mono ?_
    rintro e v2 ⟨⟨xa, xn, xc⟩, rfl, Q2, c2⟩
    try go_wp2_with fail
    try (have y7 := y7.later c2)
    refine hK.out _ _ (bnext hHeld c2 (Nat.le_refl _)) (fun hHeld => ?_)
    clear hK K
    try simp only [Act.put, List.setIfInBounds_toArray, List.set_cons_zero, List.set_cons_succ]
    refine wpAnyH_ready (rs := [3, 7]) (by kernel_rfl) (by simp) ?_
    refine (AllReadyH.cons (o := { dst := some 24, op := Op.call { callee := Callee.value (Operand.func 17), args := #[Operand.tmp 21, Operand.tmp 23], argTypes := #[23, 39] }, type := 31, pos := _, after := #[{ on := 0, ground := Ground.data }, { on := 2, ground := Ground.data }, { on := 2, ground := Ground.chain }], guard := none }) rfl (fun K hK => ?_) (AllReadyH.cons (o := { dst := some 7, op := Op.alloc 23, type := 0, pos := _, after := #[], guard := none }) rfl (fun K hK => ?_) AllReadyH.nil))
    · skip
      go_simp
      refine (hNow _ ⟨xa, xn, xc⟩ Q2).mono ?_
      rintro e v3 ⟨rfl, c3⟩
      try go_wp2_with fail
      try (have y7 := y7.later c3)
      refine hK.out _ _ (bnext hHeld c3 (Nat.le_refl _)) (fun hHeld => ?_)
      clear hK K
      try simp only [Act.put, List.setIfInBounds_toArray, List.set_cons_zero, List.set_cons_succ]
      refine wpAnyH_take (i := 4) (oi := { dst := some 20, op := Op.move (Operand.tmp 24), type := 31, pos := _, after := #[{ on := 3, ground := Ground.data }], guard := none }) (v := .tuple #[.agg X.cs.toArray, .int .i64 e0]) rfl (by kernel_rfl) (by kernel_rfl) (by kernel_rfl) (fun _ _ _ h => h) (Or.inl ⟨by rfl, ?_⟩) hHeld ?_
      · intro u hu
        go_simp
      try simp only [Act.put, List.setIfInBounds_toArray, List.set_cons_zero, List.set_cons_succ]
      refine wpAnyH_take (i := 5) (oi := { dst := some 25, op := Op.extract (Operand.tmp 20) 0, type := 23, pos := _, after := #[{ on := 4, ground := Ground.data }], guard := none }) (v := .agg X.cs.toArray) rfl (by kernel_rfl) (by kernel_rfl) (by kernel_rfl) (fun _ _ _ h => h) (Or.inl ⟨by rfl, ?_⟩) hHeld ?_
      · intro u hu
        go_simp
      try simp only [Act.put, List.setIfInBounds_toArray, List.set_cons_zero, List.set_cons_succ]
      refine wpAnyH_take (i := 6) (oi := { dst := some 26, op := Op.extract (Operand.tmp 20) 1, type := 30, pos := _, after := #[{ on := 4, ground := Ground.data }, { on := 8, ground := Ground.gcOnly Departure.lateStores }], guard := none }) (v := .int .i64 e0) rfl (by kernel_rfl) (by kernel_rfl) (by kernel_rfl) (fun _ _ _ h => h) (Or.inl ⟨by rfl, ?_⟩) hHeld ?_
      · intro u hu
        go_simp
      try simp only [Act.put, List.setIfInBounds_toArray, List.set_cons_zero, List.set_cons_succ]
      refine wpAnyH_ready (rs := [7]) (by kernel_rfl) (by simp) ?_
      refine (AllReadyH.cons (o := { dst := some 7, op := Op.alloc 23, type := 0, pos := _, after := #[], guard := none }) rfl (fun K hK => ?_) AllReadyH.nil)
      refine step_new 23 64 arrB rfl rfl ?_
      intro g7 v7 a7 z7 y7 b7
      have m7 : W.heap.size ≤ g7 := Nat.le_trans hHeld.size a7
      try (have Q2 := Q2.later b7)
      refine hK.out _ _ (bnext hHeld b7 (Nat.le_refl _)) (fun hHeld => ?_)
      clear hK K
      try simp only [Act.put, List.setIfInBounds_toArray, List.set_cons_zero, List.set_cons_succ]
      refine wpAnyH_ready (rs := [8]) (by kernel_rfl) (by simp) ?_
      refine (AllReadyH.cons (o := { dst := none, op := Op.store 23 (Operand.tmp 7) (Operand.tmp 25), type := 0, pos := _, after := #[{ on := 7, ground := Ground.data }, { on := 5, ground := Ground.data }, { on := 3, ground := Ground.chain }, { on := 0, ground := Ground.phase }, { on := 1, ground := Ground.phase }, { on := 2, ground := Ground.phase }, { on := 3, ground := Ground.phase }, { on := 4, ground := Ground.phase }, { on := 5, ground := Ground.phase }, { on := 6, ground := Ground.textOnly Departure.lateStores }, { on := 7, ground := Ground.phase }], guard := none }) rfl (fun K hK => ?_) AllReadyH.nil)
      refine step_put 23 64 arrB rfl (.tmp 7) (.tmp 25) rfl g7 (by rfl) X.l (by rfl) hX _ y7 (by simp) ?_
      intro v8 y8 s8
      refine hK.out _ _ (((Stp.of_below hHeld (fun x => W.heap.size ≤ x)).next s8 (fun x hx => .inl (by subst hx; exact m7))).below (Nat.le_refl _) (fun _ h => h)) (fun hHeld => ?_)
      clear hK K
      try simp only [Act.put]
      refine wpAnyH_take (i := 9) (oi := { dst := some 8, op := Op.assign (Operand.tmp 26), type := 30, pos := _, after := #[{ on := 6, ground := Ground.data }, { on := 8, ground := Ground.chain }, { on := 0, ground := Ground.phase }, { on := 1, ground := Ground.phase }, { on := 2, ground := Ground.phase }, { on := 3, ground := Ground.phase }, { on := 4, ground := Ground.phase }, { on := 5, ground := Ground.phase }, { on := 6, ground := Ground.phase }, { on := 7, ground := Ground.phase }, { on := 8, ground := Ground.phase }], guard := none }) (v := .int .i64 e0) rfl (by kernel_rfl) (by kernel_rfl) (by kernel_rfl) (fun _ _ _ h => h) (Or.inl ⟨by rfl, ?_⟩) hHeld ?_
      · intro u hu
        go_simp
      try simp only [Act.put, List.setIfInBounds_toArray, List.set_cons_zero, List.set_cons_succ]
      refine wpAnyH_done (by kernel_rfl) ?_ _
      exact tail1 g7 xa xn xc v8 y8 hHeld
    · skip
      refine step_new 23 64 arrB rfl rfl ?_
      intro g7 v7 a7 z7 y7 b7
      have m7 : W.heap.size ≤ g7 := Nat.le_trans hHeld.size a7
      try (have Q2 := Q2.later b7)
      refine hK.out _ _ (bnext hHeld b7 (Nat.le_refl _)) (fun hHeld => ?_)
      clear hK K
      try simp only [Act.put, List.setIfInBounds_toArray, List.set_cons_zero, List.set_cons_succ]
      refine wpAnyH_ready (rs := [3]) (by kernel_rfl) (by simp) ?_
      refine (AllReadyH.cons (o := { dst := some 24, op := Op.call { callee := Callee.value (Operand.func 17), args := #[Operand.tmp 21, Operand.tmp 23], argTypes := #[23, 39] }, type := 31, pos := _, after := #[{ on := 0, ground := Ground.data }, { on := 2, ground := Ground.data }, { on := 2, ground := Ground.chain }], guard := none }) rfl (fun K hK => ?_) AllReadyH.nil)
      go_simp
      refine (hNow _ ⟨xa, xn, xc⟩ Q2).mono ?_
      rintro e v3 ⟨rfl, c3⟩
      try go_wp2_with fail
      try (have y7 := y7.later c3)
      refine hK.out _ _ (bnext hHeld c3 (Nat.le_refl _)) (fun hHeld => ?_)
      clear hK K
      try simp only [Act.put, List.setIfInBounds_toArray, List.set_cons_zero, List.set_cons_succ]
      refine wpAnyH_take (i := 4) (oi := { dst := some 20, op := Op.move (Operand.tmp 24), type := 31, pos := _, after := #[{ on := 3, ground := Ground.data }], guard := none }) (v := .tuple #[.agg X.cs.toArray, .int .i64 e0]) rfl (by kernel_rfl) (by kernel_rfl) (by kernel_rfl) (fun _ _ _ h => h) (Or.inl ⟨by rfl, ?_⟩) hHeld ?_
      · intro u hu
        go_simp
      try simp only [Act.put, List.setIfInBounds_toArray, List.set_cons_zero, List.set_cons_succ]
      refine wpAnyH_take (i := 5) (oi := { dst := some 25, op := Op.extract (Operand.tmp 20) 0, type := 23, pos := _, after := #[{ on := 4, ground := Ground.data }], guard := none }) (v := .agg X.cs.toArray) rfl (by kernel_rfl) (by kernel_rfl) (by kernel_rfl) (fun _ _ _ h => h) (Or.inl ⟨by rfl, ?_⟩) hHeld ?_
      · intro u hu
        go_simp
      try simp only [Act.put, List.setIfInBounds_toArray, List.set_cons_zero, List.set_cons_succ]
      refine wpAnyH_take (i := 6) (oi := { dst := some 26, op := Op.extract (Operand.tmp 20) 1, type := 30, pos := _, after := #[{ on := 4, ground := Ground.data }, { on := 8, ground := Ground.gcOnly Departure.lateStores }], guard := none }) (v := .int .i64 e0) rfl (by kernel_rfl) (by kernel_rfl) (by kernel_rfl) (fun _ _ _ h => h) (Or.inl ⟨by rfl, ?_⟩) hHeld ?_
      · intro u hu
        go_simp
      try simp only [Act.put, List.setIfInBounds_toArray, List.set_cons_zero, List.set_cons_succ]
      refine wpAnyH_ready (rs := [8]) (by kernel_rfl) (by simp) ?_
      refine (AllReadyH.cons (o := { dst := none, op := Op.store 23 (Operand.tmp 7) (Operand.tmp 25), type := 0, pos := _, after := #[{ on := 7, ground := Ground.data }, { on := 5, ground := Ground.data }, { on := 3, ground := Ground.chain }, { on := 0, ground := Ground.phase }, { on := 1, ground := Ground.phase }, { on := 2, ground := Ground.phase }, { on := 3, ground := Ground.phase }, { on := 4, ground := Ground.phase }, { on := 5, ground := Ground.phase }, { on := 6, ground := Ground.textOnly Departure.lateStores }, { on := 7, ground := Ground.phase }], guard := none }) rfl (fun K hK => ?_) AllReadyH.nil)
      refine step_put 23 64 arrB rfl (.tmp 7) (.tmp 25) rfl g7 (by rfl) X.l (by rfl) hX _ y7 (by simp) ?_
      intro v8 y8 s8
      refine hK.out _ _ (((Stp.of_below hHeld (fun x => W.heap.size ≤ x)).next s8 (fun x hx => .inl (by subst hx; exact m7))).below (Nat.le_refl _) (fun _ h => h)) (fun hHeld => ?_)
      clear hK K
      try simp only [Act.put]
      refine wpAnyH_take (i := 9) (oi := { dst := some 8, op := Op.assign (Operand.tmp 26), type := 30, pos := _, after := #[{ on := 6, ground := Ground.data }, { on := 8, ground := Ground.chain }, { on := 0, ground := Ground.phase }, { on := 1, ground := Ground.phase }, { on := 2, ground := Ground.phase }, { on := 3, ground := Ground.phase }, { on := 4, ground := Ground.phase }, { on := 5, ground := Ground.phase }, { on := 6, ground := Ground.phase }, { on := 7, ground := Ground.phase }, { on := 8, ground := Ground.phase }], guard := none }) (v := .int .i64 e0) rfl (by kernel_rfl) (by kernel_rfl) (by kernel_rfl) (fun _ _ _ h => h) (Or.inl ⟨by rfl, ?_⟩) hHeld ?_
      · intro u hu
        go_simp
      try simp only [Act.put, List.setIfInBounds_toArray, List.set_cons_zero, List.set_cons_succ]
      refine wpAnyH_done (by kernel_rfl) ?_ _
      exact tail1 g7 xa xn xc v8 y8 hHeld
  · skip
    refine step_new 23 64 arrB rfl rfl ?_
    intro g7 v7 a7 z7 y7 b7
    have m7 : W.heap.size ≤ g7 := Nat.le_trans hHeld.size a7
    try (have Q2 := Q2.later b7)
    refine hK.out _ _ (bnext hHeld b7 (Nat.le_refl _)) (fun hHeld => ?_)
    clear hK K
    try simp only [Act.put, List.setIfInBounds_toArray, List.set_cons_zero, List.set_cons_succ]
    refine wpAnyH_ready (rs := [2]) (by kernel_rfl) (by simp) ?_
    refine (AllReadyH.cons (o := { dst := some 23, op := Op.call { callee := Callee.value (Operand.func 16), args := #[Operand.tmp 22], argTypes := #[39] }, type := 39, pos := _, after := #[{ on := 1, ground := Ground.data }], guard := none }) rfl (fun K hK => ?_) AllReadyH.nil)
    go_simp
    refine (hfew _ ⟨la, ln, lc⟩ (P1.later hHeld)).mono ?_
    rintro e v2 ⟨⟨xa, xn, xc⟩, rfl, Q2, c2⟩
    try go_wp2_with fail
    try (have y7 := y7.later c2)
    refine hK.out _ _ (bnext hHeld c2 (Nat.le_refl _)) (fun hHeld => ?_)
    clear hK K
    try simp only [Act.put, List.setIfInBounds_toArray, List.set_cons_zero, List.set_cons_succ]
    refine wpAnyH_ready (rs := [3]) (by kernel_rfl) (by simp) ?_
    refine (AllReadyH.cons (o := { dst := some 24, op := Op.call { callee := Callee.value (Operand.func 17), args := #[Operand.tmp 21, Operand.tmp 23], argTypes := #[23, 39] }, type := 31, pos := _, after := #[{ on := 0, ground := Ground.data }, { on := 2, ground := Ground.data }, { on := 2, ground := Ground.chain }], guard := none }) rfl (fun K hK => ?_) AllReadyH.nil)
    go_simp
    refine (hNow _ ⟨xa, xn, xc⟩ Q2).mono ?_
    rintro e v3 ⟨rfl, c3⟩
    try go_wp2_with fail
    try (have y7 := y7.later c3)
    refine hK.out _ _ (bnext hHeld c3 (Nat.le_refl _)) (fun hHeld => ?_)
    clear hK K
    try simp only [Act.put, List.setIfInBounds_toArray, List.set_cons_zero, List.set_cons_succ]
    refine wpAnyH_take (i := 4) (oi := { dst := some 20, op := Op.move (Operand.tmp 24), type := 31, pos := _, after := #[{ on := 3, ground := Ground.data }], guard := none }) (v := .tuple #[.agg X.cs.toArray, .int .i64 e0]) rfl (by kernel_rfl) (by kernel_rfl) (by kernel_rfl) (fun _ _ _ h => h) (Or.inl ⟨by rfl, ?_⟩) hHeld ?_
    · intro u hu
      go_simp
    try simp only [Act.put, List.setIfInBounds_toArray, List.set_cons_zero, List.set_cons_succ]
    refine wpAnyH_take (i := 5) (oi := { dst := some 25, op := Op.extract (Operand.tmp 20) 0, type := 23, pos := _, after := #[{ on := 4, ground := Ground.data }], guard := none }) (v := .agg X.cs.toArray) rfl (by kernel_rfl) (by kernel_rfl) (by kernel_rfl) (fun _ _ _ h => h) (Or.inl ⟨by rfl, ?_⟩) hHeld ?_
    · intro u hu
      go_simp
    try simp only [Act.put, List.setIfInBounds_toArray, List.set_cons_zero, List.set_cons_succ]
    refine wpAnyH_take (i := 6) (oi := { dst := some 26, op := Op.extract (Operand.tmp 20) 1, type := 30, pos := _, after := #[{ on := 4, ground := Ground.data }, { on := 8, ground := Ground.gcOnly Departure.lateStores }], guard := none }) (v := .int .i64 e0) rfl (by kernel_rfl) (by kernel_rfl) (by kernel_rfl) (fun _ _ _ h => h) (Or.inl ⟨by rfl, ?_⟩) hHeld ?_
    · intro u hu
      go_simp
    try simp only [Act.put, List.setIfInBounds_toArray, List.set_cons_zero, List.set_cons_succ]
    refine wpAnyH_ready (rs := [8]) (by kernel_rfl) (by simp) ?_
    refine (AllReadyH.cons (o := { dst := none, op := Op.store 23 (Operand.tmp 7) (Operand.tmp 25), type := 0, pos := _, after := #[{ on := 7, ground := Ground.data }, { on := 5, ground := Ground.data }, { on := 3, ground := Ground.chain }, { on := 0, ground := Ground.phase }, { on := 1, ground := Ground.phase }, { on := 2, ground := Ground.phase }, { on := 3, ground := Ground.phase }, { on := 4, ground := Ground.phase }, { on := 5, ground := Ground.phase }, { on := 6, ground := Ground.textOnly Departure.lateStores }, { on := 7, ground := Ground.phase }], guard := none }) rfl (fun K hK => ?_) AllReadyH.nil)
    refine step_put 23 64 arrB rfl (.tmp 7) (.tmp 25) rfl g7 (by rfl) X.l (by rfl) hX _ y7 (by simp) ?_
    intro v8 y8 s8
    refine hK.out _ _ (((Stp.of_below hHeld (fun x => W.heap.size ≤ x)).next s8 (fun x hx => .inl (by subst hx; exact m7))).below (Nat.le_refl _) (fun _ h => h)) (fun hHeld => ?_)
    clear hK K
    try simp only [Act.put]
    refine wpAnyH_take (i := 9) (oi := { dst := some 8, op := Op.assign (Operand.tmp 26), type := 30, pos := _, after := #[{ on := 6, ground := Ground.data }, { on := 8, ground := Ground.chain }, { on := 0, ground := Ground.phase }, { on := 1, ground := Ground.phase }, { on := 2, ground := Ground.phase }, { on := 3, ground := Ground.phase }, { on := 4, ground := Ground.phase }, { on := 5, ground := Ground.phase }, { on := 6, ground := Ground.phase }, { on := 7, ground := Ground.phase }, { on := 8, ground := Ground.phase }], guard := none }) (v := .int .i64 e0) rfl (by kernel_rfl) (by kernel_rfl) (by kernel_rfl) (fun _ _ _ h => h) (Or.inl ⟨by rfl, ?_⟩) hHeld ?_
    · intro u hu
      go_simp
    try simp only [Act.put, List.setIfInBounds_toArray, List.set_cons_zero, List.set_cons_succ]
    refine wpAnyH_done (by kernel_rfl) ?_ _
    exact tail1 g7 xa xn xc v8 y8 hHeld

theorem own : ownKnob Try.prog.godebug = none := by kernel_rfl
theorem laidOut : laidOutB Try.prog = true := by kernel_rfl
set_option maxRecDepth 100000 in
theorem lifted (os : Os) (started : os.Started) (H : Type) (enc : TypeId × Value → H) :
    ReturnsInHanded {} Try.checked os 4 .any (Rows.rollRollsSpec.pre6 enc Try.prog Try.f4 Rows.rollRollsRow.domain false) (Rows.rollRollsSpec.post enc Try.prog Try.f4 false true false false) := by
  refine returnsInHanded_of_change_sized (C := Try.checked) own started (by kernel_rfl) Try.func4
    (ChangeSpec.witness6 (enc := enc) (C := Try.checked) false ⟨#[], #[.agg Blk.zero.cs.toArray, .slice none 0 0, .slice none 0 0], []⟩ 8 (by kernel_rfl) (by kernel_rfl) (by kernel_rfl) (by kernel_rfl)) ?_
  intro W base args ds gs before hval0 hW hcnd hsz _
  have hval : ∀ (j : Nat) t v, Try.f4.params[j]? = some t → args[j]? = some v → Value.okWide Try.prog W .any base t v := hval0
  have hW' := hW
  obtain ⟨p, q, hA0, hV, rfl, hfz, hnd⟩ := hW
  have hA : DataW.TrodAll enc Try.prog W 0 (fun _ => true) true Try.f4.params.toList args.toList ds p := hA0
  rw [Try.params4] at hA hval
  obtain ⟨v0, vs0, d0, ds0, p0, q0, hargs, rfl, rfl, h0, r0⟩ := trodAll_cons hA
  obtain ⟨v1, vs1, d1, ds1, p1, q1, rfl, rfl, rfl, h1, r1⟩ := trodAll_cons r0
  obtain ⟨v2, vs2, d2, ds2, p2, q2, rfl, rfl, rfl, h2, r2⟩ := trodAll_cons r1
  obtain ⟨rfl, rfl, rfl⟩ := trodAll_nil r2
  obtain rfl : args = #[v0, v1, v2] := by cases args; simp_all
  obtain ⟨rfl, rfl⟩ := trodVars_none hV
  obtain ⟨cs0, rfl, _⟩ := okWide_row arrB.und (hval 0 23 v0 rfl rfl)
  have k0 := h0
  have lt0 : ∀ x ∈ p0, x.block < W.heap.size := by obtain ⟨m, hm⟩ := k0; exact DataW.trod_lt m _ _ _ hm
  obtain ⟨b0, e0⟩ : ∃ b : Blk, cs0 = b.cs.toArray := by
    obtain ⟨fuel, hf⟩ := h0
    obtain ⟨b, hb⟩ := blkOfTrod hf
    exact ⟨b, by rw [hb]; simp [Value.cells]⟩
  subst e0
  obtain ⟨a1, len1, cap1, rfl⟩ := okWide_slice Try.underlying39 (hval 1 39 v1 rfl rfl)
  have k1 := h1
  have lt1 : ∀ x ∈ p1, x.block < W.heap.size := by obtain ⟨m, hm⟩ := k1; exact DataW.trod_lt m _ _ _ hm
  obtain ⟨z1, w1⟩ : ∃ zs, Ps W (fun x => x < W.heap.size) ⟨a1, len1, cap1⟩ zs := by
    obtain ⟨fuel, hf⟩ := h1
    obtain ⟨a, n, c, l, hcs, hi⟩ := pts_of_trod hf
    simp [Value.cells] at hcs
    obtain ⟨rfl, rfl, rfl⟩ := hcs
    exact ⟨_, hi⟩
  obtain ⟨a2, len2, cap2, rfl⟩ := okWide_slice Try.underlying25 (hval 2 25 v2 rfl rfl)
  have k2 := h2
  have lt2 : ∀ x ∈ p2, x.block < W.heap.size := by obtain ⟨m, hm⟩ := k2; exact DataW.trod_lt m _ _ _ hm
  have hz2 : ∀ k ∈ d2.weights Try.prog 25, k ≤ reachBytes := fun k hk => by
    have := List.all_eq_true.1 hsz k (DataW.weights_mem_each (j := 2) (t := 25) (d := d2) (by rfl) (by rfl) k hk)
    simpa using this
  obtain ⟨z2, w2, y2⟩ : ∃ zs : List Int, InsS W ⟨a2, len2, cap2⟩ zs ∧ zs.length * 8 ≤ reachBytes := by
    obtain ⟨fuel, hf⟩ := h2
    obtain ⟨s, l, hcs, hi, hs⟩ := insz_of hf hz2
    simp [Value.cells] at hcs
    obtain ⟨rfl, rfl, rfl⟩ := hcs
    exact ⟨l, hi, hs⟩
  clear hA0 hval0
  refine (walk b0 a1 len1 cap1 z1 ⟨a2, len2, cap2⟩ z2 W w1 w2 y2).mono fun e W' ⟨he, bel⟩ => ?_
  subst he
  exact ⟨_, rfl, _, _, _, [], _, [], hW', trodAll_mk1 (shut_bool Try.underlying4 _), (trodAll_cons_mk (Below.trod laidOut (by kernel_rfl) (of_decide_eq_true (by kernel_rfl)) k0 bel lt0) (trodAll_cons_mk (Below.trod laidOut (by kernel_rfl) (of_decide_eq_true (by kernel_rfl)) k1 bel lt1) (trodAll_cons_mk (Below.trod laidOut (by kernel_rfl) (of_decide_eq_true (by kernel_rfl)) k2 bel lt2) trodAll_mk0))), rfl, bel.frame _, fun h => by cases h⟩
theorem over : Rows.rollRollsRow.holds Try.pinned (OpenSpec.ofChange Rows.rollRollsSpec) :=
  OpenClaim.holds_of_wide 4 Try.f4 rfl rfl rfl rfl rfl rfl rfl ⟨rfl, rfl, rfl, rfl, rfl⟩ rfl rfl rfl rfl rfl (by kernel_rfl) Try.func4 (by kernel_rfl)
    (of_decide_eq_true (by kernel_rfl)) (by unfold Func.isWrapper; first | (rw [if_pos (by decide +kernel)]; kernel_rfl) | (rw [if_neg (by decide +kernel)]; exact ⟨rfl, rfl⟩))
    (fun os started H enc _ => lifted os started H enc)
end Go.Proofs.Yteceapdkgidenaa.rollRolls
namespace Go.Proofs.Yteceapdkgidenaa
/-- The statement. -/
theorem rollRolls_holds : Rows.RollRollsSaid := rollRolls.over
#print axioms rollRolls_holds
end Go.Proofs.Yteceapdkgidenaa
