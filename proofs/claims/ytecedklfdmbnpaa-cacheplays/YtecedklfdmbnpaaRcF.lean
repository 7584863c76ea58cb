/-
  What hold and Get of the document's cache do: no statement is proved here.
-/
import Derived.Test.YtecedklfdmbnpaaRcE
namespace Go.Proofs.Ytecedklfdmbnpaa
open Go.ChangeShapes Go.WideShapes Go.ChangeAt Go.RowKit
set_option linter.unusedVariables false
set_option linter.unusedSimpArgs false

theorem room_shown {Z : CZ} {i : Int} (hn : fnd Z.l i = none) : Z.room.d.shown i = Z.d.shown i := by
  have hb : ∀ k, k ∈ keys Z.l → (Z.back k).d.shown i = Z.d.shown i := fun k hk => by
    have hne : i ≠ k := fun e => fnd_none_iff.1 hn (e ▸ hk)
    unfold CZ.back
    split
    · rfl
    · split
      · exact shown_write_no _ i hne
      · rfl
  unfold CZ.room
  split
  · rfl
  · cases hv : vic Z.l with
    | none => rfl
    | some e =>
      have hk := mem_key (q := e.2) (vic_mem hv).1
      simp only
      split
      · exact hb e.1 hk
      · exact hb e.1 hk
theorem Rx.stable {w : World} {yc y q : Nat} {Z : CZ} {s : PS} {lv : Value} {E R : Nat → Prop} (H : Rx w yc y q Z s lv E R) : ∃ sb, w.cell? ⟨y, 1, none⟩ = some (.slice (some ⟨sb, 0, none⟩) Z.d.n Z.d.n) := by
  obtain ⟨sb, t, v, h⟩ := H.rd
  exact ⟨sb, h.c1⟩
set_option maxRecDepth 100000 in
set_option maxHeartbeats 4000000 in
theorem rhold_any {w : World} {yc y q : Nat} {Z : CZ} {s : PS} {lv : Value} {E R : Nat → Prop} {t : Nat} (H : Rx w yc y q Z s lv E R) (ok : Z.ok t) (ht : t ≤ 10000) (i : Int) (hwi : (Lit.int .i64 i).wf = true) :
    Calls Try.prog 53 #[.pointer (some ⟨yc, 0, none⟩), .int .i64 i] w fun r w' => r = .returned (.int .i64 (Z.holdE i)) ∧ RTo yc y q E R (Z.hold i) w w' := by
  have hlen : Z.l.length ≤ 64 := by have := ok.len; have := ok.n2; omega
  obtain ⟨y0, y1, y2, y3, y4⟩ := H.cells
  obtain ⟨sb, yS⟩ := H.stable
  by_cases hi : Z.d.inn i
  · obtain ⟨hi0, hi1⟩ := hi
    have hi : Z.d.inn i := ⟨hi0, hi1⟩
    have hi0' : ¬ (i < 0) := by omega
    have hfi := rfind_any H i hlen
    cases hq : fnd Z.l i with
    | some p =>
      obtain ⟨k1, k2, k3⟩ := idx_some hq
      have hup := upT_rmv hq
      have e3 : pos Z.l i = (idx Z.l i : Int) := by unfold pos; rw [hq]
      have hH : Hid (Z.holdE i = 0 ∧ Z.hold i = Z.hit i p) := by
        refine ⟨?_, ?_⟩
        · unfold CZ.holdE; rw [if_pos hi, hq]
        · unfold CZ.hold; rw [if_pos hi, hq]
      rw [e3] at hfi; clear e3
      generalize idx Z.l i = k at *
      have hne : Z.l ≠ [] := by intro e; rw [e] at k1; simp at k1
      obtain ⟨g0, cap, cur, elv, hw⟩ := H.ow.row1 hne
      subst elv
      have H1 := H.hit (wrap64 (Z.h + 1))
      have s1 : Stp (fun x => x = yc) w (w.setCell ⟨yc, 3, none⟩ (.int .i64 (wrap64 (Z.h + 1)))) := (Stp.refl (fun x => x = yc) w).setCell (p := ⟨yc, 3, none⟩) (.inl rfl) _
      have hEg := H.eo g0 rfl
      have rk := s1.range (hw.range k k1) hEg.2
      rw [k2] at rk
      have v3 := H.c.frozen 3
      have z2 := H1.c.cell 2 _ rfl
      have a1 : (0 : Int) ≤ (k : Int) := by omega
      have a2 : (k : Int) < (Z.l.length : Int) := by omega
      have hF := rfront_any H1 (i, p) (k : Int) hlen
      have hUP : Hid (upT Z.l (k : Int) Z.l.length = rmv Z.l i) := hup
      clear hup k2 k3
      go_enter Try.func53, Try.ntmps53
      go_wp2_with (first
        | (go_at_call 45; refine hfi.mono ?_; rintro e w1 ⟨rfl, rfl⟩; clear hfi)
        | (refine at_getO (by rfl) _ (by rfl) g0 (k * 67) (by rfl) (i, p) rk ?_)
        | (go_at_call 64; refine hF.mono ?_; rintro e w2 ⟨rfl, lv2, E2, H2, s2, g2⟩; clear hF))
      go_returns
      refine ⟨by rw [hH.out.1]; rfl, ?_⟩
      rw [hH.out.2]
      have hZ : ({ { Z with h := wrap64 (Z.h + 1) } with l := (i, p) :: upT Z.l (k : Int) Z.l.length } : CZ) = Z.hit i p := by
        unfold CZ.hit; rw [hUP.out]
      have H3 : Rx w2 yc y q (Z.hit i p) s lv2 E2 R := by rw [← hZ]; exact H2
      have st : Stp E w w2 := (s1.mono (fun x e => .inl (e ▸ H.eg))).trans s2
      exact ⟨s, lv2, E2, R, H3, st.mono (fun x e => .inl (.inl e)), g2.pre s1.size, Grew.refl _ _ _⟩
    | none =>
      have e3 : pos Z.l i = -1 := by unfold pos; rw [hq]
      rw [e3] at hfi; clear e3
      have hRm := rroom_any H ok ht
      have okr := ok.room
      have hhe : Z.holdE i = Z.roomE := by unfold CZ.holdE; rw [if_pos hi, hq]
      by_cases hE : Z.roomE = 0
      · have hH : Hid (Z.holdE i = 0 ∧ Z.hold i = Z.room.miss i (Z.d.shown i)) := by
          refine ⟨by rw [hhe, hE], ?_⟩
          unfold CZ.hold; rw [if_pos hi, hq]; simp only [hE, if_true]
        have hsw : Hid (Z.room.d.shown i = Z.d.shown i) := room_shown hq
        have hlr : Z.room.l.length ≤ 64 := by have := okr.len; have := okr.n2; omega
        have hup := upT_none Z.room.l Z.room.l.length (Nat.le_refl _)
        rw [List.take_length] at hup
        have hUP : Hid (upT Z.room.l (-1) Z.room.l.length = Z.room.l) := hup
        rw [hE] at hRm; clear hE hhe hup
        generalize Z.room = Y at *
        go_enter Try.func53, Try.ntmps53
        go_wp2_with (first
          | (go_at_call 45; refine hfi.mono ?_; rintro e w1 ⟨rfl, rfl⟩; clear hfi)
          | (go_at_call 65; refine hRm.mono ?_; rintro e w4 ⟨rfl, s4, lv4, E4, R4, H4, st4, gE4, gR4⟩
             have z4 := H4.c.cell 4 _ rfl
             have v4 := H4.c.frozen 4
             have H5 := H4.missed (wrap64 (Y.m + 1))
             have z0 := H5.c.cell 0 _ rfl
             have hR := rread_any H5.rd i hwi
             clear hRm y0 y1 y2 y3 y4 yS)
          | (go_at_call 21; refine hR.mono ?_; rintro e w6 ⟨rfl, b6⟩
             have H6 := H5.later b6
             clear hR)
          | (refine at_newB (by rfl) (by rfl) ?_; intro gb w7 a7 l7 r7 b7
             have H7 := H6.later b7)
          | (refine at_putB (by rfl) _ _ (by rfl) gb (by rfl) (Y.d.shown i) (by rfl) _ r7 ?_; intro w8 r8 s8
             have hgb := H6.far gb a7
             have H8 := H7.step s8 (fun x hx e => hgb (.inl (e ▸ hx))) (fun x hx e => hgb (.inr (.inl (e ▸ hx)))) (fun e => hgb (.inr (.inr e.symm)))
             have hF := rfront_any H8 (i, ⟨Y.d.shown i, false, 0⟩) (-1) hlr
             clear r7)
          | (refine at_getB (by rfl) _ (by rfl) gb (by rfl) (Y.d.shown i) r8.range ?_)
          | (refine at_bldO (by rfl) _ _ (by rfl) i (by rfl) (Y.d.shown i) (by rfl) ?_)
          | (go_at_call 64; refine hF.mono ?_; rintro e w9 ⟨rfl, lv9, E9, H9, s9, g9⟩; clear hF))
        go_returns
        refine ⟨by rw [hH.out.1]; rfl, ?_⟩
        rw [hH.out.2]
        have hZ : ({ { Y with m := wrap64 (Y.m + 1) } with l := (i, ⟨Y.d.shown i, false, 0⟩) :: upT Y.l (-1) Y.l.length } : CZ) = Y.miss i (Z.d.shown i) := by
          unfold CZ.miss; rw [hUP.out, hsw.out]
        have HF : Rx w9 yc y q (Y.miss i (Z.d.shown i)) s4 lv9 E9 R4 := by rw [← hZ]; exact H9
        have k5 : Stp (fun x => x = yc) w4 (w4.setCell ⟨yc, 4, none⟩ (.int .i64 (wrap64 (Y.m + 1)))) := (Stp.refl (fun x => x = yc) w4).setCell (p := ⟨yc, 4, none⟩) (.inl rfl) _
        have k8 : Stp (fun x => x = yc ∨ x = gb) w4 w8 := (((k5.mono (F' := fun x => x = yc ∨ x = gb) (fun x e => .inl (.inl e))).trans (Stp.of_below (bnext b6 b7 (Nat.le_refl _)) _)).next s8 (fun x e => .inl (.inr e)))
        have hgb4 : w4.heap.size ≤ gb := Nat.le_trans k5.size (Nat.le_trans b6.size a7)
        have k9 : Stp E4 w4 w9 := (k8.mono (F' := E4) (fun x e => by
          rcases e with e | e
          · exact .inl (e ▸ H4.eg)
          · exact .inr (by omega))).trans s9
        exact RTo.mk' st4 ⟨s4, lv9, E9, R4, HF, k9.mono (fun x e => .inl (.inl e)), g9.pre k8.size, Grew.refl _ _ _⟩ gE4 gR4
      · have hH : Hid (Z.holdE i = Z.roomE ∧ Z.hold i = Z.room) := by
          refine ⟨hhe, ?_⟩
          unfold CZ.hold; rw [if_pos hi, hq]; simp only [hE, if_false]
        clear hhe
        go_enter Try.func53, Try.ntmps53
        go_wp2_with (first
          | (go_at_call 45; refine hfi.mono ?_; rintro e w1 ⟨rfl, rfl⟩; clear hfi)
          | (go_at_call 65; refine hRm.mono ?_; rintro e w4 ⟨rfl, h4⟩))
        go_returns
        exact ⟨by rw [hH.out.1]; rfl, by rw [hH.out.2]; exact h4⟩
  · have e1 : Z.holdE i = 2 := by unfold CZ.holdE; rw [if_neg hi]
    have e2 : Z.hold i = Z := by unfold CZ.hold; rw [if_neg hi]
    rw [e1, e2]; clear e1 e2
    by_cases h0 : i < 0
    · go_enter Try.func53, Try.ntmps53
      go_wp2
      go_returns
      exact ⟨rfl, H.here (Stp.refl _ _)⟩
    · have h1 : (Z.d.n : Int) ≤ i := by unfold DS.inn at hi; omega
      clear hi
      go_enter Try.func53, Try.ntmps53
      go_wp2
      go_returns
      exact ⟨rfl, H.here (Stp.refl _ _)⟩
set_option maxRecDepth 100000 in
set_option maxHeartbeats 2000000 in
theorem rget_any {w : World} {yc y q : Nat} {Z : CZ} {s : PS} {lv : Value} {E R : Nat → Prop} {t : Nat} (H : Rx w yc y q Z s lv E R) (ok : Z.ok t) (ht : t ≤ 10000) (i : Int) (hwi : (Lit.int .i64 i).wf = true) :
    Calls Try.prog 42 #[.pointer (some ⟨yc, 0, none⟩), .int .i64 i] w fun r w' => r = .returned (.tuple #[.agg (Z.got i).cs.toArray, .int .i64 (Z.holdE i)]) ∧ RTo yc y q E R (Z.hold i) w w' := by
  have hH := fun u (hu : Below w.heap.size w u) => rhold_any (H.later hu) ok ht i hwi
  have fin : ∀ (w1 w2 w3 : World) (gb : Nat), Below w.heap.size w w1 → w.heap.size ≤ gb → gb < w1.heap.size → RTo yc y q E R (Z.hold i) w1 w2 → Stp (fun x => x = gb) w2 w3 → RTo yc y q E R (Z.hold i) w w3 := fun w1 w2 w3 gb b1 a1 l1 h2 s3 => by
    obtain ⟨s', lv', E', R', h1, h2, h3, h4⟩ := h2
    have hgb : ¬ Rl q E' R' gb := fun e => by
      rcases e with e | e | e
      · rcases h3 gb e with e | e
        · exact H.far gb a1 (.inl e)
        · omega
      · rcases h4 gb e with e | e
        · exact H.far gb a1 (.inr (.inl e))
        · omega
      · exact H.far gb a1 (.inr (.inr e))
    have HX := h1.step s3 (fun x hx e => hgb (.inl (e ▸ hx))) (fun x hx e => hgb (.inr (.inl (e ▸ hx)))) (fun e => hgb (.inr (.inr e.symm)))
    have S2 : Stp (Rl q E R) w w2 := (Stp.of_below b1 _).trans h2
    exact ⟨s', lv', E', R', HX, S2.next s3 (fun x e => .inr (by rw [e]; exact a1)), Grew.trans (b := w2) (h3.pre b1.size) (Grew.refl _ _ _) S2.size s3.size, Grew.trans (b := w2) (h4.pre b1.size) (Grew.refl _ _ _) S2.size s3.size⟩
  by_cases he : Z.holdE i = 0
  · obtain ⟨p, rs, hl⟩ := hold_head he
    have hHE : Hid (Z.got i = p.b ∧ Z.holdE i = 0) := ⟨by unfold CZ.got; rw [if_pos he, fnd_head hl], he⟩
    have h0l : (0 : Int) < ((Z.hold i).l.length : Int) := by rw [hl]; simp
    rw [he] at hH; clear he
    have hne : (Z.hold i).l ≠ [] := by rw [hl]; simp
    have h00 : (Z.hold i).l.getD 0 e0 = (i, p) := by rw [hl]; rfl
    have h0n : 0 < (Z.hold i).l.length := by rw [hl]; simp
    clear hl
    go_enter Try.func42, Try.ntmps42
    go_wp2_with (first
      | (refine at_newB (by rfl) (by rfl) ?_; intro gb w1 a1 l1 r1 b1)
      | (go_at_call 53; refine (hH _ b1).mono ?_; rintro e w2 ⟨rfl, hT⟩
         have hT2 := hT
         obtain ⟨s2, lv2, E2, R2, H2, st2, gE2, gR2⟩ := hT2
         obtain ⟨g0, cap, cur, elv, hw⟩ := H2.ow.row1 hne
         subst elv
         have z2 := H2.c.cell 2 _ rfl
         have rk := hw.range 0 h0n
         rw [h00] at rk
         have rb : w2.rangeAt g0 1 p.b.cs := by have := onc_b rk; simpa using this
         have r2 : Cs w2 gb Blk.zero.cs := r1.step st2 (H.far gb a1)
         clear hH)
      | (refine at_load (by rfl) _ (by rfl) g0 1 (by rfl) p.b rb ?_)
      | (refine at_putB (by rfl) _ _ (by rfl) gb (by rfl) p.b (by rfl) _ r2 ?_; intro w3 r3 s3))
    refine bodyPost_ret (retBt Try.results42 rfl rfl r3) rfl ⟨by obtain ⟨q1, q2⟩ := hHE.out; rw [q1, q2]; rfl, fin w1 w2 w3 gb b1 a1 l1 hT s3⟩
  · have hHE : Hid (Z.got i = Blk.zero) := by show _ = _; unfold CZ.got; rw [if_neg he]
    go_enter Try.func42, Try.ntmps42
    go_wp2_with (first
      | (refine at_newB (by rfl) (by rfl) ?_; intro gb w1 a1 l1 r1 b1)
      | (go_at_call 53; refine (hH _ b1).mono ?_; rintro e w2 ⟨rfl, hT⟩
         have hT2 := hT
         obtain ⟨s2, lv2, E2, R2, H2, st2, gE2, gR2⟩ := hT2
         have r2 : Cs w2 gb Blk.zero.cs := r1.step st2 (H.far gb a1)
         clear hH)
      | (refine at_build (by rfl) (by rfl) ?_)
      | (refine at_putB (by rfl) _ _ (by rfl) gb (by rfl) Blk.zero (by rfl) _ r2 ?_; intro w3 r3 s3))
    refine bodyPost_ret (retBt Try.results42 rfl rfl r3) rfl ⟨by rw [hHE.out]; rfl, fin w1 w2 w3 gb b1 a1 l1 hT s3⟩
end Go.Proofs.Ytecedklfdmbnpaa
