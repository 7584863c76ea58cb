/-
  Texts of my own, joined: no statement is proved here.
-/
import Derived.Test.YtennaimdffohfaaGreatDoorJbw
set_option linter.unusedSimpArgs false
set_option linter.unusedVariables false
namespace Go.Proofs.YtennaimdffohfaaGreatDoor
open Go.ChangeShapes Go.WideShapes Go.ChangeAt Go.RowKit
set_option maxRecDepth 100000
theorem below_vol {u w : World} {A : VA} {V : VZ} {T X : Nat → Prop} (R : Stp X u w) (hX : ∀ x, X x → x = 0 ∨ u.heap.size ≤ x) (h : Vo w A V T) (hz : A.z = u.heap[0]?) : Below u.heap.size u w := by
  obtain ⟨U, E, F, H, _⟩ := h
  refine ⟨R.os, R.tape, R.output, R.size, fun k hk => ?_⟩
  by_cases h0 : k = 0
  · subst h0; rw [H.z0, hz]
  · exact R.block k hk (fun e => by rcases hX k e with e | e; exact h0 e; omega)
set_option maxHeartbeats 8000000 in
theorem works18_any (u : World) (ht : Tab u) : Calls Tryz.prog 4 #[] u fun e w' => e = .returned (.bool true) ∧ Below u.heap.size u w' := by
  have hSh := shape_zero u
  have hBl := fun w => blank_any wG 11 w_tot (by omega) w
  have hMd : ∀ w b, Wd w b 11 11 (blkL wG 11) → Tab w → _ := fun w b h t => made_any h t 4 (by omega) (by omega)
  have hm0 : Hid (mkE ((DS.new 11).load (blkL wG 11)) 4 = 0) := by show _ = _; unfold mkE; rw [if_neg (by omega)]; exact w_find
  have e0 : Hid (VZ.new ((DS.new 11).load (blkL wG 11)) PS.fresh.turn (WS.turn ⟨0, 0, 0⟩ 0 PS.fresh) (4 : Int).toNat = wV0) := rfl
  have ok0 := w_ok0
  have hRd := fun w' => rdata_any wV0.s 0 0 w'
  rw [x_d] at hRd
  go_enter Tryz.func4, Tryz.ntmps4
  go_wp2_with (first
    | (go_at_call 12; refine hSh.mono ?_; rintro e w1 ⟨rfl, b1⟩; clear hSh)
    | (go_at_call 11; refine (hBl _).mono ?_; rintro e w2 ⟨gb, rfl, l2, r2, b2⟩; clear hBl
       have ht2 := ht.later (bnext b1 b2 (Nat.le_refl _)))
    | (go_at_call 10; refine (hMd _ _ r2 ht2).mono ?_; rintro e w3 ⟨g6, sP, gD, gW, qq, ge, gx, pv, py, rfl, q3, b3, HM⟩; clear hMd
       obtain ⟨-, A, U, E, F, gy, yc, gp, K, rfl, rfl, rfl, rfl, rfl, z3, WZ⟩ := Or.resolve_left HM (fun h => h.1 hm0.out)
       have H3 := WZ.vx
       rw [e0.out] at H3
       have ry3 := WZ.ry.c
       rw [e0.out] at ry3
       have n3 := WZ.ng.1
       have f3 := WZ.lo.1
       have ny : ¬ Vt A U E F gy := fun e => WZ.ap gy e (.inr (.inl rfl))
       clear WZ HM e0
       have y3 := q3.cell 3 _ rfl
       have hBk := ablock_any ⟨U, E, F, H3, fun _ => Iff.rfl⟩ ok0 (by omega) (by omega) 0 x_g
       rw [x_s, x_n, x_e] at hBk)
    | (go_at_call 5; refine hBk.mono ?_; rintro e w4 ⟨rfl, k4⟩; clear hBk y3
       have k4p : VG A xV (Vt A U E F) w3 w4 := k4
       obtain ⟨T4, H4, s4, g4⟩ := k4p
       clear k4
       have q4 := q3.step s4 n3
       have ry4 := ry3.step s4 ny
       have y7 := q4.cell 7 _ rfl)
    | (refine at_getP 37 3 rowG sizeG (by rfl) _ (by rfl) gy 0 (by rfl) _ ry4 [.int .i64 wV0.s.g, .int .i64 wV0.s.i, .int .i64 wV0.s.d] (by rfl) rfl ?_)
    | (go_at_call 13; refine (hRd _).mono ?_; rintro e w5 ⟨rfl, b5⟩; clear hRd y7
       have y3 := (q4.later b5).cell 3 _ rfl
       have hFr := afree_any (H4.later b5) x_ok (by omega) 0 0 0 (wfi_of (by omega)) (wfi_of (by omega))
       rw [x_f] at hFr)
    | (go_at_call 9; refine hFr.mono ?_; rintro e w6 ⟨rfl, k6⟩; clear hFr y3))
  go_returns
  refine ⟨rfl, ?_⟩
  obtain ⟨T6, H6, s6, g6'⟩ := k6
  have k0 := b1.size
  have k2 := b2.size
  have k3 := b3.size
  have z4 : ∀ x, T4 x → x = 0 ∨ u.heap.size ≤ x := fun x h => by
    rcases g4 x h with h | h
    · rcases f3 x h with h | h
      · exact .inl h
      · exact .inr (by omega)
    · exact .inr (by omega)
  have R : Stp (fun x => x = 0 ∨ u.heap.size ≤ x) u w6 := (((Stp.of_below (bnext (bnext b1 b2 (Nat.le_refl _)) b3 (Nat.le_refl _)) (fun x => x = 0 ∨ u.heap.size ≤ x)).next s4 (fun x hx => .inl (by rcases f3 x hx with h | h; exact .inl h; exact .inr (by omega)))).trans (Stp.of_below b5 _)).next s6 (fun x hx => .inl (z4 x hx))
  exact below_vol R (fun _ h => h) H6 (by rw [z3]; exact (bnext b1 b2 (Nat.le_refl _)).block 0 ht.lt)
end Go.Proofs.YtennaimdffohfaaGreatDoor
namespace Go.Proofs.YtennaimdffohfaaGreatDoor.allocVoid
open Go.ChangeShapes Go.WideShapes Go.ChangeAt Go.RowKit
set_option maxRecDepth 100000
theorem geom_nil (w : World) : Calls Tryz.prog 16 #[.pointer none] w fun e w' => e = .returned (.agg #[.int .i64 0, .int .i64 0, .int .i64 0]) ∧ Below w.heap.size w w' := by
  go_enter Tryz.func16, Tryz.ntmps16
  go_wp2_with (first
    | (refine at_newG (by rfl) (by rfl) ?_; intro g2 w2 a2 z2 r2 b2)
    | (refine at_putG (by rfl) _ _ (by rfl) g2 (by rfl) Gm.zero (by rfl) _ r2 ?_; intro w3 r3 s3))
  refine bodyPost_ret (retG1 Tryz.results16 rfl r3) rfl ⟨rfl, ((Stp.of_below b2 (fun _ => False)).next s3 (fun x e => .inr (by omega))).below (Nat.le_refl _) (fun x e => e.elim)⟩
theorem take_nil (kd g : Int) (w : World) : Calls Tryz.prog 14 #[.pointer none, .int .i64 kd, .int .i64 g] w fun e w' => e = .returned (.tuple #[.agg (FR.no 0).cs.toArray, .int .i64 0, .int .i64 1]) ∧ Below w.heap.size w w' := by
  go_enter Tryz.func14, Tryz.ntmps14
  go_wp2_with (first
    | (refine at_newC 58 3 _ srtA (by rfl) (by rfl) ?_; intro gr w1 a1 z1 r1 b1)
    | (refine at_bldA0 (by rfl) (by rfl) ?_)
    | (refine at_putC 58 3 _ srtA (by rfl) _ _ (by rfl) gr (by rfl) (FR.no 0).cs (by rfl) rfl (FR.one _) _ r1 (by rfl) ?_; intro w2 r2 s2))
  refine bodyPost_ret (retPtt srtA Tryz.results14 rfl rfl rfl r2 rfl) rfl ⟨rfl, ((Stp.of_below b1 (fun _ => False)).next s2 (fun x e => .inr (by omega))).below (Nat.le_refl _) (fun x e => e.elim)⟩
theorem block_nil (g : Int) (w : World) : Calls Tryz.prog 5 #[.pointer none, .int .i64 g] w fun e w' => e = .returned (.tuple #[.int .i64 0, .int .i64 0, .int .i64 1]) ∧ Below w.heap.size w w' := by
  go_enter Tryz.func5, Tryz.ntmps5
  go_wp2_with (first
    | (go_at_call 14; refine (take_nil _ _ _).mono ?_; rintro e w1 ⟨rfl, b1⟩)
    | (refine at_newC 58 3 _ srtA (by rfl) (by rfl) ?_; intro gp w2 a2 z2 r2 b2)
    | (refine at_putC 58 3 _ srtA (by rfl) _ _ (by rfl) gp (by rfl) (FR.no 0).cs (by rfl) rfl (FR.one _) _ r2 (by rfl) ?_; intro w3 r3 s3))
  go_returns
  exact ⟨rfl, ((Stp.of_below (bnext b1 b2 (Nat.le_refl _)) (fun _ => False)).next s3 (fun x e => .inr (by have := b1.size; omega))).below (Nat.le_refl _) (fun x e => e.elim)⟩
theorem inode_nil (g : Int) (w : World) : Calls Tryz.prog 6 #[.pointer none, .int .i64 g] w fun e w' => e = .returned (.tuple #[.int .i64 0, .int .i64 0, .int .i64 1]) ∧ Below w.heap.size w w' := by
  go_enter Tryz.func6, Tryz.ntmps6
  go_wp2_with (first
    | (go_at_call 14; refine (take_nil _ _ _).mono ?_; rintro e w1 ⟨rfl, b1⟩)
    | (refine at_newC 58 3 _ srtA (by rfl) (by rfl) ?_; intro gp w2 a2 z2 r2 b2)
    | (refine at_putC 58 3 _ srtA (by rfl) _ _ (by rfl) gp (by rfl) (FR.no 0).cs (by rfl) rfl (FR.one _) _ r2 (by rfl) ?_; intro w3 r3 s3))
  go_returns
  exact ⟨rfl, ((Stp.of_below (bnext b1 b2 (Nat.le_refl _)) (fun _ => False)).next s3 (fun x e => .inr (by have := b1.size; omega))).below (Nat.le_refl _) (fun x e => e.elim)⟩
theorem avail_nil (w : World) : Calls Tryz.prog 7 #[.pointer none] w fun e w' => e = .returned (.tuple #[.int .i64 0, .int .i64 0]) ∧ Below w.heap.size w w' := by
  go_enter Tryz.func7, Tryz.ntmps7
  go_wp2_with (first
    | (go_at_call 16; refine (geom_nil _).mono ?_; rintro e w1 ⟨rfl, b1⟩)
    | (refine at_newG (by rfl) (by rfl) ?_; intro g2 w2 a2 z2 r2 b2)
    | (refine at_putG (by rfl) _ _ (by rfl) g2 (by rfl) Gm.zero (by rfl) _ r2 ?_; intro w3 r3 s3
       have c3 := r3.range 0 _ rfl
       simp only [Nat.zero_add] at c3))
  refine wp_loop_rounds 1 ?_
  rw [rounds_succ]
  go_wp2_with fail
  go_returns
  exact ⟨rfl, ((Stp.of_below (bnext b1 b2 (Nat.le_refl _)) (fun _ => False)).next s3 (fun x e => .inr (by have := b1.size; omega))).below (Nat.le_refl _) (fun x e => e.elim)⟩
theorem srtSlt : Srt 69 4 [.int .i64 0, .int .i64 0, .int .i64 0, .int .i64 0] :=
  ⟨⟨_, Tryz.underlying69, rfl⟩, by kernel_rfl, fun w => (zero_of_info (v := .agg #[.int .i64 0, .int .i64 0, .int .i64 0, .int .i64 0]) (n := 4) (by kernel_rfl)).1 w, rfl, by intro v hv; simp at hv; subst hv; rfl⟩
theorem group_nil (n : Int) (w : World) : Calls Tryz.prog 8 #[.pointer none, .int .i64 n] w fun e w' => e = .returned (.int .i64 0) ∧ Below w.heap.size w w' := by
  have hI := fun w' => inode_any Gm.zero n w'
  have hn : ¬ Gm.zero.hasI n := fun e => by have := e.1.1; revert this; decide
  have hg : Gm.zero.grp n = 0 := if_neg hn
  rw [hg] at hI
  generalize Gm.zero.sec n = x0 at *
  generalize Gm.zero.slt n = x1 at *
  generalize Gm.zero.idx n = x3 at *
  generalize Gm.zero.ierr n = x4 at *
  clear hn hg
  go_enter Tryz.func8, Tryz.ntmps8
  go_wp2_with (first
    | (go_at_call 16; refine (geom_nil _).mono ?_; rintro e w1 ⟨rfl, b1⟩)
    | (go_at_call 20; refine (hI _).mono ?_; rintro e w2 ⟨rfl, b2⟩; clear hI)
    | (refine at_newC 69 4 _ srtSlt (by rfl) (by rfl) ?_; intro g3 w3 a3 z3 r3 b3)
    | (refine at_putC 69 4 _ srtSlt (by rfl) _ _ (by rfl) g3 (by rfl) [.int .i64 x0, .int .i64 x1, .int .i64 0, .int .i64 x3] (by rfl) rfl (by intro v hv; simp at hv; rcases hv with rfl | rfl | rfl | rfl <;> rfl) _ r3 (by rfl) ?_; intro w4 r4 s4
       have c4 := r4.cell 2 _ rfl))
  go_returns
  exact ⟨rfl, ((Stp.of_below (bnext (bnext b1 b2 (Nat.le_refl _)) b3 (Nat.le_refl _)) (fun _ => False)).next s4 (fun x e => .inr (by have := b1.size; have := b2.size; omega))).below (Nat.le_refl _) (fun x e => e.elim)⟩
theorem load_nil (g : Int) (w : World) : Calls Tryz.prog 18 #[.pointer none, .int .i64 g] w fun e w' => e = .returned (.tuple #[.agg Ld.zero.cs.toArray, .int .i64 2]) ∧ Below w.heap.size w w' := by
  have hM := fun w' => maps_any Gm.zero g w'
  have hn : ¬ Gm.zero.has g := fun e => by have := e.1.1; revert this; decide
  have hg : Gm.zero.herr g = 2 := if_neg hn
  rw [hg] at hM
  generalize Gm.zero.inG g 1 = pl at *
  have hZ := Ld.zero.len
  clear hn hg
  go_enter Tryz.func18, Tryz.ntmps18
  go_wp2_with (first
    | (refine at_new 64 54 arrL (by rfl) (by rfl) ?_; intro gr w1 a1 z1 r1 b1)
    | (go_at_call 16; refine (geom_nil _).mono ?_; rintro e w2 ⟨rfl, b2⟩)
    | (go_at_call 41; refine (hM _).mono ?_; rintro e w3 ⟨rfl, b3⟩; clear hM
       have r3 := (r1.later b2).later b3)
    | (refine at_bldL (by rfl) (by rfl) ?_)
    | (refine at_put 64 54 arrL (by rfl) _ _ (by rfl) gr (by rfl) Ld.zero.l (by rfl) hZ _ r3 (by simp) ?_; intro w5 r5 s5))
  exact bodyPost_ret (retAt arrL Tryz.results18 rfl rfl r5 hZ) rfl ⟨rfl, ((Stp.of_below (bnext (bnext b1 b2 (Nat.le_refl _)) b3 (Nat.le_refl _)) (fun _ => False)).next s5 (fun x e => .inr (by omega))).below (Nat.le_refl _) (fun x e => e.elim)⟩
theorem free_nil (kd g i : Int) (hk : wfi kd) (w : World) : Calls Tryz.prog 9 #[.pointer none, .int .i64 kd, .int .i64 g, .int .i64 i] w fun e w' => e = .returned (.bool false) ∧ Below w.heap.size w w' := by
  have hB := fun w' => byte_any kd i w' hk
  have hZ := Ld.zero.len
  generalize mB kd i = mb at *
  generalize mE kd i = e0 at *
  by_cases h0 : e0 = 0
  · subst h0
    go_enter Tryz.func9, Tryz.ntmps9
    go_wp2_with (first
      | (go_at_call 21; refine (hB _).mono ?_; rintro e w1 ⟨rfl, b1⟩; clear hB)
      | (go_at_call 18; refine (load_nil _ _).mono ?_; rintro e w2 ⟨rfl, b2⟩)
      | (refine at_new 64 54 arrL (by rfl) (by rfl) ?_; intro gm w3 a3 z3 r3 b3)
      | (refine at_put 64 54 arrL (by rfl) _ _ (by rfl) gm (by rfl) Ld.zero.l (by rfl) hZ _ r3 (by simp) ?_; intro w4 r4 s4))
    have B4 : Below w.heap.size w w4 := ((Stp.of_below (bnext (bnext b1 b2 (Nat.le_refl _)) b3 (Nat.le_refl _)) (fun _ => False)).next s4 (fun x e => .inr (by have := b1.size; have := b2.size; omega))).below (Nat.le_refl _) (fun x e => e.elim)
    clear r3 r4 s4 b3
    go_quiet (fail)
    go_wp2_with fail
    go_returns
    exact ⟨rfl, ((Stp.of_below B4 (fun _ => False)).drewN _).below (Nat.le_refl _) (fun _ h => h.elim)⟩
  · have d0 : ¬ e0 = 0 := h0
    clear h0
    go_enter Tryz.func9, Tryz.ntmps9
    go_wp2_with (first
      | (go_at_call 21; refine (hB _).mono ?_; rintro e w1 ⟨rfl, b1⟩; clear hB))
    go_returns
    exact ⟨rfl, b1⟩
set_option maxHeartbeats 4000000 in
theorem walk (i : Int) (w : World) (hi : (Lit.int .i64 i).wf = true) (T : ∀ i, i < 3 → w.cell? ⟨0, i, none⟩ = some (.int .i64 ([1, 0, 2].getD i 0))) :
    Calls Tryz.prog 3 #[.int .i64 i] w fun e w' => e = .returned (.bool true) ∧ Below w.heap.size w w' := by
  have ht : Tab w := ⟨T 0 (by decide), T 1 (by decide), T 2 (by decide)⟩
  clear T
  go_enter Tryz.func3, Tryz.ntmps3
  go_wp2_with (first
    | (go_at_call 4; refine (works18_any _ ht).mono ?_; rintro e w1 ⟨rfl, b1⟩)
    | (go_at_call 5; refine (block_nil _ _).mono ?_; rintro e w2 ⟨rfl, b2⟩)
    | (go_at_call 6; refine (inode_nil _ _).mono ?_; rintro e w3 ⟨rfl, b3⟩)
    | (go_at_call 7; refine (avail_nil _).mono ?_; rintro e w4 ⟨rfl, b4⟩)
    | (go_at_call 8; refine (group_nil _ _).mono ?_; rintro e w5 ⟨rfl, b5⟩)
    | (go_at_call 9; refine (free_nil _ _ _ (wfi_of (by omega)) _).mono ?_; rintro e w6 ⟨rfl, b6⟩))
  go_returns
  exact ⟨rfl, bnext (bnext (bnext (bnext (bnext b1 b2 (Nat.le_refl _)) b3 (Nat.le_refl _)) b4 (Nat.le_refl _)) b5 (Nat.le_refl _)) b6 (Nat.le_refl _)⟩
end Go.Proofs.YtennaimdffohfaaGreatDoor.allocVoid
