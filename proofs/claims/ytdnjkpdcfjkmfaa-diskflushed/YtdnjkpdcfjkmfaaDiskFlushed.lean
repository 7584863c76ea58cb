/-
  The statement DiskFlushed, proved: for every acts and numbers the law returns true, and what came in reads as it did; no condition.
-/
import Derived.Test.YtdnjkpdcfjkmfaaDskL
namespace Go.Proofs.Ytdnjkpdcfjkmfaa.diskFlushed
open Go.ChangeShapes Go.WideShapes Go.ChangeAt Go.RowKit
set_option linter.unusedVariables false

set_option maxRecDepth 100000 in
set_option maxHeartbeats 4000000 in
theorem walk (a0 : Option Addr) (n0 c0 : Nat) (l0 : List AC) (a1 : Option Addr) (n1 c1 : Nat) (l1 : List AC) (a2 : Option Addr) (n2 c2 : Nat) (l2 : List Int) (w : World) (w0 : Acs w a0 n0 c0 l0) (w1 : Acs w a1 n1 c1 l1) (w2 : Ins w a2 n2 c2 l2) :
    Calls Try.prog 3 #[.slice a0 n0 c0, .slice a1 n1 c1, .slice a2 n2 c2] w fun e w' => e = .returned (.bool true) ∧ Below w.heap.size w w' := by
  have u36' := u36
  have hcap0 := w0.cap
  have hle0 := w0.le
  have hcap1 := w1.cap
  have hle1 := w1.le
  unfold maxLen at hcap0 hcap1
  go_enter Try.func3, Try.ntmps3
  go_wp2_with fail
  refine (works_any _).mono ?_
  rintro e v1 ⟨rfl, b1⟩
  go_wp2_with fail
  refine (new_any 8 none v1 (by omega) (by omega)).mono ?_
  rintro e v2 ⟨rfl, b2, z2, d2⟩
  obtain ⟨g, hg⟩ : ∃ g, g = v1.heap.size + 2 := ⟨_, rfl⟩
  rw [← hg] at d2 ⊢
  have start : I1 w v2 g 0 (DS.new 8) (fun x => v1.heap.size ≤ x ∧ x < v1.heap.size + 3) := by
    refine ⟨⟨d2, rfl, fun _ _ => id, fun _ h => h.elim⟩, rfl, fun j => by simp [DS.new], bnext b1 b2 (Nat.le_refl _), fun x hx => Nat.le_trans b1.size hx.1⟩
  clear b1 b2 z2 d2 hg
  go_upto_block 0 with fail
  go_cut [9] (fun i wx => ∃ (k : Nat) (S : DS) (F : Nat → Prop), i = .int .i64 k ∧ I1 w wx g k S F ∧ k ≤ 40)
  case first =>
    go_wp2_with fail
    go_loopw [9] (fun i wr => ∃ (k : Nat) (S : DS) (F : Nat → Prop), k ≤ n0 ∧ k ≤ 40 ∧ i = .int .i64 k ∧ I1 w wr g k S F) (fun i _ => 40 - (intOf i).toNat)
    case atStart => exact ⟨0, _, _, Nat.zero_le _, Nat.zero_le _, rfl, start⟩
    case round =>
      clear start
      obtain ⟨k, S, F, hk, hk40, rfl, hI⟩ := hrel
      by_cases hlt : k < n0 ∧ k < 40
      · obtain ⟨hlt1, hlt2⟩ := hlt
        have hL := w0.later hI.bel
        obtain ⟨b, o, rfl, hc⟩ := hL.cell (by omega)
        obtain ⟨x, _, hx1, hx2⟩ := hc k hlt1
        have hbl : b < w.heap.size := w0.lt (by omega)
        have e1 := AC.c2 hx1
        have e2 := AC.c3 hx1
        have s36 := size36 x.b
        have i1 : (0 : Int) ≤ (k : Int) := by omega
        have i2 : (k : Int) < (n0 : Int) := by omega
        have hm := among_lt x.t 8 (by omega)
        have hlen : (S.wt (among x.t 8 : Nat)).length < 100000 := by have := hI.len (among x.t 8 : Nat); omega
        have hS : ∀ u, Stp (fun y => w.heap.size ≤ y) wr u → (u.cell? ⟨b, o + k * 67 + 1, none⟩ = some (.int .i64 x.t) ∧ u.rangeAt b (o + k * 67 + 2) x.b.cs) := fun u s => ⟨s.cell e1 (by show ¬ w.heap.size ≤ b; omega), s.range e2 (by omega)⟩
        have hD := hI.d.step (Stp.refl (fun _ => False) wr).drew (fun _ _ => id) (fun _ _ => id)
        clear hc hL hx1 hx2
        go_wp2_with fail
        go_region_held3 (fun u => u.cell? ⟨b, o + k * 67 + 1, none⟩ = some (.int .i64 x.t) ∧ u.rangeAt b (o + k * 67 + 2) x.b.cs)
          (first | exact hS _ (Stp.refl _ _).drew | exact hS _ ((Stp.refl _ _).drew.next k9 (fun y hy => .inl (by rcases hy with hy | hy; exact hI.hF y hy; exact hy.elim))))
          (first
          | (go_at_call 8; refine (among_any x.t 8 _ (by omega) (by omega)).mono ?_; rintro e u ⟨rfl, rfl⟩)
          | (go_at_call 7; refine (write_any hD ok_none (among x.t 8 : Nat) x.b hlen).mono ?_; rintro e u9 ⟨rfl, F9, D9, k9, g9⟩))
        have hJ := hI.write hm D9 ((Stp.refl _ wr).drew.trans k9) g9
        clear hS hD hI D9 k9 g9 e1 e2
        go_wp2_with fail
        go_roundw
        case rel => exact ⟨k + 1, _, _, by omega, by omega, by go_num, hJ⟩
        case measure => simp [intOf]; omega

      · have hlt' : ¬ (k < n0) ∨ (k < n0 ∧ ¬ k < 40) := by omega
        clear hlt
        rcases hlt' with hlt | ⟨hlt, hlt8⟩
        all_goals
          go_wp2_with fail
          go_meet
          exact ⟨k, S, F, rfl, hI, hk40⟩
  case rest =>
    clear start
    obtain ⟨k, S, F, rfl, hI, hk40⟩ := hcut
    go_wp2_with fail
    have sA : Stp (fun _ => False) wc (wc.alloc (.cells #[.slice none 0 0, .slice none 0 0, .slice none 0 0, .slice none 0 0, .slice none 0 0, .slice none 0 0, .slice none 0 0, .slice none 0 0] 36)) := Stp.of_alloc _ _ _
    refine (flush_any (hI.d.step sA (fun _ _ => id) (fun _ _ => id)) ok_none).mono ?_
    rintro e x1 ⟨rfl, D1, k1⟩
    rw [show oErr none = 0 from rfl]
    have hJ : I2 w x1 g wc.heap.size 0 { S with st := S.shown, wt := fun _ => [] } (fun _ => .slice none 0 0) F (fun x => x = wc.heap.size) := by
      rw [flush0] at D1
      have hFl := hI.d.d.lt
      refine ⟨⟨D1, hI.n, fun j => by simp, ?_, hI.hF⟩, ?_, fun x hx e => by have := hFl x hx; omega, fun x hx => by subst hx; exact hI.bel.size⟩
      · exact (((Stp.of_below hI.bel (fun x => w.heap.size ≤ x)).trans (sA.mono (fun x hx => hx.elim))).next k1 (fun x hx => .inl (by rcases hx with hx | hx; exact hI.hF x hx; exact hx.elim))).below (Nat.le_refl _) (fun x hx => hx)
      · refine Sh.step ?_ k1 (fun x hx e => by rcases e with e | e; have := hFl x e; omega; exact e.elim)
        simpa using sh_nil wc
    obtain ⟨h, hh⟩ : ∃ h, wc.heap.size = h := ⟨_, rfl⟩
    rw [hh] at hJ ⊢
    generalize ({ S with st := S.shown, wt := fun _ => [] } : DS) = T at hJ
    clear D1 k1 sA hI hh
    have f36 := fold36
    have e36 := eq36
    have g36 := guard36
    go_upto_block 2 with fail
    go_cut [11] (fun i wx => ∃ (v : Nat → Value) (E : Nat → Prop), i = .int .i64 8 ∧ I2 w wx g h 8 T v F E)
    case first =>
      go_wp2_with fail
      go_loopw [11] (fun i wr => ∃ (k : Nat) (v : Nat → Value) (E : Nat → Prop), k ≤ 8 ∧ i = .int .i64 k ∧ I2 w wr g h k T v F E) (fun i _ => 8 - (intOf i).toNat)
      case atStart => exact ⟨0, _, _, Nat.zero_le _, rfl, hJ⟩
      case round =>
        clear hJ
        obtain ⟨k2, v, E, hk2, rfl, hJ⟩ := hrel
        by_cases hlt2 : k2 < 8
        · go_wp2_with fail
          refine (read_any hJ.i.d.d k2 (wf8 hlt2)).mono ?_
          rintro e y1 ⟨rfl, bY⟩
          rw [check0 hJ.i.n hlt2, shown_st (List.eq_nil_of_length_eq_zero (Nat.le_zero.1 (hJ.i.len k2)))]
          have i1 : (0 : Int) ≤ (k2 : Int) := by omega
          have i2 : (k2 : Int) < 8 := by omega
          have sY := Stp.of_below bY (fun _ => False)
          have hs1 := hJ.s.step sY (fun _ _ => id)
          have m1 := hs1.c k2 hlt2
          have m2 := hs1.z k2 hlt2
          have m3 := hs1.lt h hs1.eh
          go_wp2_with (first
            | (refine at_alloc (by rfl) (by rfl) ?_)
            | (refine at_store (by rfl) _ _ (by rfl) _ _ (by rfl) (T.st k2) (by rfl) (there_made y1) ?_; rw [setCells_made])
            | (refine at_load (by rfl) _ (by rfl) _ _ (by rfl) (T.st k2) (made_range y1 _ _) ?_)
            | (refine at_lit (by rfl) _ (by rfl) (T.st k2) (by rfl) ?_))
          obtain ⟨v', E', hK⟩ := hJ.next hlt2 bY
          exact ⟨⟨k2 + 1, v', E', by omega, by go_num, hK⟩, by simp [intOf]; omega⟩

        · obtain rfl : k2 = 8 := by omega
          go_wp2_with fail
          go_meet
          exact ⟨v, E, rfl, hJ⟩
    case rest =>
      clear hJ
      obtain ⟨v, E, rfl, hJ⟩ := hcut
      have hM := hJ.done
      clear hJ
      go_upto_block 4 with fail
      go_cut [14, 15] (fun i j wx => ∃ (k : Nat) (S : DS) (v : Nat → Value) (F E : Nat → Prop), i = .int .i64 k ∧ k ≤ 40 ∧ I3 w wx g h k S v F E)
      case first =>
        go_wp2_with fail
        go_loopw [14, 15] (fun i j wr => ∃ (k : Nat) (S : DS) (v : Nat → Value) (F E : Nat → Prop), k ≤ n1 ∧ k ≤ 40 ∧ i = .int .i64 k ∧ I3 w wr g h k S v F E) (fun i _ _ => 40 - (intOf i).toNat)
        case atStart => exact ⟨0, _, _, _, _, Nat.zero_le _, Nat.zero_le _, rfl, hM⟩
        case round =>
          clear hM
          obtain ⟨k3, S3, v3, F3, E3, hk3, hk340, rfl, hM⟩ := hrel
          by_cases hlt3 : k3 < n1 ∧ k3 < 40
          · obtain ⟨hlt31, hlt32⟩ := hlt3
            have hL := w1.later hM.i.bel
            obtain ⟨b, o, rfl, hc⟩ := hL.cell (by omega)
            obtain ⟨x, _, hx1, hx2⟩ := hc k3 hlt31
            have hbl : b < w.heap.size := w1.lt (by omega)
            have e1 := AC.c2 hx1
            have e2 := AC.c3 hx1
            have s36 := size36 x.b
            have i1 : (0 : Int) ≤ (k3 : Int) := by omega
            have i2 : (k3 : Int) < (n1 : Int) := by omega
            have hm := among_lt x.t 8 (by omega)
            have hlen : (S3.wt (among x.t 8 : Nat)).length < 100000 := by have := hM.i.len (among x.t 8 : Nat); omega
            clear hc hL hx1 hx2
            go_wp2_with fail
            refine (among_any x.t 8 _ (by omega) (by omega)).mono ?_
            rintro e u ⟨rfl, rfl⟩
            generalize among x.t 8 = m at *
            have j1 : (0 : Int) ≤ (m : Int) := by omega
            have j2 : (m : Int) < 8 := by omega
            go_wp2_with (first
              | (refine at_load (by rfl) _ (by rfl) _ _ (by rfl) x.b e2 ?_))
            refine (write_any hM.i.d ok_none m x.b hlen).mono ?_
            rintro e u9 ⟨rfl, F9, D9, k9, g9⟩
            have e3 : u9.rangeAt b (o + k3 * 67 + 2) x.b.cs := k9.range e2 (by rintro (e | e); have := hM.i.hF b e; omega; exact e)
            have hs9 := hM.s.step k9 (fun x hx e => by rcases e with e | e; exact hM.fe x e hx; exact e.elim)
            obtain ⟨a, c, ev, hown⟩ := hs9.row m hm
            have m1 := hs9.c m hm
            have m2 := hs9.z m hm
            have m3 := hs9.lt h hs9.eh
            rw [ev] at m1
            clear e1 e2 s36
            go_wp2_with fail

            have hself : ∀ y, (Value.slice a (S3.st m :: S3.wt m).length c).ownBlock = some y → y ≠ h ∧ y ≠ b := fun y e => ⟨(hs9.blk m y hm (by rw [ev]; exact e)).2, fun e' => by have := hM.he y (hs9.blk m y hm (by rw [ev]; exact e)).1; omega⟩
            have hL1 : (S3.st m :: S3.wt m).length ≤ 1000 := by have := hM.i.len m; simp; omega
            refine region21 (fun _ _ _ _ _ h => h) rfl rfl rfl rfl rfl hm hlt31 m1 m2 m3 e3 hown hself hL1 ?_
            intro gg cap w3 hg3 ho3 hat3 hlt3
            obtain ⟨v', E', hN⟩ := hM.next hm D9 k9 g9 ev hg3 ho3 hat3 hlt3
            generalize (w3.setCell ⟨h, m, none⟩ (.slice (some ⟨gg, 0, none⟩) ((S3.st m :: S3.wt m).length + 1) cap)) = w4 at *
            generalize (Value.slice (some ⟨gg, 0, none⟩) ((S3.st m :: S3.wt m).length + 1) cap) = sv
            generalize (Value.slice a (S3.st m :: S3.wt m).length c) = sv2
            clear hself hown hs9 m1 m2 m3 ev hg3 ho3 hat3 hlt3 D9 k9 g9 e3 hM
            unfold after21
            simp only [Act.put, List.setIfInBounds_toArray, List.set_cons_zero, List.set_cons_succ]
            go_wp2_with fail
            go_roundw
            case rel => exact ⟨k3 + 1, _, _, _, _, by omega, by omega, by go_num, hN⟩
            case measure => simp [intOf]; omega
          · have hlt' : ¬ (k3 < n1) ∨ (k3 < n1 ∧ ¬ k3 < 40) := by omega
            clear hlt3
            rcases hlt' with hlt | ⟨hlt, hlt8⟩
            all_goals
              go_wp2_with fail
              go_meet
              exact ⟨k3, S3, v3, F3, E3, rfl, hk340, hM⟩
      case rest =>
        clear hM
        obtain ⟨k, S, v, F, E, rfl, hk, hM⟩ := hcut
        go_wp2_with fail
        refine (crash_any hM.i.d.d (fun k => by have := hM.i.len k; omega) (w2.step (Stp.of_below hM.i.bel (fun _ => False)) (fun _ _ _ h => h)) (fun x h0 e hx => by have := hM.i.hF _ hx; have := w2.lt h0 e; omega)).mono ?_
        rintro e x1 ⟨rfl, D1, k1⟩
        have hC := hM.crash hk D1 k1
        clear hM D1 k1
        generalize S.crash l2 = S' at hC
        generalize (fun j : Nat => S.st j :: S.wt j) = L at hC
        go_wp2_with fail
        go_loopw [16] (fun i wr => ∃ (k : Nat), k ≤ 8 ∧ i = .int .i64 k ∧ I4 w wr g h S' L v F E) (fun i _ => 8 - (intOf i).toNat)
        case atStart => exact ⟨0, Nat.zero_le _, rfl, hC⟩
        case round =>
          clear hC
          obtain ⟨k4, hk4, rfl, hC⟩ := hrel
          by_cases hlt4 : k4 < 8
          · have i1 : (0 : Int) ≤ (k4 : Int) := by omega
            have i2 : (k4 : Int) < 8 := by omega
            go_wp2_with fail
            refine (read_any hC.d.d k4 (wf8 hlt4)).mono ?_
            rintro e y1 ⟨rfl, bY⟩
            rw [check0 hC.n hlt4, shown_st (hC.wt k4)]
            have hV : I4 w (y1.alloc (.cells (S'.st k4).cs.toArray 32)) g h S' L v F E := hC.later (bY.alloc bY.size _)
            have hR : (y1.alloc (.cells (S'.st k4).cs.toArray 32)).rangeAt y1.heap.size 0 (S'.st k4).cs := made_range y1 _ _
            have hmem := hC.mem k4
            have hlenL := hC.len k4
            go_upto_block 8 with (first
              | (refine at_alloc (by rfl) (by rfl) ?_)
              | (refine at_store (by rfl) _ _ (by rfl) _ _ (by rfl) (S'.st k4) (by rfl) (there_made y1) ?_; rw [setCells_made]))
            obtain ⟨t, ht⟩ : ∃ t, y1.heap.size = t := ⟨_, rfl⟩
            rw [ht] at hR ⊢
            generalize (y1.alloc (.cells (S'.st k4).cs.toArray 32)) = V at *
            clear ht bY hC
            generalize S'.st k4 = X at *
            go_cut [19, 20] (fun f i wx => f = .bool true ∧ i = .int .i64 ((L k4).length : Nat) ∧ Below V.heap.size V wx)
            case first =>
              go_wp2_with fail
              go_loopw [19, 20] (fun f i wr => ∃ i5 : Nat, i5 ≤ (L k4).length ∧ i = .int .i64 i5 ∧ f = .bool (fnd (L k4) X i5) ∧ Below V.heap.size V wr) (fun _ i _ => (L k4).length - (intOf i).toNat)
              case atStart => exact ⟨0, Nat.zero_le _, rfl, by rw [fnd_zero], Below.refl _ _⟩
              case round =>
                obtain ⟨i5, hi5, rfl, rfl, b5⟩ := hrel
                have hs5 := (hV.later b5).s
                have m1 := hs5.c k4 hlt4
                obtain ⟨a, c, ev, hown⟩ := hs5.row k4 hlt4
                rw [ev] at m1
                have hB := own_bls hown
                by_cases hlt5 : i5 < (L k4).length
                · obtain ⟨r, ro, rfl, hc⟩ := hB.cell (by omega)
                  have hY := hc i5 hlt5
                  have hf := fnd_succ (L k4) X i5 hlt5
                  have l1 : (0 : Int) ≤ (i5 : Int) := by omega
                  have l2 : (i5 : Int) < ((L k4).length : Int) := by omega
                  generalize (L k4).getD i5 Blk.zero = Y at *
                  have hX := (Stp.of_below b5 (fun _ => False)).range hR id
                  clear hc hB hown hs5
                  cases hfd : fnd (L k4) X i5
                  · go_wp2_with fail
                    refine region31 (fun _ _ _ _ _ h => h) rfl rfl rfl rfl rfl rfl hlt4 hlt5 m1 hY hX ?_
                    unfold after31
                    simp only [Act.put, List.setIfInBounds_toArray, List.set_cons_zero, List.set_cons_succ]
                    go_wp2_with fail
                    go_roundw
                    case rel => exact ⟨i5 + 1, by omega, by go_num, by rw [hf, hfd]; rfl, b5.drew⟩
                    case measure => simp [intOf]; omega
                  · go_wp2_with fail
                    go_quiet (fail)
                    go_wp2_with fail
                    go_roundw
                    case rel => exact ⟨i5 + 1, by omega, by go_num, by rw [hf, hfd]; rfl, bdrewN b5 _⟩
                    case measure => simp [intOf]; omega
                · obtain rfl : i5 = (L k4).length := by omega
                  have hfa := fnd_all (L k4) X hmem
                  rw [hfa]
                  go_wp2_with fail
                  go_meet
                  exact ⟨rfl, rfl, b5⟩
            case rest =>
              obtain ⟨rfl, rfl, b6⟩ := hcut
              have hW := hV.later b6
              clear hV hR b6
              have hwt : (S'.wt k4).length = 0 := by rw [hW.wt]; rfl
              go_wp2_with (first
                | (go_at_call 12; refine (waits_any hW.d.d k4 (wf8 hlt4)).mono ?_; rintro e u ⟨rfl, rfl⟩; rw [hwt]))
              go_roundw
              case rel => exact ⟨k4 + 1, by omega, by go_num, hW⟩
              case measure => simp [intOf]; omega
          · obtain rfl : k4 = 8 := by omega
            go_wp2_with fail
            go_returns
            exact ⟨rfl, hC.bel⟩

theorem own : ownKnob Try.prog.godebug = none := by kernel_rfl
theorem laidOut : laidOutB Try.prog = true := by kernel_rfl
set_option maxRecDepth 100000 in
theorem lifted (os : Os) (started : os.Started) (H : Type) (enc : TypeId × Value → H) :
    ReturnsInHanded {} Try.checked os 3 .any (Rows.diskFlushedSpec.pre6 enc Try.prog Try.f3 Rows.diskFlushedRow.domain false) (Rows.diskFlushedSpec.post enc Try.prog Try.f3 false true false false) := by
  refine returnsInHanded_of_change (C := Try.checked) own started (by kernel_rfl) Try.func3
    (ChangeSpec.witness6 (enc := enc) (C := Try.checked) false ⟨#[], #[.slice none 0 0, .slice none 0 0, .slice none 0 0], []⟩ 8 (by kernel_rfl) (by kernel_rfl) (by kernel_rfl) (by kernel_rfl)) ?_
  intro W base args ds gs before hval0 hW hcnd _
  have hval : ∀ (j : Nat) t v, Try.f3.params[j]? = some t → args[j]? = some v → Value.okWide Try.prog W .any base t v := hval0
  have hW' := hW
  obtain ⟨p, q, hA0, hV, rfl, hfz, hnd⟩ := hW
  have hA : DataW.TrodAll enc Try.prog W 0 (fun _ => true) true Try.f3.params.toList args.toList ds p := hA0
  rw [Try.params3] at hA hval
  obtain ⟨v0, vs0, d0, ds0, p0, q0, hargs, rfl, rfl, h0, r0⟩ := trodAll_cons hA
  obtain ⟨v1, vs1, d1, ds1, p1, q1, rfl, rfl, rfl, h1, r1⟩ := trodAll_cons r0
  obtain ⟨v2, vs2, d2, ds2, p2, q2, rfl, rfl, rfl, h2, r2⟩ := trodAll_cons r1
  obtain ⟨rfl, rfl, rfl⟩ := trodAll_nil r2
  obtain rfl : args = #[v0, v1, v2] := by cases args; simp_all
  obtain ⟨rfl, rfl⟩ := trodVars_none hV
  obtain ⟨a0, len0, cap0, rfl⟩ := okWide_slice Try.underlying22 (hval 0 22 v0 rfl rfl)
  have k0 := h0
  have lt0 : ∀ x ∈ p0, x.block < W.heap.size := by obtain ⟨m, hm⟩ := k0; exact DataW.trod_lt m _ _ _ hm
  obtain ⟨z0, w0⟩ : ∃ zs, Acs W a0 len0 cap0 zs := by
    obtain ⟨fuel, hf⟩ := h0
    obtain ⟨a, n, c, l, hcs, hi⟩ := acs_of_trod hf
    simp [Value.cells] at hcs
    obtain ⟨rfl, rfl, rfl⟩ := hcs
    exact ⟨_, hi⟩
  obtain ⟨a1, len1, cap1, rfl⟩ := okWide_slice Try.underlying22 (hval 1 22 v1 rfl rfl)
  have k1 := h1
  have lt1 : ∀ x ∈ p1, x.block < W.heap.size := by obtain ⟨m, hm⟩ := k1; exact DataW.trod_lt m _ _ _ hm
  obtain ⟨z1, w1⟩ : ∃ zs, Acs W a1 len1 cap1 zs := by
    obtain ⟨fuel, hf⟩ := h1
    obtain ⟨a, n, c, l, hcs, hi⟩ := acs_of_trod hf
    simp [Value.cells] at hcs
    obtain ⟨rfl, rfl, rfl⟩ := hcs
    exact ⟨_, hi⟩
  obtain ⟨a2, len2, cap2, rfl⟩ := okWide_slice Try.underlying23 (hval 2 23 v2 rfl rfl)
  have k2 := h2
  have lt2 : ∀ x ∈ p2, x.block < W.heap.size := by obtain ⟨m, hm⟩ := k2; exact DataW.trod_lt m _ _ _ hm
  obtain ⟨z2, w2⟩ : ∃ zs, Ins W a2 len2 cap2 zs := by
    obtain ⟨fuel, hf⟩ := h2
    obtain ⟨a, n, c, l, hcs, hi⟩ := ins_of_trod hf
    simp [Value.cells] at hcs
    obtain ⟨rfl, rfl, rfl⟩ := hcs
    exact ⟨_, hi⟩
  clear hA0 hval0
  refine (walk a0 len0 cap0 z0 a1 len1 cap1 z1 a2 len2 cap2 z2 W w0 w1 w2).mono fun e W' ⟨he, bel⟩ => ?_
  subst he
  exact ⟨_, rfl, _, _, _, [], _, [], hW', trodAll_mk1 (shut_bool Try.underlying4 _), (trodAll_cons_mk (Below.trod laidOut (by kernel_rfl) (of_decide_eq_true (by kernel_rfl)) k0 bel lt0) (trodAll_cons_mk (Below.trod laidOut (by kernel_rfl) (of_decide_eq_true (by kernel_rfl)) k1 bel lt1) (trodAll_cons_mk (Below.trod laidOut (by kernel_rfl) (of_decide_eq_true (by kernel_rfl)) k2 bel lt2) trodAll_mk0))), rfl, bel.frame _, fun h => by cases h⟩
theorem over : Rows.diskFlushedRow.holds Try.pinned (OpenSpec.ofChange Rows.diskFlushedSpec) :=
  OpenClaim.holds_of_wide 3 Try.f3 rfl rfl rfl rfl rfl rfl rfl ⟨rfl, rfl, rfl, rfl, rfl⟩ rfl rfl rfl rfl rfl (by kernel_rfl) Try.func3 (by kernel_rfl)
    (of_decide_eq_true (by kernel_rfl)) (by unfold Func.isWrapper; first | (rw [if_pos (by decide +kernel)]; kernel_rfl) | (rw [if_neg (by decide +kernel)]; exact ⟨rfl, rfl⟩))
    (fun os started H enc _ => lifted os started H enc)
end Go.Proofs.Ytdnjkpdcfjkmfaa.diskFlushed
namespace Go.Proofs.Ytdnjkpdcfjkmfaa
/-- The statement. -/
theorem diskFlushed_holds : Rows.DiskFlushedSaid := diskFlushed.over
#print axioms diskFlushed_holds
end Go.Proofs.Ytdnjkpdcfjkmfaa
