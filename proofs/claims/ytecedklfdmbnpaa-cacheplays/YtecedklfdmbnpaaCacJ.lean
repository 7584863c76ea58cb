/-
  What Sync of layer 13 does; what a cache that is none does: no statement is proved here.
-/
import Derived.Test.YtecedklfdmbnpaaCacI
namespace Go.Proofs.Ytecedklfdmbnpaa
open Go.ChangeShapes Go.WideShapes Go.ChangeAt Go.RowKit
set_option linter.unusedVariables false
set_option linter.unusedSimpArgs false

theorem chg_len {Z : CZ} {t : Nat} (ok : Z.ok t) : Z.chg.length ≤ 64 := by
  have h1 : Z.chg.Nodup := List.Pairwise.imp (fun h => by intro e; omega) (chgN_sorted Z.l Z.d.n)
  have h2 := keys_few h1 (l := Z.l) (fun x hx => isCh_key (mem_chgN.1 hx).2)
  have := ok.len; have := ok.n2; omega
theorem syncL_cons (i : Int) (r : List Int) (Z : CZ) : CZ.syncL (i :: r) Z = if Z.backE i = 0 then CZ.syncL r (Z.back i) else (Z.backE i, Z.back i) := rfl
/-- Part way. -/
structure SyI (w w1 : World) (gc g mp : Nat) (sp v : Value) (Z : CZ) (E F G : Nat → Prop) (t : Nat) (L : List Int) (k : Nat) (wr : World) (Y : CZ) (ov : Value) (f : Int → Option Value) (E' F' : Nat → Prop) : Prop where
  x : Cx wr gc g sp Y mp ov f E' F' G
  ok : Y.ok (t + k)
  eq : CZ.syncL L Z = CZ.syncL (L.drop k) Y
  s : Stp (Al E F G) w1 wr
  gE : Grew E E' w1 wr
  gF : Grew F F' w1 wr
  ow : OwV wr v L
set_option maxRecDepth 100000 in
set_option maxHeartbeats 2000000 in
theorem sync_any {w : World} {gc g mp : Nat} {sp ov : Value} {Z : CZ} {f : Int → Option Value} {E F G : Nat → Prop} {t : Nat} (H : Cx w gc g sp Z mp ov f E F G) (ok : Z.ok t) (ht : t ≤ 9000) :
    Calls Try.prog 27 #[.pointer (some ⟨gc, 0, none⟩)] w fun e w' => e = .returned (.int .i64 (CZ.syncL Z.chg Z).1) ∧ To gc g mp sp E F G (CZ.syncL Z.chg Z).2 w w' := by
  have hC := changed_any H ok
  have hlen := chg_len ok
  have hin : ∀ x ∈ Z.chg, 0 ≤ x ∧ x < 2048 := fun x hx => by
    have := (mem_chgN.1 hx).1
    have := H.dd.d.ok.n2
    omega
  generalize Z.chg = L at *
  go_enter Try.func27, Try.ntmps27
  go_wp2_with (first
    | (go_at_call 17; refine hC.mono ?_; rintro e w1 ⟨v1, rfl, o1, n1, b1⟩
       obtain ⟨a1, m1, c1, hv1⟩ : ∃ a m c, v1 = .slice a m c ∧ m = L.length := by
         rcases o1.row with ⟨e, e2⟩ | ⟨g0, cap, cur, e, _⟩
         · exact ⟨_, _, _, e, by rw [e2]; rfl⟩
         · exact ⟨_, _, _, e, rfl⟩
       obtain ⟨hv1, hm1⟩ := hv1
       subst hv1; subst hm1))
  have hvr : ∀ r, (Value.slice a1 L.length c1).ownBlock = some r → w.heap.size ≤ r ∧ r < w1.heap.size := fun r hr => ⟨n1 r hr, o1.lt hr⟩
  have start : SyI w w1 gc g mp sp (.slice a1 L.length c1) Z E F G t L 0 w1 Z ov f E F := ⟨H.later b1, ok, rfl, Stp.refl _ _, Grew.refl _ _ _, Grew.refl _ _ _, o1⟩
  go_loopw [11] (fun iv wr => ∃ k : Nat, k ≤ L.length ∧ iv = .int .i64 (k : Int) ∧ ∃ Y ov f E' F', SyI w w1 gc g mp sp (.slice a1 L.length c1) Z E F G t L k wr Y ov f E' F') (fun iv _ => L.length - (intOf iv).toNat)
  case atStart => exact ⟨0, Nat.zero_le _, rfl, _, _, _, _, _, start⟩
  case round =>
    clear start
    obtain ⟨k, hk, rfl, Y, ov2, f2, E2, F2, I⟩ := hrel
    by_cases hlt : k < L.length
    · have hlt' : (k : Int) < (L.length : Int) := by omega
      have hne : L ≠ [] := by intro e; rw [e] at hlt; simp at hlt
      obtain ⟨g0, cap, cur, e1, hw⟩ := I.ow.row1 hne
      injection e1 with e1 _ e2
      subst e1; subst e2
      have ck := hw.cell k hlt
      have hmem : L.getD k 0 ∈ L := by rw [List.getD_eq_getElem?_getD, List.getElem?_eq_getElem hlt]; exact List.getElem_mem _
      have hwx : (Lit.int .i64 (L.getD k 0)).wf = true := by
        have := hin _ hmem
        generalize L.getD k 0 = x at *
        simp [Lit.wf, IntKind.min, IntKind.max, IntKind.bits, IntKind.signed]; omega
      have hB := back_any I.x I.ok (by omega) (L.getD k 0) hwx
      have hd : L.drop k = L.getD k 0 :: L.drop (k + 1) := by
        rw [List.getD_eq_getElem?_getD, List.getElem?_eq_getElem hlt, List.drop_eq_getElem_cons hlt]; rfl
      have he := I.eq
      rw [hd] at he
      generalize L.getD k 0 = x at *
      have hnF : ∀ r, w.heap.size ≤ r → r < w1.heap.size → ¬ Al E2 F2 G r := fun r h1 h2 e => by
        rcases e with e | e | e
        · rcases I.gE r e with e | e
          · have := H.cm.lt r e; omega
          · omega
        · rcases I.gF r e with e | e
          · have := H.dd.d.lt r e; omega
          · omega
        · have := H.dd.gl r e; omega
      have grow : ∀ (w2 : World) (F3 : Nat → Prop), Stp (Al E2 F2 G) wr w2 → Grew F2 F3 wr w2 → Stp (Al E F G) w1 w2 ∧ Grew E E2 w1 w2 ∧ Grew F F3 w1 w2 := fun w2 F3 s g3 => by
        refine ⟨I.s.next s (fun x e => ?_), Grew.trans (b := wr) I.gE (Grew.refl _ _ _) I.s.size s.size, Grew.trans (b := wr) I.gF g3 I.s.size s.size⟩
        rcases e with e | e | e
        · rcases I.gE x e with e | e
          · exact .inl (.inl e)
          · exact .inr e.1
        · rcases I.gF x e with e | e
          · exact .inl (.inr (.inl e))
          · exact .inr e.1
        · exact .inl (.inr (.inr e))
      rw [syncL_cons] at he
      by_cases hbE : Y.backE x = 0
      · rw [if_pos hbE] at he
        rw [hbE] at hB
        have hE : Hid (CZ.syncL L Z = CZ.syncL (L.drop (k + 1)) (Y.back x)) := he
        clear he hd hbE
        go_wp2_with (go_at_call 26; refine hB.mono ?_; rintro e w2 ⟨rfl, F3, H3, s3, g3⟩)
        go_roundw
        case rel =>
          obtain ⟨q1, q2, q3⟩ := grow w2 F3 s3 g3
          exact ⟨k + 1, by omega, by go_num, _, _, _, _, _, H3, by have := I.ok.back x; rw [show t + (k + 1) = t + k + 1 by omega]; exact this, hE.out, q1, q2, q3, I.ow.step s3 (fun r hr => by have := hvr r hr; exact hnF r this.1 this.2)⟩
        case measure => simp [intOf]; omega
      · rw [if_neg hbE] at he
        have hE : Hid (CZ.syncL L Z = (Y.backE x, Y.back x)) := he
        clear he hd
        go_wp2_with (go_at_call 26; refine hB.mono ?_; rintro e w2 ⟨rfl, F3, H3, s3, g3⟩)
        go_returns
        obtain ⟨q1, q2, q3⟩ := grow w2 F3 s3 g3
        exact ⟨by rw [hE.out]; rfl, To.pre ⟨_, _, _, _, by rw [hE.out]; exact H3, q1, q2, q3⟩ b1⟩
    · obtain rfl : k = L.length := by omega
      have he := I.eq
      rw [List.drop_length] at he
      have hE : Hid (CZ.syncL L Z = (0, Y)) := he
      clear he
      go_wp2
      go_returns
      exact ⟨by rw [hE.out]; rfl, To.pre ⟨_, _, _, _, by rw [hE.out]; exact I.x, I.s, I.gE, I.gF⟩ b1⟩
set_option maxRecDepth 100000 in
/-- A cache that is none. -/
theorem get_nil (i : Int) (w : World) : Calls Try.prog 28 #[.pointer none, .int .i64 i] w fun e w' => e = .returned (.tuple #[.agg Blk.zero.cs.toArray, .int .i64 1]) ∧ Below w.heap.size w w' := by
  have hH := fun w => hold_nil i w
  go_enter Try.func28, Try.ntmps28
  go_wp2_with (first
    | (refine at_newB (by rfl) (by rfl) ?_; intro gb w1 a1 l1 r1 b1)
    | (go_at_call 49; refine (hH _).mono ?_; rintro e w2 ⟨rfl, rfl⟩)
    | (refine at_build (by rfl) (by rfl) ?_)
    | (refine at_putB (by rfl) _ _ (by rfl) gb (by rfl) Blk.zero (by rfl) _ r1 ?_; intro w3 r3 s3))
  refine bodyPost_ret (retBt Try.results28 rfl rfl r3) rfl ⟨rfl, ((Stp.of_below b1 (fun x => w.heap.size ≤ x)).next s3 (fun x e => .inl (by rw [e]; exact a1))).below (Nat.le_refl _) (fun _ h => h)⟩
set_option maxRecDepth 100000 in
theorem put_nil (i : Int) (b : Blk) (w : World) : Calls Try.prog 24 #[.pointer none, .int .i64 i, .agg b.cs.toArray] w fun e w' => e = .returned (.int .i64 1) ∧ Below w.heap.size w w' := by
  have hH := fun w => hold_nil i w
  go_enter Try.func24, Try.ntmps24
  go_wp2_with (first
    | (refine at_boxB (by rfl) _ (by rfl) b (by rfl) ?_; intro gb w1 a1 l1 r1 b1)
    | (go_at_call 49; refine (hH _).mono ?_; rintro e w2 ⟨rfl, rfl⟩))
  go_returns
  exact ⟨rfl, b1⟩
set_option maxRecDepth 100000 in
theorem cforce_nil (i : Int) (b : Blk) (w : World) : Calls Try.prog 25 #[.pointer none, .int .i64 i, .agg b.cs.toArray] w fun e w' => e = .returned (.int .i64 1) ∧ Below w.heap.size w w' := by
  have hH := fun w => hold_nil i w
  go_enter Try.func25, Try.ntmps25
  go_wp2_with (first
    | (refine at_boxB (by rfl) _ (by rfl) b (by rfl) ?_; intro gb w1 a1 l1 r1 b1)
    | (go_at_call 49; refine (hH _).mono ?_; rintro e w2 ⟨rfl, rfl⟩))
  go_returns
  exact ⟨rfl, b1⟩
theorem pin_nil (i : Int) (w : World) : Calls Try.prog 30 #[.pointer none, .int .i64 i] w fun e w' => e = .returned (.int .i64 1) ∧ w = w' := by
  have hH := fun w => find_nil i w
  go_enter Try.func30, Try.ntmps30
  go_wp2_with (go_at_call 51; refine (hH _).mono ?_; rintro e w2 ⟨rfl, rfl⟩)
  go_returns
  exact ⟨rfl, rfl⟩
theorem unpin_nil (i : Int) (w : World) : Calls Try.prog 31 #[.pointer none, .int .i64 i] w fun e w' => e = .returned (.int .i64 1) ∧ w = w' := by
  have hH := fun w => find_nil i w
  go_enter Try.func31, Try.ntmps31
  go_wp2_with (go_at_call 51; refine (hH _).mono ?_; rintro e w2 ⟨rfl, rfl⟩)
  go_returns
  exact ⟨rfl, rfl⟩
theorem back_nil (i : Int) (w : World) : Calls Try.prog 26 #[.pointer none, .int .i64 i] w fun e w' => e = .returned (.int .i64 1) ∧ w = w' := by
  have hH := fun w => find_nil i w
  go_enter Try.func26, Try.ntmps26
  go_wp2_with (go_at_call 51; refine (hH _).mono ?_; rintro e w2 ⟨rfl, rfl⟩)
  go_returns
  exact ⟨rfl, rfl⟩
theorem sync_nil (w : World) : Calls Try.prog 27 #[.pointer none] w fun e w' => e = .returned (.int .i64 1) ∧ w = w' := by
  go_enter Try.func27, Try.ntmps27
  go_wp2
  go_returns
  exact ⟨rfl, rfl⟩
theorem held_nil (w : World) : Calls Try.prog 15 #[.pointer none] w fun e w' => e = .returned (.slice none 0 0) ∧ w = w' := by
  go_enter Try.func15, Try.ntmps15
  go_wp2
  go_returns
  exact ⟨rfl, rfl⟩
theorem changed_nil (w : World) : Calls Try.prog 17 #[.pointer none] w fun e w' => e = .returned (.slice none 0 0) ∧ w = w' := by
  go_enter Try.func17, Try.ntmps17
  go_wp2
  go_returns
  exact ⟨rfl, rfl⟩
theorem counts_nil (w : World) : Calls Try.prog 13 #[.pointer none] w fun e w' => e = .returned (.tuple #[.int .i64 0, .int .i64 0]) ∧ w = w' := by
  go_enter Try.func13, Try.ntmps13
  go_wp2
  go_returns
  exact ⟨rfl, rfl⟩
theorem drop_nil (w : World) : Calls Try.prog 29 #[.pointer none] w fun e w' => e = .returned (.tuple #[]) ∧ w = w' := by
  go_enter Try.func29, Try.ntmps29
  go_wp2
  first | go_end0 | refine bodyPost_ret (results_none rfl _ _ _) rfl ?_
  exact ⟨rfl, rfl⟩
end Go.Proofs.Ytecedklfdmbnpaa
