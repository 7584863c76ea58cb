/-
  What Put, Force, Pin and Unpin of the document's cache do: no statement is proved here.
-/
import Derived.Test.YtecedklfdmbnpaaRcF
namespace Go.Proofs.Ytecedklfdmbnpaa
open Go.ChangeShapes Go.WideShapes Go.ChangeAt Go.RowKit
set_option linter.unusedVariables false
set_option linter.unusedSimpArgs false

theorem stp_sc (w : World) (g o : Nat) (vs : List Value) : Stp (fun x => x = g) w (w.setCells g o vs) := Stp.of_setCells w g o vs (.inl rfl)
section
variable {ops : Array Oper} {o : Oper} {a : Act} {w : World} {K : Act → World → Prop} {Q : Exit → Act → World → Prop} {E : Prop}
theorem step_putB (hgd : o.guard = none) (x y : Operand) (ho : o.op = .store 42 x y) (g off : Nat) (hx : a.eval x = .pointer (some ⟨g, off, none⟩)) (c : Blk) (hy : a.eval y = .agg c.cs.toArray) (ht : w.there g off 64)
    (h : K (a.put o.dst undef) (w.setCells g off c.cs)) : if Region.wanted o (yielded ops a.tmps) = true then Oper.wp Try.prog o a w K Q else E := by
  have hw : Region.wanted o (yielded ops a.tmps) = true := by simp [Region.wanted, hgd]
  rw [if_pos hw]
  have hr : (execOp a.eval o).run Try.prog w = .ok .skip (w.setCells g off c.cs) := by
    simp only [execOp, ho, hx, hy, Instr.storeAt, Instr.sureAddr, Sem.run_bind, Sem.run_pure, Result.andThen_ok]
    rw [run_storeVar_mid w g off _ c.cs.toArray (by rw [List.size_toArray, c.cs_len]; exact ht) (size36' c) c.arr]
    simp
  unfold Oper.wp
  rw [hr]
  exact h
theorem step_putT (hgd : o.guard = none) (x y : Operand) (ho : o.op = .store 4 x y) (g off : Nat) (hx : a.eval x = .pointer (some ⟨g, off, none⟩)) (c : Bool) (hy : a.eval y = .bool c) (v : Value) (hc : w.cell? ⟨g, off, none⟩ = some v) (hf : w.frozen? ⟨g, off, none⟩ = false)
    (h : K (a.put o.dst undef) (w.setCells g off [.bool c])) : if Region.wanted o (yielded ops a.tmps) = true then Oper.wp Try.prog o a w K Q else E := by
  have hw : Region.wanted o (yielded ops a.tmps) = true := by simp [Region.wanted, hgd]
  rw [if_pos hw]
  have hr : (execOp a.eval o).run Try.prog w = .ok .skip (w.setCells g off [.bool c]) := by
    show _ = Result.ok Next.skip (w.setCell ⟨g, off, none⟩ (.bool c))
    simp [execOp, ho, hx, hy, Instr.storeAt, Instr.sureAddr]
    go_simp
  unfold Oper.wp
  rw [hr]
  exact h
end
section
variable {w w' : World} {yc y q : Nat} {Y : CZ} {s : PS} {E R : Nat → Prop} {g0 cap : Nat} {cur : Array Value} {i : Int} {p : Pg} {rs : El}
/-- The first of the list: its bytes, and whether it is changed, anew. -/
theorem Rx.head (H : Rx w yc y q Y s (.slice (some ⟨g0, 0, none⟩) Y.l.length cap) E R) (hw : RwL w g0 cap Y.l cur) (hl : Y.l = (i, p) :: rs) (b : Blk) (c : Bool) :
    Rx ((w.setCells g0 1 b.cs).setCells g0 65 [.bool c]) yc y q (Y.onHd (fun q => ⟨b, c, q.pn⟩)) s (.slice (some ⟨g0, 0, none⟩) Y.l.length cap) E R ∧ Stp (fun x => x = g0) w ((w.setCells g0 1 b.cs).setCells g0 65 [.bool c]) ∧
    (w.setCells g0 1 b.cs).there g0 65 1 := by
  have h0 : 0 < Y.l.length := by rw [hl]; simp
  have hg : Y.l.getD 0 e0 = (i, p) := by rw [hl]; rfl
  have x1 := H.set hw 0 h0 1 b.cs (i, ⟨b, p.ch, p.pn⟩) (by rw [b.cs_len]; omega) b.cs_one (by rw [hg]; exact onc_set_b (i, p) b)
  obtain ⟨cur1, hw1⟩ := hw.set 0 h0 1 b.cs (i, ⟨b, p.ch, p.pn⟩) (by rw [b.cs_len]; omega) b.cs_one (by rw [hg]; exact onc_set_b (i, p) b)
  rw [Nat.zero_mul, Nat.zero_add] at x1 hw1
  have hg1 : (Y.l.set 0 (i, ⟨b, p.ch, p.pn⟩)).getD 0 e0 = (i, ⟨b, p.ch, p.pn⟩) := by rw [hl]; rfl
  have x1' : Rx (w.setCells g0 1 b.cs) yc y q { Y with l := Y.l.set 0 (i, ⟨b, p.ch, p.pn⟩) } s (.slice (some ⟨g0, 0, none⟩) (Y.l.set 0 (i, ⟨b, p.ch, p.pn⟩)).length cap) E R := by rw [List.length_set]; exact x1
  have x2 := Rx.set (Z := { Y with l := Y.l.set 0 (i, ⟨b, p.ch, p.pn⟩) }) x1' hw1 0 (by rw [List.length_set]; exact h0) 65 [.bool c] (i, ⟨b, c, p.pn⟩) (by simp) (by intro v hv; simp at hv; subst hv; rfl) (by rw [hg1]; exact onc_set_ch (i, ⟨b, p.ch, p.pn⟩) c)
  rw [Nat.zero_mul, Nat.zero_add] at x2
  refine ⟨?_, (stp_sc w g0 1 b.cs).trans (stp_sc _ g0 65 _), fun j hj => ?_⟩
  · have e : ({ Y with l := (Y.l.set 0 (i, ⟨b, p.ch, p.pn⟩)).set 0 (i, ⟨b, c, p.pn⟩) } : CZ) = Y.onHd (fun q => ⟨b, c, q.pn⟩) := by
      unfold CZ.onHd; rw [hl]; rfl
    rw [List.length_set] at x2
    rw [← e]; exact x2
  · have hr := onc_ch (hw1.range 0 (by rw [List.length_set]; exact h0))
    have : j = 0 := by omega
    subst this
    rw [Nat.zero_mul, Nat.zero_add] at hr
    exact ⟨by rw [Nat.add_zero, hr]; rfl, hw1.frozen _⟩
end
set_option maxRecDepth 100000 in
set_option maxHeartbeats 2000000 in
theorem rput_any {w : World} {yc y q : Nat} {Z : CZ} {s : PS} {lv : Value} {E R : Nat → Prop} {t : Nat} (H : Rx w yc y q Z s lv E R) (ok : Z.ok t) (ht : t ≤ 10000) (i : Int) (hwi : (Lit.int .i64 i).wf = true) (b : Blk) :
    Calls Try.prog 32 #[.pointer (some ⟨yc, 0, none⟩), .int .i64 i, .agg b.cs.toArray] w fun r w' => r = .returned (.int .i64 (Z.holdE i)) ∧ RTo yc y q E R (Z.put i b) w w' := by
  have hH := fun u (hu : Below w.heap.size w u) => rhold_any (H.later hu) ok ht i hwi
  by_cases he : Z.holdE i = 0
  · obtain ⟨p, rs, hl⟩ := hold_head he
    have hHE : Hid (Z.put i b = (Z.hold i).onHd (fun q => ⟨b, true, q.pn⟩) ∧ Z.holdE i = 0) := ⟨by unfold CZ.put; rw [if_pos he], he⟩
    rw [he] at hH; clear he
    generalize Z.hold i = Y at *
    have hne : Y.l ≠ [] := by rw [hl]; simp
    have h0l : (0 : Int) < (Y.l.length : Int) := by rw [hl]; simp
    have hlH : Hid (Y.l = (i, p) :: rs) := hl
    clear hl
    go_enter Try.func32, Try.ntmps32
    go_wp2_with (first
      | (refine at_boxB (by rfl) _ (by rfl) b (by rfl) ?_; intro gb w1 a1 l1 r1 b1)
      | (go_at_call 53; refine (hH _ b1).mono ?_; rintro e w2 ⟨rfl, s2, lv2, E2, R2, H2, st2, gE2, gR2⟩
         obtain ⟨g0, cap, cur, elv, hw⟩ := H2.ow.row1 hne
         subst elv
         have z2 := H2.c.cell 2 _ rfl
         have r2 : Cs w2 gb b.cs := r1.step st2 (H.far gb a1)
         clear hH))
    have hEg := H2.eo g0 rfl
    have hgb : gb ≠ g0 := fun e => by
      rcases gE2 g0 hEg.1 with e2 | e2
      · exact H.far gb a1 (.inl (e ▸ e2))
      · omega
    have hS : ∀ u, Stp (fun x => x = g0) w2 u → (u.cell? ⟨yc, 2, none⟩ = some (.slice (some ⟨g0, 0, none⟩) Y.l.length cap) ∧ u.rangeAt gb 0 b.cs) := fun u hu => ⟨hu.cell z2 (fun e => hEg.2 e.symm), hu.range r2.range hgb⟩
    obtain ⟨HF, sF, tF⟩ := (H2.later (Below.refl _ w2).drew).head (cur := cur) ⟨hw.at', hw.le, hw.cm, hw.size, hw.take⟩ hlH.out b true
    have ht1 : w2.drew.there g0 1 64 := fun j hj => by
      have := (hw.range 0 (by rw [hlH.out]; simp))
      rw [hlH.out] at this
      refine ⟨?_, hw.frozen _⟩
      have h2 := onc_b this j _ (List.getElem?_eq_getElem (by rw [Blk.cs_len]; exact hj))
      rw [Nat.zero_mul, Nat.zero_add] at h2
      have h3 : w2.drew.cell? ⟨g0, 1 + j, none⟩ = _ := h2
      rw [h3]; rfl
    have hc65 := (tF 0 (by omega)).1
    have hf65 := (tF 0 (by omega)).2
    rw [Nat.add_zero] at hc65 hf65
    obtain ⟨cv, hcv⟩ := Option.isSome_iff_exists.1 hc65
    refine wp_region_held_drew (S := fun u => u.cell? ⟨yc, 2, none⟩ = some (.slice (some ⟨g0, 0, none⟩) Y.l.length cap) ∧ u.rangeAt gb 0 b.cs) (by kernel_rfl) (hS _ (Stp.refl _ w2).drew) (fun hHeld => ?_)
    refine wpAnyH_take (i := 0) (oi := { dst := some 13, op := Op.move (Operand.tmp 0), type := 37, pos := _, after := #[], guard := none }) (v := .pointer (some ⟨yc, 0, none⟩)) rfl (by kernel_rfl) (by kernel_rfl) (by kernel_rfl) (fun _ _ _ h => h) (Or.inl ⟨by rfl, ?_⟩) hHeld ?_
    · intro u hu
      go_simp
    try simp only [Act.put, List.setIfInBounds_toArray, List.set_cons_zero, List.set_cons_succ]
    refine wpAnyH_take (i := 1) (oi := { dst := some 14, op := Op.nilCheck (Operand.tmp 13), type := 0, pos := _, after := #[{ on := 0, ground := Ground.data }], guard := none }) (v := .pointer (some ⟨yc, 0, none⟩)) rfl (by kernel_rfl) (by kernel_rfl) (by kernel_rfl) (fun _ _ _ h => h) (Or.inl ⟨by rfl, ?_⟩) hHeld ?_
    · intro u hu
      go_simp
    try simp only [Act.put, List.setIfInBounds_toArray, List.set_cons_zero, List.set_cons_succ]
    refine wpAnyH_take (i := 2) (oi := { dst := some 15, op := Op.fieldAddr 49 (Operand.tmp 14) 2, type := 0, pos := _, after := #[{ on := 1, ground := Ground.data }], guard := none }) (v := .pointer (some ⟨yc, 2, none⟩)) rfl (by kernel_rfl) (by kernel_rfl) (by kernel_rfl) (fun _ _ _ h => h) (Or.inl ⟨by rfl, ?_⟩) hHeld ?_
    · intro u hu
      go_simp
    try simp only [Act.put, List.setIfInBounds_toArray, List.set_cons_zero, List.set_cons_succ]
    refine wpAnyH_take (i := 3) (oi := { dst := some 16, op := Op.load 47 (Operand.tmp 15), type := 47, pos := _, after := #[{ on := 2, ground := Ground.data }], guard := none }) (v := .slice (some ⟨g0, 0, none⟩) Y.l.length cap) rfl (by kernel_rfl) (by kernel_rfl) (by kernel_rfl) (fun _ _ _ h => h) (Or.inl ⟨by rfl, ?_⟩) hHeld ?_
    · intro u hu
      have x1 := hu.1; go_simp
    try simp only [Act.put, List.setIfInBounds_toArray, List.set_cons_zero, List.set_cons_succ]
    refine wpAnyH_take (i := 4) (oi := { dst := some 17, op := Op.move (Operand.tmp 0), type := 37, pos := _, after := #[], guard := none }) (v := .pointer (some ⟨yc, 0, none⟩)) rfl (by kernel_rfl) (by kernel_rfl) (by kernel_rfl) (fun _ _ _ h => h) (Or.inl ⟨by rfl, ?_⟩) hHeld ?_
    · intro u hu
      go_simp
    try simp only [Act.put, List.setIfInBounds_toArray, List.set_cons_zero, List.set_cons_succ]
    refine wpAnyH_take (i := 5) (oi := { dst := some 18, op := Op.nilCheck (Operand.tmp 17), type := 0, pos := _, after := #[{ on := 4, ground := Ground.data }], guard := none }) (v := .pointer (some ⟨yc, 0, none⟩)) rfl (by kernel_rfl) (by kernel_rfl) (by kernel_rfl) (fun _ _ _ h => h) (Or.inl ⟨by rfl, ?_⟩) hHeld ?_
    · intro u hu
      go_simp
    try simp only [Act.put, List.setIfInBounds_toArray, List.set_cons_zero, List.set_cons_succ]
    refine wpAnyH_take (i := 6) (oi := { dst := some 19, op := Op.fieldAddr 49 (Operand.tmp 18) 2, type := 0, pos := _, after := #[{ on := 5, ground := Ground.data }], guard := none }) (v := .pointer (some ⟨yc, 2, none⟩)) rfl (by kernel_rfl) (by kernel_rfl) (by kernel_rfl) (fun _ _ _ h => h) (Or.inl ⟨by rfl, ?_⟩) hHeld ?_
    · intro u hu
      go_simp
    try simp only [Act.put, List.setIfInBounds_toArray, List.set_cons_zero, List.set_cons_succ]
    refine wpAnyH_take (i := 7) (oi := { dst := some 20, op := Op.load 47 (Operand.tmp 19), type := 47, pos := _, after := #[{ on := 6, ground := Ground.data }], guard := none }) (v := .slice (some ⟨g0, 0, none⟩) Y.l.length cap) rfl (by kernel_rfl) (by kernel_rfl) (by kernel_rfl) (fun _ _ _ h => h) (Or.inl ⟨by rfl, ?_⟩) hHeld ?_
    · intro u hu
      have x1 := hu.1; go_simp
    try simp only [Act.put, List.setIfInBounds_toArray, List.set_cons_zero, List.set_cons_succ]
    refine wpAnyH_take (i := 8) (oi := { dst := some 21, op := Op.load 42 (Operand.tmp 5), type := 42, pos := _, after := #[], guard := none }) (v := .agg b.cs.toArray) rfl (by kernel_rfl) (by kernel_rfl) (by kernel_rfl) (fun _ _ _ h => h)
      (yields_B (by rfl) _ (by rfl) gb 0 (by rfl) b (fun u hu => hu.2)) hHeld ?_
    try simp only [Act.put, List.setIfInBounds_toArray, List.set_cons_zero, List.set_cons_succ]
    refine wpAnyH_take (i := 9) (oi := { dst := some 22, op := Op.indexAddr 47 (Operand.tmp 16) (Operand.const (Value.int IntKind.i64 0)), type := 0, pos := _, after := #[{ on := 3, ground := Ground.data }, { on := 0, ground := Ground.phase }, { on := 1, ground := Ground.phase }, { on := 2, ground := Ground.phase }, { on := 3, ground := Ground.phase }, { on := 4, ground := Ground.textOnly Departure.lateStores }, { on := 5, ground := Ground.textOnly Departure.lateStoresUnsure }, { on := 6, ground := Ground.textOnly Departure.lateStoresUnsure }, { on := 7, ground := Ground.phase }, { on := 8, ground := Ground.phase }], guard := none }) (v := .pointer (some ⟨g0, 0, none⟩)) rfl (by kernel_rfl) (by kernel_rfl) (by kernel_rfl) (fun _ _ _ h => h) (Or.inl ⟨by rfl, ?_⟩) hHeld ?_
    · intro u hu
      go_simp
    try simp only [Act.put, List.setIfInBounds_toArray, List.set_cons_zero, List.set_cons_succ]
    refine wpAnyH_take (i := 10) (oi := { dst := some 23, op := Op.fieldAddr 82 (Operand.tmp 22) 1, type := 0, pos := _, after := #[{ on := 9, ground := Ground.data }, { on := 0, ground := Ground.phase }, { on := 1, ground := Ground.phase }, { on := 2, ground := Ground.phase }, { on := 3, ground := Ground.phase }, { on := 4, ground := Ground.textOnly Departure.lateStores }, { on := 5, ground := Ground.textOnly Departure.lateStoresUnsure }, { on := 6, ground := Ground.textOnly Departure.lateStoresUnsure }, { on := 7, ground := Ground.phase }, { on := 8, ground := Ground.phase }], guard := none }) (v := .pointer (some ⟨g0, 1, none⟩)) rfl (by kernel_rfl) (by kernel_rfl) (by kernel_rfl) (fun _ _ _ h => h) (Or.inl ⟨by rfl, ?_⟩) hHeld ?_
    · intro u hu
      go_simp
    try simp only [Act.put, List.setIfInBounds_toArray, List.set_cons_zero, List.set_cons_succ]
    refine wpAnyH_ready (rs := [11]) (by kernel_rfl) (by simp) ?_
    refine (AllReadyH.cons (o := { dst := none, op := Op.store 42 (Operand.tmp 23) (Operand.tmp 21), type := 0, pos := _, after := #[{ on := 10, ground := Ground.data }, { on := 8, ground := Ground.data }, { on := 0, ground := Ground.phase }, { on := 1, ground := Ground.phase }, { on := 2, ground := Ground.phase }, { on := 3, ground := Ground.phase }, { on := 4, ground := Ground.textOnly Departure.lateStores }, { on := 5, ground := Ground.textOnly Departure.lateStoresUnsure }, { on := 6, ground := Ground.textOnly Departure.lateStoresUnsure }, { on := 7, ground := Ground.phase }, { on := 8, ground := Ground.phase }], guard := none }) rfl (fun K hK => ?_) AllReadyH.nil)
    refine step_putB rfl (.tmp 23) (.tmp 21) rfl g0 1 (by rfl) b (by rfl) ht1 ?_
    refine hK.out _ _ (hS _ ((Stp.refl _ w2).drew.trans (stp_sc _ g0 1 b.cs))) (fun hHeld => ?_)
    clear hK K
    try simp only [Act.put]
    refine wpAnyH_take (i := 12) (oi := { dst := some 24, op := Op.indexAddr 47 (Operand.tmp 20) (Operand.const (Value.int IntKind.i64 0)), type := 0, pos := _, after := #[{ on := 7, ground := Ground.data }, { on := 0, ground := Ground.phase }, { on := 1, ground := Ground.phase }, { on := 2, ground := Ground.phase }, { on := 3, ground := Ground.phase }, { on := 4, ground := Ground.phase }, { on := 5, ground := Ground.phase }, { on := 6, ground := Ground.phase }, { on := 7, ground := Ground.phase }, { on := 8, ground := Ground.phase }, { on := 9, ground := Ground.phase }, { on := 10, ground := Ground.phase }, { on := 11, ground := Ground.phase }], guard := none }) (v := .pointer (some ⟨g0, 0, none⟩)) rfl (by kernel_rfl) (by kernel_rfl) (by kernel_rfl) (fun _ _ _ h => h) (Or.inl ⟨by rfl, ?_⟩) hHeld ?_
    · intro u hu
      go_simp
    try simp only [Act.put, List.setIfInBounds_toArray, List.set_cons_zero, List.set_cons_succ]
    refine wpAnyH_take (i := 13) (oi := { dst := some 25, op := Op.fieldAddr 82 (Operand.tmp 24) 2, type := 0, pos := _, after := #[{ on := 12, ground := Ground.data }, { on := 0, ground := Ground.phase }, { on := 1, ground := Ground.phase }, { on := 2, ground := Ground.phase }, { on := 3, ground := Ground.phase }, { on := 4, ground := Ground.phase }, { on := 5, ground := Ground.phase }, { on := 6, ground := Ground.phase }, { on := 7, ground := Ground.phase }, { on := 8, ground := Ground.phase }, { on := 9, ground := Ground.phase }, { on := 10, ground := Ground.phase }, { on := 11, ground := Ground.phase }], guard := none }) (v := .pointer (some ⟨g0, 65, none⟩)) rfl (by kernel_rfl) (by kernel_rfl) (by kernel_rfl) (fun _ _ _ h => h) (Or.inl ⟨by rfl, ?_⟩) hHeld ?_
    · intro u hu
      go_simp
    try simp only [Act.put, List.setIfInBounds_toArray, List.set_cons_zero, List.set_cons_succ]
    refine wpAnyH_ready (rs := [14]) (by kernel_rfl) (by simp) ?_
    refine (AllReadyH.cons (o := { dst := none, op := Op.store 4 (Operand.tmp 25) (Operand.const (Value.bool true)), type := 0, pos := _, after := #[{ on := 13, ground := Ground.data }, { on := 11, ground := Ground.chain }, { on := 0, ground := Ground.phase }, { on := 1, ground := Ground.phase }, { on := 2, ground := Ground.phase }, { on := 3, ground := Ground.phase }, { on := 4, ground := Ground.phase }, { on := 5, ground := Ground.phase }, { on := 6, ground := Ground.phase }, { on := 7, ground := Ground.phase }, { on := 8, ground := Ground.phase }, { on := 9, ground := Ground.phase }, { on := 10, ground := Ground.phase }, { on := 11, ground := Ground.phase }], guard := none }) rfl (fun K hK => ?_) AllReadyH.nil)
    refine step_putT rfl (.tmp 25) (.const (.bool true)) rfl g0 65 (by rfl) true (by rfl) cv hcv hf65 ?_
    refine hK.out _ _ (hS _ (((Stp.refl _ w2).drew.trans (stp_sc _ g0 1 b.cs)).trans (stp_sc _ g0 65 _))) (fun hHeld => ?_)
    clear hK K
    try simp only [Act.put]
    refine wpAnyH_done (by kernel_rfl) ?_ _
    clear hHeld
    go_wp2_with fail
    go_returns
    have S2 : Stp (Rl q E R) w w2 := (Stp.of_below b1 _).trans st2
    have sF2 : Stp (fun x => x = g0) w2 ((w2.drew.setCells g0 1 b.cs).setCells g0 65 [.bool true]) := (Stp.refl _ w2).drew.trans sF
    refine ⟨by rw [hHE.out.2]; rfl, s2, _, E2, R2, by rw [hHE.out.1]; exact HF, S2.next sF2 (fun x e => ?_), Grew.trans (b := w2) (gE2.pre b1.size) (Grew.refl _ _ _) S2.size sF2.size, Grew.trans (b := w2) (gR2.pre b1.size) (Grew.refl _ _ _) S2.size sF2.size⟩
    subst e
    rcases gE2 _ hEg.1 with e | e
    · exact .inl (.inl e)
    · exact .inr (Nat.le_trans b1.size e.1)
  · have hHE : Hid (Z.put i b = Z.hold i) := by show _ = _; unfold CZ.put; rw [if_neg he]
    go_enter Try.func32, Try.ntmps32
    go_wp2_with (first
      | (refine at_boxB (by rfl) _ (by rfl) b (by rfl) ?_; intro gb w1 a1 l1 r1 b1)
      | (go_at_call 53; refine (hH _ b1).mono ?_; rintro e w2 ⟨rfl, hT⟩))
    go_returns
    exact ⟨rfl, by rw [hHE.out]; exact hT.pre b1⟩
set_option maxRecDepth 100000 in
set_option maxHeartbeats 2000000 in
theorem rcforce_any {w : World} {yc y q : Nat} {Z : CZ} {s : PS} {lv : Value} {E R : Nat → Prop} {t : Nat} (H : Rx w yc y q Z s lv E R) (ok : Z.ok t) (ht : t ≤ 9000) (i : Int) (hwi : (Lit.int .i64 i).wf = true) (b : Blk) :
    Calls Try.prog 33 #[.pointer (some ⟨yc, 0, none⟩), .int .i64 i, .agg b.cs.toArray] w fun r w' => r = .returned (.int .i64 (Z.forceE i)) ∧ RTo yc y q E R (Z.force i b) w w' := by
  have hH := fun u (hu : Below w.heap.size w u) => rhold_any (H.later hu) ok (by omega) i hwi
  by_cases he : Z.holdE i = 0
  · obtain ⟨p, rs, hl⟩ := hold_head he
    have okh := ok.hold i
    have e1 : Z.force i b = (Z.hold i).frc i b := by unfold CZ.force; rw [if_pos he]
    have e2 : Z.forceE i = useRes (Z.hold i).d (Z.hold i).p i := by unfold CZ.forceE; rw [if_pos he]
    rw [he] at hH; rw [e1, e2]; clear e1 e2 he
    generalize Z.hold i = Y at *
    have hne : Y.l ≠ [] := by rw [hl]; simp
    have h0l : (0 : Int) < (Y.l.length : Int) := by rw [hl]; simp
    have hlH : Hid (Y.l = (i, p) :: rs) := hl
    clear hl
    go_enter Try.func33, Try.ntmps33
    go_wp2_with (first
      | (refine at_boxB (by rfl) _ (by rfl) b (by rfl) ?_; intro gb w1 a1 l1 r1 b1)
      | (go_at_call 53; refine (hH _ b1).mono ?_; rintro e w2 ⟨rfl, s2, lv2, E2, R2, H2, st2, gE2, gR2⟩
         have r2 : Cs w2 gb b.cs := r1.step st2 (H.far gb a1)
         clear hH))
    have hgR : ¬ (R2 gb ∨ gb = q) := fun e => by
      rcases e with e | e
      · rcases gR2 gb e with e | e
        · exact H.far gb a1 (.inr (.inl e))
        · omega
      · exact H.far gb a1 (.inr (.inr e))
    have far : ∀ x, E2 x → ¬ (R2 x ∨ x = q) := fun x hx e => by
      rcases e with e | e
      · exact H2.er x hx e
      · exact H2.eq (e ▸ hx)
    have q0 := H2.c.cell 0 _ rfl
    have hS : ∀ u, Stp (fun x => R2 x ∨ x = q) w2 u → (u.cell? ⟨yc, 0, none⟩ = some (.pointer (some ⟨y, 0, none⟩)) ∧ u.rangeAt gb 0 b.cs) := fun u hu => ⟨hu.cell q0 (far _ H2.eg), hu.range r2.range hgR⟩
    have hW := fun u (hu : Below w2.heap.size w2 u) => rforce_x (H2.later hu) okh (by omega) i b
    refine wp_region_held_drew (S := fun u => u.cell? ⟨yc, 0, none⟩ = some (.pointer (some ⟨y, 0, none⟩)) ∧ u.rangeAt gb 0 b.cs) (by kernel_rfl) (hS _ (Stp.refl _ w2).drew) (fun hHeld => ?_)
    refine wpAnyH_take (i := 0) (oi := { dst := some 15, op := Op.move (Operand.tmp 0), type := 37, pos := _, after := #[], guard := none }) (v := .pointer (some ⟨yc, 0, none⟩)) rfl (by kernel_rfl) (by kernel_rfl) (by kernel_rfl) (fun _ _ _ h => h) (Or.inl ⟨by rfl, ?_⟩) hHeld ?_
    · intro u hu
      go_simp
    try simp only [Act.put, List.setIfInBounds_toArray, List.set_cons_zero, List.set_cons_succ]
    refine wpAnyH_take (i := 1) (oi := { dst := some 16, op := Op.nilCheck (Operand.tmp 15), type := 0, pos := _, after := #[{ on := 0, ground := Ground.data }], guard := none }) (v := .pointer (some ⟨yc, 0, none⟩)) rfl (by kernel_rfl) (by kernel_rfl) (by kernel_rfl) (fun _ _ _ h => h) (Or.inl ⟨by rfl, ?_⟩) hHeld ?_
    · intro u hu
      go_simp
    try simp only [Act.put, List.setIfInBounds_toArray, List.set_cons_zero, List.set_cons_succ]
    refine wpAnyH_take (i := 2) (oi := { dst := some 17, op := Op.fieldAddr 49 (Operand.tmp 16) 0, type := 0, pos := _, after := #[{ on := 1, ground := Ground.data }], guard := none }) (v := .pointer (some ⟨yc, 0, none⟩)) rfl (by kernel_rfl) (by kernel_rfl) (by kernel_rfl) (fun _ _ _ h => h) (Or.inl ⟨by rfl, ?_⟩) hHeld ?_
    · intro u hu
      go_simp
    try simp only [Act.put, List.setIfInBounds_toArray, List.set_cons_zero, List.set_cons_succ]
    refine wpAnyH_take (i := 3) (oi := { dst := some 18, op := Op.load 31 (Operand.tmp 17), type := 31, pos := _, after := #[{ on := 2, ground := Ground.data }], guard := none }) (v := .pointer (some ⟨y, 0, none⟩)) rfl (by kernel_rfl) (by kernel_rfl) (by kernel_rfl) (fun _ _ _ h => h) (Or.inl ⟨by rfl, ?_⟩) hHeld ?_
    · intro u hu
      have x1 := hu.1; go_simp
    try simp only [Act.put, List.setIfInBounds_toArray, List.set_cons_zero, List.set_cons_succ]
    refine wpAnyH_take (i := 4) (oi := { dst := some 19, op := Op.move (Operand.tmp 1), type := 3, pos := _, after := #[], guard := none }) (v := .int .i64 i) rfl (by kernel_rfl) (by kernel_rfl) (by kernel_rfl) (fun _ _ _ h => h) (Or.inl ⟨by rfl, ?_⟩) hHeld ?_
    · intro u hu
      go_simp
    try simp only [Act.put, List.setIfInBounds_toArray, List.set_cons_zero, List.set_cons_succ]
    refine wpAnyH_take (i := 5) (oi := { dst := some 20, op := Op.load 42 (Operand.tmp 5), type := 42, pos := _, after := #[], guard := none }) (v := .agg b.cs.toArray) rfl (by kernel_rfl) (by kernel_rfl) (by kernel_rfl) (fun _ _ _ h => h)
      (yields_B (by rfl) _ (by rfl) gb 0 (by rfl) b (fun u hu => hu.2)) hHeld ?_
    try simp only [Act.put, List.setIfInBounds_toArray, List.set_cons_zero, List.set_cons_succ]
    refine wpAnyH_ready (rs := [6]) (by kernel_rfl) (by simp) ?_
    refine (AllReadyH.cons (o := { dst := some 21, op := Op.call { callee := Callee.value (Operand.func 54), args := #[Operand.tmp 18, Operand.tmp 19, Operand.tmp 20], argTypes := #[31, 3, 42] }, type := 28, pos := _, after := #[{ on := 3, ground := Ground.data }, { on := 4, ground := Ground.data }, { on := 5, ground := Ground.data }], guard := none }) rfl (fun K hK => ?_) AllReadyH.nil)
    go_simp
    refine (hW _ (Below.refl _ _).drew).mono ?_
    rintro e w3 ⟨rfl, s3, H3, hk⟩
    try go_wp2_with fail
    have hk2 : Stp (fun x => R2 x ∨ x = q) w2 w3 := ((Stp.refl _ w2).drew).trans hk
    refine hK.out _ _ (hS _ hk2) (fun hHeld => ?_)
    clear hK K
    try simp only [Act.put, List.setIfInBounds_toArray, List.set_cons_zero, List.set_cons_succ]
    refine wpAnyH_take (i := 7) (oi := { dst := some 8, op := Op.assign (Operand.tmp 21), type := 28, pos := _, after := #[{ on := 6, ground := Ground.data }, { on := 6, ground := Ground.chain }, { on := 0, ground := Ground.phase }, { on := 1, ground := Ground.phase }, { on := 2, ground := Ground.phase }, { on := 3, ground := Ground.phase }, { on := 4, ground := Ground.phase }, { on := 5, ground := Ground.phase }, { on := 6, ground := Ground.phase }], guard := none }) (v := .int .i64 (useRes Y.d Y.p i)) rfl (by kernel_rfl) (by kernel_rfl) (by kernel_rfl) (fun _ _ _ h => h) (Or.inl ⟨by rfl, ?_⟩) hHeld ?_
    · intro u hu
      go_simp
    try simp only [Act.put, List.setIfInBounds_toArray, List.set_cons_zero, List.set_cons_succ]
    refine wpAnyH_done (by kernel_rfl) ?_ _
    clear hHeld hS hW q0
    have S2 : Stp (Rl q E R) w w2 := (Stp.of_below b1 _).trans st2
    have S3 : Stp (Rl q E R) w w3 := S2.next hk2 (fun x e => by
      rcases e with e | e
      · rcases gR2 x e with e | e
        · exact .inl (.inr (.inl e))
        · exact .inr (Nat.le_trans b1.size e.1)
      · exact .inl (.inr (.inr e)))
    have gE3 : Grew E E2 w w3 := Grew.trans (b := w2) (gE2.pre b1.size) (Grew.refl _ _ _) S2.size hk2.size
    have gR3 : Grew R R2 w w3 := Grew.trans (b := w2) (gR2.pre b1.size) (Grew.refl _ _ _) S2.size hk2.size
    have r3 : Cs w3 gb b.cs := r2.step hk2 hgR
    by_cases hu : useRes Y.d Y.p i = 0
    · have e5 : Y.frc i b = CZ.onHd { Y with d := Y.d.force Y.p i b, p := useP Y.d Y.p i } (fun q => ⟨b, false, q.pn⟩) := by
        unfold CZ.frc CZ.onHd; rw [if_pos hu]
      have hE5 : Hid (Y.frc i b = CZ.onHd { Y with d := Y.d.force Y.p i b, p := useP Y.d Y.p i } (fun q => ⟨b, false, q.pn⟩) ∧ useRes Y.d Y.p i = 0) := ⟨e5, hu⟩
      rw [hu]; clear e5 hu
      obtain ⟨g0, cap, cur, elv, hw⟩ := H3.ow.row1 hne
      subst elv
      have z2 := H3.c.cell 2 _ rfl
      have hEg := H3.eo g0 rfl
      have hgb : gb ≠ g0 := fun e => by
        rcases gE2 g0 hEg.1 with e2 | e2
        · exact H.far gb a1 (.inl (e ▸ e2))
        · omega
      have hS : ∀ u, Stp (fun x => x = g0) w3 u → (u.cell? ⟨yc, 2, none⟩ = some (.slice (some ⟨g0, 0, none⟩) Y.l.length cap) ∧ u.rangeAt gb 0 b.cs) := fun u hu => ⟨hu.cell z2 (fun e => hEg.2 e.symm), hu.range r3.range hgb⟩
      obtain ⟨HF, sF, tF⟩ := Rx.head (Y := { Y with d := Y.d.force Y.p i b, p := useP Y.d Y.p i }) (H3.later (Below.refl _ w3).drew) (cur := cur) ⟨hw.at', hw.le, hw.cm, hw.size, hw.take⟩ hlH.out b false
      have ht1 : w3.drew.there g0 1 64 := fun j hj => by
        have := (hw.range 0 (by show 0 < Y.l.length; rw [hlH.out]; simp))
        have this : w3.rangeAt g0 (0 * 67) (onc (Y.l.getD 0 e0)) := this
        rw [hlH.out] at this
        refine ⟨?_, hw.frozen _⟩
        have h2 := onc_b this j _ (List.getElem?_eq_getElem (by rw [Blk.cs_len]; exact hj))
        rw [Nat.zero_mul, Nat.zero_add] at h2
        have h3 : w3.drew.cell? ⟨g0, 1 + j, none⟩ = _ := h2
        rw [h3]; rfl
      have hc65 := (tF 0 (by omega)).1
      have hf65 := (tF 0 (by omega)).2
      rw [Nat.add_zero] at hc65 hf65
      obtain ⟨cv, hcv⟩ := Option.isSome_iff_exists.1 hc65
      go_wp2_with fail
      refine wp_region_held_drew (S := fun u => u.cell? ⟨yc, 2, none⟩ = some (.slice (some ⟨g0, 0, none⟩) Y.l.length cap) ∧ u.rangeAt gb 0 b.cs) (by kernel_rfl) (hS _ (Stp.refl _ w3).drew) (fun hHeld => ?_)
      refine wpAnyH_take (i := 0) (oi := { dst := some 24, op := Op.move (Operand.tmp 0), type := 37, pos := _, after := #[], guard := none }) (v := .pointer (some ⟨yc, 0, none⟩)) rfl (by kernel_rfl) (by kernel_rfl) (by kernel_rfl) (fun _ _ _ h => h) (Or.inl ⟨by rfl, ?_⟩) hHeld ?_
      · intro u hu
        go_simp
      try simp only [Act.put, List.setIfInBounds_toArray, List.set_cons_zero, List.set_cons_succ]
      refine wpAnyH_take (i := 1) (oi := { dst := some 25, op := Op.nilCheck (Operand.tmp 24), type := 0, pos := _, after := #[{ on := 0, ground := Ground.data }], guard := none }) (v := .pointer (some ⟨yc, 0, none⟩)) rfl (by kernel_rfl) (by kernel_rfl) (by kernel_rfl) (fun _ _ _ h => h) (Or.inl ⟨by rfl, ?_⟩) hHeld ?_
      · intro u hu
        go_simp
      try simp only [Act.put, List.setIfInBounds_toArray, List.set_cons_zero, List.set_cons_succ]
      refine wpAnyH_take (i := 2) (oi := { dst := some 26, op := Op.fieldAddr 49 (Operand.tmp 25) 2, type := 0, pos := _, after := #[{ on := 1, ground := Ground.data }], guard := none }) (v := .pointer (some ⟨yc, 2, none⟩)) rfl (by kernel_rfl) (by kernel_rfl) (by kernel_rfl) (fun _ _ _ h => h) (Or.inl ⟨by rfl, ?_⟩) hHeld ?_
      · intro u hu
        go_simp
      try simp only [Act.put, List.setIfInBounds_toArray, List.set_cons_zero, List.set_cons_succ]
      refine wpAnyH_take (i := 3) (oi := { dst := some 27, op := Op.load 47 (Operand.tmp 26), type := 47, pos := _, after := #[{ on := 2, ground := Ground.data }], guard := none }) (v := .slice (some ⟨g0, 0, none⟩) Y.l.length cap) rfl (by kernel_rfl) (by kernel_rfl) (by kernel_rfl) (fun _ _ _ h => h) (Or.inl ⟨by rfl, ?_⟩) hHeld ?_
      · intro u hu
        have x1 := hu.1; go_simp
      try simp only [Act.put, List.setIfInBounds_toArray, List.set_cons_zero, List.set_cons_succ]
      refine wpAnyH_take (i := 4) (oi := { dst := some 28, op := Op.move (Operand.tmp 0), type := 37, pos := _, after := #[], guard := none }) (v := .pointer (some ⟨yc, 0, none⟩)) rfl (by kernel_rfl) (by kernel_rfl) (by kernel_rfl) (fun _ _ _ h => h) (Or.inl ⟨by rfl, ?_⟩) hHeld ?_
      · intro u hu
        go_simp
      try simp only [Act.put, List.setIfInBounds_toArray, List.set_cons_zero, List.set_cons_succ]
      refine wpAnyH_take (i := 5) (oi := { dst := some 29, op := Op.nilCheck (Operand.tmp 28), type := 0, pos := _, after := #[{ on := 4, ground := Ground.data }], guard := none }) (v := .pointer (some ⟨yc, 0, none⟩)) rfl (by kernel_rfl) (by kernel_rfl) (by kernel_rfl) (fun _ _ _ h => h) (Or.inl ⟨by rfl, ?_⟩) hHeld ?_
      · intro u hu
        go_simp
      try simp only [Act.put, List.setIfInBounds_toArray, List.set_cons_zero, List.set_cons_succ]
      refine wpAnyH_take (i := 6) (oi := { dst := some 30, op := Op.fieldAddr 49 (Operand.tmp 29) 2, type := 0, pos := _, after := #[{ on := 5, ground := Ground.data }], guard := none }) (v := .pointer (some ⟨yc, 2, none⟩)) rfl (by kernel_rfl) (by kernel_rfl) (by kernel_rfl) (fun _ _ _ h => h) (Or.inl ⟨by rfl, ?_⟩) hHeld ?_
      · intro u hu
        go_simp
      try simp only [Act.put, List.setIfInBounds_toArray, List.set_cons_zero, List.set_cons_succ]
      refine wpAnyH_take (i := 7) (oi := { dst := some 31, op := Op.load 47 (Operand.tmp 30), type := 47, pos := _, after := #[{ on := 6, ground := Ground.data }], guard := none }) (v := .slice (some ⟨g0, 0, none⟩) Y.l.length cap) rfl (by kernel_rfl) (by kernel_rfl) (by kernel_rfl) (fun _ _ _ h => h) (Or.inl ⟨by rfl, ?_⟩) hHeld ?_
      · intro u hu
        have x1 := hu.1; go_simp
      try simp only [Act.put, List.setIfInBounds_toArray, List.set_cons_zero, List.set_cons_succ]
      refine wpAnyH_take (i := 8) (oi := { dst := some 32, op := Op.load 42 (Operand.tmp 5), type := 42, pos := _, after := #[], guard := none }) (v := .agg b.cs.toArray) rfl (by kernel_rfl) (by kernel_rfl) (by kernel_rfl) (fun _ _ _ h => h)
        (yields_B (by rfl) _ (by rfl) gb 0 (by rfl) b (fun u hu => hu.2)) hHeld ?_
      try simp only [Act.put, List.setIfInBounds_toArray, List.set_cons_zero, List.set_cons_succ]
      refine wpAnyH_take (i := 9) (oi := { dst := some 33, op := Op.indexAddr 47 (Operand.tmp 27) (Operand.const (Value.int IntKind.i64 0)), type := 0, pos := _, after := #[{ on := 3, ground := Ground.data }, { on := 0, ground := Ground.phase }, { on := 1, ground := Ground.phase }, { on := 2, ground := Ground.phase }, { on := 3, ground := Ground.phase }, { on := 4, ground := Ground.textOnly Departure.lateStores }, { on := 5, ground := Ground.textOnly Departure.lateStoresUnsure }, { on := 6, ground := Ground.textOnly Departure.lateStoresUnsure }, { on := 7, ground := Ground.phase }, { on := 8, ground := Ground.phase }], guard := none }) (v := .pointer (some ⟨g0, 0, none⟩)) rfl (by kernel_rfl) (by kernel_rfl) (by kernel_rfl) (fun _ _ _ h => h) (Or.inl ⟨by rfl, ?_⟩) hHeld ?_
      · intro u hu
        go_simp
      try simp only [Act.put, List.setIfInBounds_toArray, List.set_cons_zero, List.set_cons_succ]
      refine wpAnyH_take (i := 10) (oi := { dst := some 34, op := Op.fieldAddr 82 (Operand.tmp 33) 1, type := 0, pos := _, after := #[{ on := 9, ground := Ground.data }, { on := 0, ground := Ground.phase }, { on := 1, ground := Ground.phase }, { on := 2, ground := Ground.phase }, { on := 3, ground := Ground.phase }, { on := 4, ground := Ground.textOnly Departure.lateStores }, { on := 5, ground := Ground.textOnly Departure.lateStoresUnsure }, { on := 6, ground := Ground.textOnly Departure.lateStoresUnsure }, { on := 7, ground := Ground.phase }, { on := 8, ground := Ground.phase }], guard := none }) (v := .pointer (some ⟨g0, 1, none⟩)) rfl (by kernel_rfl) (by kernel_rfl) (by kernel_rfl) (fun _ _ _ h => h) (Or.inl ⟨by rfl, ?_⟩) hHeld ?_
      · intro u hu
        go_simp
      try simp only [Act.put, List.setIfInBounds_toArray, List.set_cons_zero, List.set_cons_succ]
      refine wpAnyH_ready (rs := [11]) (by kernel_rfl) (by simp) ?_
      refine (AllReadyH.cons (o := { dst := none, op := Op.store 42 (Operand.tmp 34) (Operand.tmp 32), type := 0, pos := _, after := #[{ on := 10, ground := Ground.data }, { on := 8, ground := Ground.data }, { on := 0, ground := Ground.phase }, { on := 1, ground := Ground.phase }, { on := 2, ground := Ground.phase }, { on := 3, ground := Ground.phase }, { on := 4, ground := Ground.textOnly Departure.lateStores }, { on := 5, ground := Ground.textOnly Departure.lateStoresUnsure }, { on := 6, ground := Ground.textOnly Departure.lateStoresUnsure }, { on := 7, ground := Ground.phase }, { on := 8, ground := Ground.phase }], guard := none }) rfl (fun K hK => ?_) AllReadyH.nil)
      refine step_putB rfl (.tmp 34) (.tmp 32) rfl g0 1 (by rfl) b (by rfl) ht1 ?_
      refine hK.out _ _ (hS _ ((Stp.refl _ w3).drew.trans (stp_sc _ g0 1 b.cs))) (fun hHeld => ?_)
      clear hK K
      try simp only [Act.put]
      refine wpAnyH_take (i := 12) (oi := { dst := some 35, op := Op.indexAddr 47 (Operand.tmp 31) (Operand.const (Value.int IntKind.i64 0)), type := 0, pos := _, after := #[{ on := 7, ground := Ground.data }, { on := 0, ground := Ground.phase }, { on := 1, ground := Ground.phase }, { on := 2, ground := Ground.phase }, { on := 3, ground := Ground.phase }, { on := 4, ground := Ground.phase }, { on := 5, ground := Ground.phase }, { on := 6, ground := Ground.phase }, { on := 7, ground := Ground.phase }, { on := 8, ground := Ground.phase }, { on := 9, ground := Ground.phase }, { on := 10, ground := Ground.phase }, { on := 11, ground := Ground.phase }], guard := none }) (v := .pointer (some ⟨g0, 0, none⟩)) rfl (by kernel_rfl) (by kernel_rfl) (by kernel_rfl) (fun _ _ _ h => h) (Or.inl ⟨by rfl, ?_⟩) hHeld ?_
      · intro u hu
        go_simp
      try simp only [Act.put, List.setIfInBounds_toArray, List.set_cons_zero, List.set_cons_succ]
      refine wpAnyH_take (i := 13) (oi := { dst := some 36, op := Op.fieldAddr 82 (Operand.tmp 35) 2, type := 0, pos := _, after := #[{ on := 12, ground := Ground.data }, { on := 0, ground := Ground.phase }, { on := 1, ground := Ground.phase }, { on := 2, ground := Ground.phase }, { on := 3, ground := Ground.phase }, { on := 4, ground := Ground.phase }, { on := 5, ground := Ground.phase }, { on := 6, ground := Ground.phase }, { on := 7, ground := Ground.phase }, { on := 8, ground := Ground.phase }, { on := 9, ground := Ground.phase }, { on := 10, ground := Ground.phase }, { on := 11, ground := Ground.phase }], guard := none }) (v := .pointer (some ⟨g0, 65, none⟩)) rfl (by kernel_rfl) (by kernel_rfl) (by kernel_rfl) (fun _ _ _ h => h) (Or.inl ⟨by rfl, ?_⟩) hHeld ?_
      · intro u hu
        go_simp
      try simp only [Act.put, List.setIfInBounds_toArray, List.set_cons_zero, List.set_cons_succ]
      refine wpAnyH_ready (rs := [14]) (by kernel_rfl) (by simp) ?_
      refine (AllReadyH.cons (o := { dst := none, op := Op.store 4 (Operand.tmp 36) (Operand.const (Value.bool false)), type := 0, pos := _, after := #[{ on := 13, ground := Ground.data }, { on := 11, ground := Ground.chain }, { on := 0, ground := Ground.phase }, { on := 1, ground := Ground.phase }, { on := 2, ground := Ground.phase }, { on := 3, ground := Ground.phase }, { on := 4, ground := Ground.phase }, { on := 5, ground := Ground.phase }, { on := 6, ground := Ground.phase }, { on := 7, ground := Ground.phase }, { on := 8, ground := Ground.phase }, { on := 9, ground := Ground.phase }, { on := 10, ground := Ground.phase }, { on := 11, ground := Ground.phase }], guard := none }) rfl (fun K hK => ?_) AllReadyH.nil)
      refine step_putT rfl (.tmp 36) (.const (.bool false)) rfl g0 65 (by rfl) false (by rfl) cv hcv hf65 ?_
      refine hK.out _ _ (hS _ (((Stp.refl _ w3).drew.trans (stp_sc _ g0 1 b.cs)).trans (stp_sc _ g0 65 _))) (fun hHeld => ?_)
      clear hK K
      try simp only [Act.put]
      refine wpAnyH_done (by kernel_rfl) ?_ _
      clear hHeld
      go_wp2_with fail
      go_returns
      have sF2 : Stp (fun x => x = g0) w3 ((w3.drew.setCells g0 1 b.cs).setCells g0 65 [.bool false]) := (Stp.refl _ w3).drew.trans sF
      refine ⟨by rw [hE5.out.2]; rfl, s3, _, E2, R2, by rw [hE5.out.1]; exact HF, S3.next sF2 (fun x e => ?_), Grew.trans (b := w3) gE3 (Grew.refl _ _ _) S3.size sF2.size, Grew.trans (b := w3) gR3 (Grew.refl _ _ _) S3.size sF2.size⟩
      subst e
      rcases gE3 _ hEg.1 with e | e
      · exact .inl (.inl e)
      · exact .inr e.1
    · have e5 : Y.frc i b = { Y with d := Y.d.force Y.p i b, p := useP Y.d Y.p i } := by
        unfold CZ.frc; rw [if_neg hu]
      have hE5 : Hid (Y.frc i b = { Y with d := Y.d.force Y.p i b, p := useP Y.d Y.p i }) := e5
      clear e5
      go_wp2
      go_returns
      exact ⟨rfl, s3, _, E2, R2, by rw [hE5.out]; exact H3, S3, gE3, gR3⟩
  · have e1 : Z.force i b = Z.hold i := by unfold CZ.force; rw [if_neg he]
    have e2 : Z.forceE i = Z.holdE i := by unfold CZ.forceE; rw [if_neg he]
    rw [e1, e2]; clear e1 e2
    go_enter Try.func33, Try.ntmps33
    go_wp2_with (first
      | (refine at_boxB (by rfl) _ (by rfl) b (by rfl) ?_; intro gb w1 a1 l1 r1 b1)
      | (go_at_call 53; refine (hH _ b1).mono ?_; rintro e w2 ⟨rfl, hT⟩))
    go_returns
    exact ⟨rfl, hT.pre b1⟩
end Go.Proofs.Ytecedklfdmbnpaa
