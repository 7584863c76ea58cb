/-
  What Back and room of the document's cache do: no statement is proved here.
-/
import Derived.Test.YtecedklfdmbnpaaRcC
namespace Go.Proofs.Ytecedklfdmbnpaa
open Go.ChangeShapes Go.WideShapes Go.ChangeAt Go.RowKit
set_option linter.unusedVariables false
set_option linter.unusedSimpArgs false

theorem rok_of {p : PS} {k : Nat} (h : okAt p k) (hk : k ≤ 1000000) : (ref p).ok := by
  unfold okAt at h; unfold RS.ok ref; simp only; split <;> omega
section
variable {w w' : World} {yc y q : Nat} {Z Z' : CZ} {s : PS} {lv : Value} {E R R' : Nat → Prop} {t : Nat}
/-- The disk was written. -/
theorem Rx.disk {d : DS} {s' : PS} (H : Rx w yc y q Z s lv E R) (k : Stp (fun x => R x ∨ x = q) w w') (hd : RD w' y q d R') (hr : Rw w' q (ref s')) (hR : Grew R R' w w') (p : Option PS) (hp : p = some s') : Rx w' yc y q { Z with d := d, p := p } s' lv E R' := by
  have far : ∀ x, E x → ¬ (R x ∨ x = q) := fun x hx e => by
    rcases e with e | e
    · exact H.er x hx e
    · exact H.eq (e ▸ hx)
  refine ⟨hd, hr, hp, H.c.step k (far _ H.eg), H.ow.step k (fun r hr => far r (H.eo r hr).1), H.eg, H.eo, fun x hx e => ?_, H.eq, fun e => ?_, fun x hx => Nat.lt_of_lt_of_le (H.lt x hx) k.size, Nat.lt_of_lt_of_le H.qt k.size⟩
  · rcases hR x e with e | e
    · exact H.er x hx e
    · have := H.lt x hx; omega
  · rcases hR q e with e | e
    · exact H.nq e
    · have := H.qt; omega
theorem rwrite_x (H : Rx w yc y q Z s lv E R) (ok : Z.ok t) (ht : t ≤ 10000) (i : Int) (b : Blk) :
    Calls Try.prog 55 #[.pointer (some ⟨y, 0, none⟩), .int .i64 i, .agg b.cs.toArray] w fun e w' => e = .returned (.int .i64 (useRes Z.d Z.p i)) ∧ ∃ s' R', Rx w' yc y q { Z with d := Z.d.write Z.p i b, p := useP Z.d Z.p i } s' lv E R' ∧ Stp (fun x => R x ∨ x = q) w w' ∧ Grew R R' w w' := by
  have hs := ok.sp s H.hp
  refine (rwrite_any H.rd H.rw H.nq (rok_of hs (by omega)) i b (by have := ok.wt i; omega)).mono ?_
  rintro e w' ⟨rfl, R', h1, h2, h3, h4⟩
  rw [res_same hs, ← H.hp]
  rw [write_same hs, ← H.hp] at h1
  rw [use_same hs] at h2
  exact ⟨rfl, _, R', H.disk h3 h1 h2 h4 _ (by rw [H.hp, useP_some]), h3, h4⟩
theorem rforce_x (H : Rx w yc y q Z s lv E R) (ok : Z.ok t) (ht : t ≤ 10000) (i : Int) (b : Blk) :
    Calls Try.prog 54 #[.pointer (some ⟨y, 0, none⟩), .int .i64 i, .agg b.cs.toArray] w fun e w' => e = .returned (.int .i64 (useRes Z.d Z.p i)) ∧ ∃ s', Rx w' yc y q { Z with d := Z.d.force Z.p i b, p := useP Z.d Z.p i } s' lv E R ∧ Stp (fun x => R x ∨ x = q) w w' := by
  have hs := ok.sp s H.hp
  refine (rforce_any H.rd H.rw H.nq (rok_of hs (by omega)) i b).mono ?_
  rintro e w' ⟨rfl, h1, h2, h3⟩
  rw [res_same hs, ← H.hp]
  rw [force_same hs, ← H.hp] at h1
  rw [use_same hs] at h2
  exact ⟨rfl, _, H.disk h3 h1 h2 (Grew.refl _ _ _) _ (by rw [H.hp, useP_some]), h3⟩
end
/-- From w to w' the document's cache, its disk and its supply came to Z'. -/
def RTo (yc y q : Nat) (E R : Nat → Prop) (Z' : CZ) (w w' : World) : Prop := ∃ s' lv' E' R', Rx w' yc y q Z' s' lv' E' R' ∧ Stp (Rl q E R) w w' ∧ Grew E E' w w' ∧ Grew R R' w w'
section
variable {w w1 w' : World} {yc y q : Nat} {Z Z' : CZ} {s : PS} {lv : Value} {E R : Nat → Prop}
theorem Rx.here (H : Rx w' yc y q Z s lv E R) (k : Stp (Rl q E R) w w') : RTo yc y q E R Z w w' := ⟨s, lv, E, R, H, k, Grew.refl _ _ _, Grew.refl _ _ _⟩
theorem RTo.pre (h : RTo yc y q E R Z' w1 w') (b : Below w.heap.size w w1) : RTo yc y q E R Z' w w' := by
  obtain ⟨s', lv', E', R', h1, h2, h3, h4⟩ := h
  exact ⟨s', lv', E', R', h1, (Stp.of_below b _).trans h2, h3.pre b.size, h4.pre b.size⟩
end
theorem onc_set_ch (e : Int × Pg) (b : Bool) : onc (e.1, ⟨e.2.b, b, e.2.pn⟩) = (onc e).take 65 ++ [.bool b] ++ (onc e).drop (65 + 1) := by
  unfold onc Pg.cs
  have hl := e.2.b.cs_len
  rw [show (65 : Nat) = 64 + 1 from rfl, List.take_succ_cons, show 64 + 1 + 1 = 65 + 1 from rfl, List.drop_succ_cons, List.take_append_of_le_length (by omega), List.take_of_length_le (by omega), List.drop_append, List.drop_eq_nil_of_le (by omega), hl]
  simp
theorem onc_set_pn (e : Int × Pg) (x : Int) : onc (e.1, ⟨e.2.b, e.2.ch, x⟩) = (onc e).take 66 ++ [.int .i64 x] ++ (onc e).drop (66 + 1) := by
  unfold onc Pg.cs
  have hl := e.2.b.cs_len
  rw [show (66 : Nat) = 65 + 1 from rfl, List.take_succ_cons, show 65 + 1 + 1 = 66 + 1 from rfl, List.drop_succ_cons, List.take_append, List.take_of_length_le (by omega), List.drop_append, List.drop_eq_nil_of_le (by omega), hl]
  simp
theorem onc_set_b (e : Int × Pg) (b : Blk) : onc (e.1, ⟨b, e.2.ch, e.2.pn⟩) = (onc e).take 1 ++ b.cs ++ (onc e).drop (1 + b.cs.length) := by
  unfold onc Pg.cs
  have hl := e.2.b.cs_len
  rw [b.cs_len, show (1 : Nat) + 64 = 64 + 1 from rfl, List.drop_succ_cons, show (1 : Nat) = 0 + 1 from rfl, List.take_succ_cons, List.drop_append_of_le_length (by omega), List.drop_eq_nil_of_le (by omega)]
  simp
theorem getD_mem {l : El} {k : Nat} (hk : k < l.length) : l.getD k e0 ∈ l := by
  rw [List.getD_eq_getElem?_getD, List.getElem?_eq_getElem hk]; exact List.getElem_mem _
set_option maxRecDepth 100000 in
set_option maxHeartbeats 2000000 in
theorem rback_any {w : World} {yc y q : Nat} {Z : CZ} {s : PS} {lv : Value} {E R : Nat → Prop} {t : Nat} (H : Rx w yc y q Z s lv E R) (ok : Z.ok t) (ht : t ≤ 10000) (i : Int) :
    Calls Try.prog 36 #[.pointer (some ⟨yc, 0, none⟩), .int .i64 i] w fun e w' => e = .returned (.int .i64 (Z.backE i)) ∧ RTo yc y q E R (Z.back i) w w' := by
  have hl : Z.l.length ≤ 64 := by have := ok.len; have := ok.n2; omega
  have hfi := rfind_any H i hl
  obtain ⟨y0, y1, y2, y3, y4⟩ := H.cells
  cases hq : fnd Z.l i with
  | none =>
    have e1 : Z.backE i = 5 := by unfold CZ.backE bkE; rw [hq]
    have e2 : Z.back i = Z := by unfold CZ.back; rw [hq]
    have e3 : pos Z.l i = -1 := by unfold pos; rw [hq]
    rw [e1, e2]; rw [e3] at hfi; clear e1 e2 e3
    go_enter Try.func36, Try.ntmps36
    go_wp2_with (go_at_call 45; refine hfi.mono ?_; rintro e w1 ⟨rfl, rfl⟩)
    go_returns
    exact ⟨rfl, H.here (Stp.refl _ _)⟩
  | some p =>
    obtain ⟨k1, k2, k3⟩ := idx_some hq
    have hset := fun q' => set_idx ok.nd hq q'
    have e3 : pos Z.l i = (idx Z.l i : Int) := by unfold pos; rw [hq]
    rw [e3] at hfi; clear e3
    generalize idx Z.l i = k at *
    have hne : Z.l ≠ [] := by intro e; rw [e] at k1; simp at k1
    obtain ⟨g0, cap, cur, elv, hw⟩ := H.ow.row1 hne
    subst elv
    have rk := hw.range k k1
    rw [k2] at rk
    have cc := onc_ch rk
    have rb := onc_b rk
    have a1 : (0 : Int) ≤ (k : Int) := by omega
    have a2 : (k : Int) < (Z.l.length : Int) := by omega
    cases hch : p.ch with
    | false =>
      have e1 : Z.backE i = 0 := by unfold CZ.backE bkE; rw [hq]; simp [hch]
      have e2 : Z.back i = Z := by unfold CZ.back; rw [hq]; simp [hch]
      rw [e1, e2]; rw [hch] at cc; clear e1 e2
      go_enter Try.func36, Try.ntmps36
      go_wp2_with (go_at_call 45; refine hfi.mono ?_; rintro e w1 ⟨rfl, rfl⟩)
      go_returns
      exact ⟨rfl, H.here (Stp.refl _ _)⟩
    | true =>
      have e1 : Z.backE i = useRes Z.d Z.p i := by unfold CZ.backE bkE; rw [hq]; simp [hch]
      have e2 : Z.back i = Z.wrt i p := by unfold CZ.back; rw [hq]; simp [hch]
      rw [e1, e2]; rw [hch] at cc; clear e1 e2
      have hW := fun u (hu : Below w.heap.size w u) => rwrite_x (H.later hu) ok ht i p.b
      have hEg := H.eo g0 rfl
      have far : ∀ x, E x → ¬ (R x ∨ x = q) := fun x hx e => by
        rcases e with e | e
        · exact H.er x hx e
        · exact H.eq (e ▸ hx)
      have hS : ∀ u, Stp (fun x => R x ∨ x = q) w u → (u.cell? ⟨yc, 0, none⟩ = some (.pointer (some ⟨y, 0, none⟩)) ∧ u.cell? ⟨yc, 2, none⟩ = some (.slice (some ⟨g0, 0, none⟩) Z.l.length cap) ∧ u.rangeAt g0 (k * 67 + 1) p.b.cs) := fun u hu =>
        ⟨hu.cell y0 (far _ H.eg), hu.cell y2 (far _ H.eg), hu.range rb (far _ hEg.1)⟩
      go_enter Try.func36, Try.ntmps36
      go_wp2_with (go_at_call 45; refine hfi.mono ?_; rintro e w1 ⟨rfl, rfl⟩)
      refine wp_region_held_drew (S := fun u => u.cell? ⟨yc, 0, none⟩ = some (.pointer (some ⟨y, 0, none⟩)) ∧ u.cell? ⟨yc, 2, none⟩ = some (.slice (some ⟨g0, 0, none⟩) Z.l.length cap) ∧ u.rangeAt g0 (k * 67 + 1) p.b.cs) (by kernel_rfl) (hS _ (Stp.refl _ w).drew) (fun hHeld => ?_)
      refine wpAnyH_take (i := 0) (oi := { dst := some 21, op := Op.move (Operand.tmp 0), type := 37, pos := _, after := #[], guard := none }) (v := .pointer (some ⟨yc, 0, none⟩)) rfl (by kernel_rfl) (by kernel_rfl) (by kernel_rfl) (fun _ _ _ h => h) (Or.inl ⟨by rfl, ?_⟩) hHeld ?_
      · intro u hu
        go_simp
      try simp only [Act.put, List.setIfInBounds_toArray, List.set_cons_zero, List.set_cons_succ]
      refine wpAnyH_take (i := 1) (oi := { dst := some 22, op := Op.nilCheck (Operand.tmp 21), type := 0, pos := _, after := #[{ on := 0, ground := Ground.data }], guard := none }) (v := .pointer (some ⟨yc, 0, none⟩)) rfl (by kernel_rfl) (by kernel_rfl) (by kernel_rfl) (fun _ _ _ h => h) (Or.inl ⟨by rfl, ?_⟩) hHeld ?_
      · intro u hu
        go_simp
      try simp only [Act.put, List.setIfInBounds_toArray, List.set_cons_zero, List.set_cons_succ]
      refine wpAnyH_take (i := 2) (oi := { dst := some 23, op := Op.fieldAddr 49 (Operand.tmp 22) 0, type := 0, pos := _, after := #[{ on := 1, ground := Ground.data }], guard := none }) (v := .pointer (some ⟨yc, 0, none⟩)) rfl (by kernel_rfl) (by kernel_rfl) (by kernel_rfl) (fun _ _ _ h => h) (Or.inl ⟨by rfl, ?_⟩) hHeld ?_
      · intro u hu
        go_simp
      try simp only [Act.put, List.setIfInBounds_toArray, List.set_cons_zero, List.set_cons_succ]
      refine wpAnyH_take (i := 3) (oi := { dst := some 24, op := Op.load 31 (Operand.tmp 23), type := 31, pos := _, after := #[{ on := 2, ground := Ground.data }], guard := none }) (v := .pointer (some ⟨y, 0, none⟩)) rfl (by kernel_rfl) (by kernel_rfl) (by kernel_rfl) (fun _ _ _ h => h) (Or.inl ⟨by rfl, ?_⟩) hHeld ?_
      · intro u hu
        have x1 := hu.1; go_simp
      try simp only [Act.put, List.setIfInBounds_toArray, List.set_cons_zero, List.set_cons_succ]
      refine wpAnyH_take (i := 4) (oi := { dst := some 25, op := Op.move (Operand.tmp 1), type := 3, pos := _, after := #[], guard := none }) (v := .int .i64 i) rfl (by kernel_rfl) (by kernel_rfl) (by kernel_rfl) (fun _ _ _ h => h) (Or.inl ⟨by rfl, ?_⟩) hHeld ?_
      · intro u hu
        go_simp
      try simp only [Act.put, List.setIfInBounds_toArray, List.set_cons_zero, List.set_cons_succ]
      refine wpAnyH_take (i := 5) (oi := { dst := some 26, op := Op.move (Operand.tmp 0), type := 37, pos := _, after := #[], guard := none }) (v := .pointer (some ⟨yc, 0, none⟩)) rfl (by kernel_rfl) (by kernel_rfl) (by kernel_rfl) (fun _ _ _ h => h) (Or.inl ⟨by rfl, ?_⟩) hHeld ?_
      · intro u hu
        go_simp
      try simp only [Act.put, List.setIfInBounds_toArray, List.set_cons_zero, List.set_cons_succ]
      refine wpAnyH_take (i := 6) (oi := { dst := some 27, op := Op.nilCheck (Operand.tmp 26), type := 0, pos := _, after := #[{ on := 5, ground := Ground.data }], guard := none }) (v := .pointer (some ⟨yc, 0, none⟩)) rfl (by kernel_rfl) (by kernel_rfl) (by kernel_rfl) (fun _ _ _ h => h) (Or.inl ⟨by rfl, ?_⟩) hHeld ?_
      · intro u hu
        go_simp
      try simp only [Act.put, List.setIfInBounds_toArray, List.set_cons_zero, List.set_cons_succ]
      refine wpAnyH_take (i := 7) (oi := { dst := some 28, op := Op.fieldAddr 49 (Operand.tmp 27) 2, type := 0, pos := _, after := #[{ on := 6, ground := Ground.data }], guard := none }) (v := .pointer (some ⟨yc, 2, none⟩)) rfl (by kernel_rfl) (by kernel_rfl) (by kernel_rfl) (fun _ _ _ h => h) (Or.inl ⟨by rfl, ?_⟩) hHeld ?_
      · intro u hu
        go_simp
      try simp only [Act.put, List.setIfInBounds_toArray, List.set_cons_zero, List.set_cons_succ]
      refine wpAnyH_take (i := 8) (oi := { dst := some 29, op := Op.load 47 (Operand.tmp 28), type := 47, pos := _, after := #[{ on := 7, ground := Ground.data }], guard := none }) (v := .slice (some ⟨g0, 0, none⟩) Z.l.length cap) rfl (by kernel_rfl) (by kernel_rfl) (by kernel_rfl) (fun _ _ _ h => h) (Or.inl ⟨by rfl, ?_⟩) hHeld ?_
      · intro u hu
        have x1 := hu.2.1; go_simp
      try simp only [Act.put, List.setIfInBounds_toArray, List.set_cons_zero, List.set_cons_succ]
      refine wpAnyH_take (i := 9) (oi := { dst := some 30, op := Op.move (Operand.tmp 5), type := 3, pos := _, after := #[], guard := none }) (v := .int .i64 (k : Int)) rfl (by kernel_rfl) (by kernel_rfl) (by kernel_rfl) (fun _ _ _ h => h) (Or.inl ⟨by rfl, ?_⟩) hHeld ?_
      · intro u hu
        go_simp
      try simp only [Act.put, List.setIfInBounds_toArray, List.set_cons_zero, List.set_cons_succ]
      refine wpAnyH_take (i := 10) (oi := { dst := some 31, op := Op.indexAddr 47 (Operand.tmp 29) (Operand.tmp 30), type := 0, pos := _, after := #[{ on := 8, ground := Ground.data }, { on := 9, ground := Ground.data }], guard := none }) (v := .pointer (some ⟨g0, k * 67, none⟩)) rfl (by kernel_rfl) (by kernel_rfl) (by kernel_rfl) (fun _ _ _ h => h) (Or.inl ⟨by rfl, ?_⟩) hHeld ?_
      · intro u hu
        go_simp
      try simp only [Act.put, List.setIfInBounds_toArray, List.set_cons_zero, List.set_cons_succ]
      refine wpAnyH_take (i := 11) (oi := { dst := some 32, op := Op.fieldAddr 82 (Operand.tmp 31) 1, type := 0, pos := _, after := #[{ on := 10, ground := Ground.data }], guard := none }) (v := .pointer (some ⟨g0, k * 67 + 1, none⟩)) rfl (by kernel_rfl) (by kernel_rfl) (by kernel_rfl) (fun _ _ _ h => h) (Or.inl ⟨by rfl, ?_⟩) hHeld ?_
      · intro u hu
        go_simp
      try simp only [Act.put, List.setIfInBounds_toArray, List.set_cons_zero, List.set_cons_succ]
      refine wpAnyH_take (i := 12) (oi := { dst := some 33, op := Op.load 42 (Operand.tmp 32), type := 42, pos := _, after := #[{ on := 11, ground := Ground.data }], guard := none }) (v := .agg p.b.cs.toArray) rfl (by kernel_rfl) (by kernel_rfl) (by kernel_rfl) (fun _ _ _ h => h)
        (yields_B (by rfl) _ (by rfl) g0 (k * 67 + 1) (by rfl) p.b (fun u hu => hu.2.2)) hHeld ?_
      try simp only [Act.put, List.setIfInBounds_toArray, List.set_cons_zero, List.set_cons_succ]
      refine wpAnyH_ready (rs := [13]) (by kernel_rfl) (by simp) ?_
      refine (AllReadyH.cons (o := { dst := some 34, op := Op.call { callee := Callee.value (Operand.func 55), args := #[Operand.tmp 24, Operand.tmp 25, Operand.tmp 33], argTypes := #[31, 3, 42] }, type := 28, pos := _, after := #[{ on := 3, ground := Ground.data }, { on := 4, ground := Ground.data }, { on := 12, ground := Ground.data }], guard := none }) rfl (fun K hK => ?_) AllReadyH.nil)
      go_simp
      refine (hW _ (Below.refl _ _).drew).mono ?_
      rintro e w2 ⟨rfl, s', R', hX, hk, hg⟩
      try go_wp2_with fail
      have hk2 : Stp (fun x => R x ∨ x = q) w w2 := ((Stp.refl _ w).drew).trans hk
      refine hK.out _ _ (hS _ hk2) (fun hHeld => ?_)
      clear hK K
      try simp only [Act.put, List.setIfInBounds_toArray, List.set_cons_zero, List.set_cons_succ]
      refine wpAnyH_take (i := 14) (oi := { dst := some 6, op := Op.assign (Operand.tmp 34), type := 28, pos := _, after := #[{ on := 13, ground := Ground.data }, { on := 13, ground := Ground.chain }, { on := 0, ground := Ground.phase }, { on := 1, ground := Ground.phase }, { on := 2, ground := Ground.phase }, { on := 3, ground := Ground.phase }, { on := 4, ground := Ground.phase }, { on := 5, ground := Ground.phase }, { on := 6, ground := Ground.phase }, { on := 7, ground := Ground.phase }, { on := 8, ground := Ground.phase }, { on := 9, ground := Ground.phase }, { on := 10, ground := Ground.phase }, { on := 11, ground := Ground.phase }, { on := 12, ground := Ground.phase }, { on := 13, ground := Ground.phase }], guard := none }) (v := .int .i64 (useRes Z.d Z.p i)) rfl (by kernel_rfl) (by kernel_rfl) (by kernel_rfl) (fun _ _ _ h => h) (Or.inl ⟨by rfl, ?_⟩) hHeld ?_
      · intro u hu
        go_simp
      try simp only [Act.put, List.setIfInBounds_toArray, List.set_cons_zero, List.set_cons_succ]
      refine wpAnyH_done (by kernel_rfl) ?_ _
      have hk3 : Stp (Rl q E R) w w2 := hk2.mono (fun x e => .inl (.inr e))
      have z2 := hHeld.2.1
      clear hHeld hS hW hfi y0 cc rb y1 y2 y3 y4
      by_cases hu : useRes Z.d Z.p i = 0
      · have e5 : Z.wrt i p = { Z with d := Z.d.write Z.p i p.b, p := useP Z.d Z.p i, l := stP Z.l i ⟨p.b, false, p.pn⟩ } := by
          unfold CZ.wrt; rw [if_pos hu]
        have hw2 : RwL w2 g0 cap Z.l cur := ⟨by rw [hk2.block g0 hw.lt (far _ hEg.1)]; exact hw.at', hw.le, hw.cm, hw.size, hw.take⟩
        have rk2 := hw2.range k k1
        rw [k2] at rk2
        have x1 := onc_ch rk2
        have x2 := hw2.frozen (k * 67 + 65)
        simp only [hch] at x1
        rw [hu]
        have hH : Hid (useRes Z.d Z.p i = 0 ∧ Z.wrt i p = { Z with d := Z.d.write Z.p i p.b, p := useP Z.d Z.p i, l := stP Z.l i ⟨p.b, false, p.pn⟩ }) := ⟨hu, e5⟩
        have hK2 : Hid (Z.l.getD k e0 = (i, p)) := k2
        have hK3 : Hid (∀ q', Z.l.set k (i, q') = stP Z.l i q') := hset
        clear e5 hu k2 hset k3
        go_wp2
        go_returns
        have hset2 := Rx.set (Z := { Z with d := Z.d.write Z.p i p.b, p := useP Z.d Z.p i }) hX hw2 k k1 65 [.bool false] (i, ⟨p.b, false, p.pn⟩) (by simp) (by intro v hv; simp at hv; subst hv; rfl) (by rw [hK2.out]; exact onc_set_ch (i, p) false)
        have s6 : Stp (fun x => x = g0) w2 (w2.setCells g0 (k * 67 + 65) [.bool false]) := Stp.of_setCells w2 g0 _ _ (.inl rfl)
        refine ⟨by rw [hH.out.1]; rfl, s', .slice (some ⟨g0, 0, none⟩) Z.l.length cap, E, R', ?_, hk3.next s6 (fun x e => .inl (.inl (e ▸ hEg.1))), Grew.refl _ _ _, Grew.trans (b := w2) hg (Grew.refl _ _ _) hk2.size s6.size⟩
        rw [hH.out.2, ← hK3.out]
        exact hset2
      · have e5 : Z.wrt i p = { Z with d := Z.d.write Z.p i p.b, p := useP Z.d Z.p i } := by
          unfold CZ.wrt; rw [if_neg hu]
        have hH : Hid (Z.wrt i p = { Z with d := Z.d.write Z.p i p.b, p := useP Z.d Z.p i }) := e5
        clear e5
        go_wp2
        go_returns
        exact ⟨rfl, s', _, E, R', by rw [hH.out]; exact hX, hk3, Grew.refl _ _ _, hg⟩
end Go.Proofs.Ytecedklfdmbnpaa
