/-
  What Back and room of layer 13 do: no statement is proved here.
-/
import Derived.Test.YtecedklfdmbnpaaCacB
namespace Go.Proofs.Ytecedklfdmbnpaa
open Go.ChangeShapes Go.WideShapes Go.ChangeAt Go.RowKit
set_option linter.unusedVariables false
set_option linter.unusedSimpArgs false

theorem wf_inn {S : DS} {i : Int} (hn : S.n ≤ 2048) (hi : S.inn i) : (Lit.int .i64 i).wf = true := by
  unfold DS.inn at hi; simp [Lit.wf, IntKind.min, IntKind.max, IntKind.bits, IntKind.signed]; omega
theorem CZ.ok.oOk {Z : CZ} {t : Nat} (h : Z.ok t) (ht : t ≤ 1000000) : oOk Z.p := fun s hs => by
  have := h.sp s hs; unfold okAt at this; unfold PS.ok; omega
section
variable {w : World} {gc g mp : Nat} {sp ov : Value} {Z : CZ} {f : Int → Option Value} {E F G : Nat → Prop} {t : Nat}
/-- The page of a sector that is held. -/
theorem Cx.page (H : Cx w gc g sp Z mp ov f E F G) {i : Int} {q : Pg} (hq : fnd Z.l i = some q) : ∃ r, f i = some (.pointer (some ⟨r, 0, none⟩)) ∧ E r ∧ Cs w r q.cs := by
  obtain ⟨r, h1, h2, h3, _⟩ := H.cm.pg i q hq
  exact ⟨r, h1, h2, h3⟩
/-- It was put otherwise. -/
theorem Cx.put {w' : World} (H : Cx w gc g sp Z mp ov f E F G) {i : Int} {q q' : Pg} {r : Nat} (hq : fnd Z.l i = some q) (hr : f i = some (.pointer (some ⟨r, 0, none⟩))) (k : Stp (fun x => x = r) w w') (hc : Cs w' r q'.cs) : Cx w' gc g sp (Z.setP i q') mp ov f E F G := by
  obtain ⟨r', h1, h2, h3⟩ := H.page hq
  obtain rfl : r' = r := by rw [h1] at hr; injection hr with hr; injection hr with hr; injection hr with hr; injection hr
  have hm := H.cm.page hq hr k hc
  refine H.own (k.mono (fun x e => .inl (e ▸ h2))) rfl rfl ?_ (Grew.refl _ _ _)
  show Cm w' gc g mp ov Z.n Z.h Z.m (fnd (stP Z.l i q')) (keys (stP Z.l i q')) f E
  have e : fnd (stP Z.l i q') = fun x => if x = i then some q' else fnd Z.l x := by
    funext x; rw [fnd_setP, hq]; rfl
  rw [e, keys_setP]; exact hm
/-- The disk was written. -/
theorem Cx.disk {w' : World} {d : DS} {p : Option PS} {F' : Nat → Prop} (H : Cx w gc g sp Z mp ov f E F G) (k : Stp (fun x => F x ∨ G x) w w') (hd : DD w' g sp d p F' G) (hF : Grew F F' w w') : Cx w' gc g sp { Z with d := d, p := p } mp ov f E F' G := by
  refine ⟨hd, H.cm.step k (fun x hx e => by rcases e with e | e; exact H.ef x hx e; exact H.eg x hx e), fun x hx e => ?_, H.eg⟩
  rcases hF x e with e | e
  · exact H.ef x hx e
  · have := H.cm.lt x hx; omega
end
set_option maxRecDepth 100000 in
set_option maxHeartbeats 2000000 in
theorem back_any {w : World} {gc g mp : Nat} {sp ov : Value} {Z : CZ} {f : Int → Option Value} {E F G : Nat → Prop} {t : Nat} (H : Cx w gc g sp Z mp ov f E F G) (ok : Z.ok t) (ht : t ≤ 10000) (i : Int) (hi : (Lit.int .i64 i).wf = true) :
    Calls Try.prog 26 #[.pointer (some ⟨gc, 0, none⟩), .int .i64 i] w fun e w' => e = .returned (.int .i64 (Z.backE i)) ∧ ∃ F', Cx w' gc g sp (Z.back i) mp ov f E F' G ∧ Stp (Al E F G) w w' ∧ Grew F F' w w' := by
  have hfi := find_any H.cm i hi
  cases hq : fnd Z.l i with
  | none =>
    have e1 : Z.backE i = 5 := by unfold CZ.backE bkE; rw [hq]
    have e2 : Z.back i = Z := by unfold CZ.back; rw [hq]
    have e3 : pgE (fnd Z.l) i = 5 := by unfold pgE; rw [hq]
    have e4 : f i = none := H.cm.no i hq
    rw [e1, e2]; rw [e3, e4] at hfi; clear e1 e2 e3 e4
    go_enter Try.func26, Try.ntmps26
    go_wp2_with (go_at_call 51; refine hfi.mono ?_; rintro e w1 ⟨rfl, rfl⟩)
    go_returns
    exact ⟨rfl, F, H, Stp.refl _ _, Grew.refl _ _ _⟩
  | some q =>
    obtain ⟨r, hf, hE, hc⟩ := H.page hq
    have e3 : pgE (fnd Z.l) i = 0 := by unfold pgE; rw [hq]
    rw [e3, hf] at hfi; clear e3
    have cc := Pg.ch_cell hc
    cases hch : q.ch with
    | false =>
      have e1 : Z.backE i = 0 := by unfold CZ.backE bkE; rw [hq]; simp [hch]
      have e2 : Z.back i = Z := by unfold CZ.back; rw [hq]; simp [hch]
      rw [e1, e2]; rw [hch] at cc; clear e1 e2
      go_enter Try.func26, Try.ntmps26
      go_wp2_with (go_at_call 51; refine hfi.mono ?_; rintro e w1 ⟨rfl, rfl⟩)
      go_returns
      exact ⟨rfl, F, H, Stp.refl _ _, Grew.refl _ _ _⟩
    | true =>
      have e1 : Z.backE i = useRes Z.d Z.p i := by unfold CZ.backE bkE; rw [hq]; simp [hch]
      have e2 : Z.back i = Z.wrt i q := by unfold CZ.back; rw [hq]; simp [hch]
      rw [e1, e2]; rw [hch] at cc; clear e1 e2
      have hW := fun u (hu : Below w.heap.size w u) => write_any (H.later hu).dd (ok.oOk (by omega)) i q.b (by have := ok.wt i; omega)
      have rng := Pg.b_range hc
      obtain ⟨y0, _⟩ := H.cm.cells
      have hS : ∀ u, Stp (fun x => F x ∨ G x) w u → (u.cell? ⟨gc, 0, none⟩ = some (.pointer (some ⟨g, 0, none⟩)) ∧ u.rangeAt r 0 q.b.cs) := fun u hu =>
        ⟨hu.cell y0 (fun e => by rcases e with e | e; exact H.ef gc H.cm.eg e; exact H.eg gc H.cm.eg e), hu.range rng (fun e => by rcases e with e | e; exact H.ef r hE e; exact H.eg r hE e)⟩
      have key : ∀ u F', DD u g sp (Z.d.write Z.p i q.b) (useP Z.d Z.p i) F' G → Stp (fun x => F x ∨ G x) w u → Grew F F' w u → Cx u gc g sp { Z with d := Z.d.write Z.p i q.b, p := useP Z.d Z.p i } mp ov f E F' G := fun u F' h1 h2 h3 => H.disk h2 h1 h3
      go_enter Try.func26, Try.ntmps26
      go_wp2_with (go_at_call 51; refine hfi.mono ?_; rintro e w1 ⟨rfl, rfl⟩)
      refine wp_region_held_drew (S := fun u => u.cell? ⟨gc, 0, none⟩ = some (.pointer (some ⟨g, 0, none⟩)) ∧ u.rangeAt r 0 q.b.cs) (by kernel_rfl) (hS _ (Stp.refl _ w).drew) (fun hHeld => ?_)
      refine wpAnyH_take (i := 0) (oi := { dst := some 24, op := Op.move (Operand.tmp 0), type := 34, pos := _, after := #[], guard := none }) (v := .pointer (some ⟨gc, 0, none⟩)) rfl (by kernel_rfl) (by kernel_rfl) (by kernel_rfl) (fun _ _ _ h => h) (Or.inl ⟨by rfl, ?_⟩) hHeld ?_
      · intro u hu
        go_simp
      try simp only [Act.put, List.setIfInBounds_toArray, List.set_cons_zero, List.set_cons_succ]
      refine wpAnyH_take (i := 1) (oi := { dst := some 25, op := Op.nilCheck (Operand.tmp 24), type := 0, pos := _, after := #[{ on := 0, ground := Ground.data }], guard := none }) (v := .pointer (some ⟨gc, 0, none⟩)) rfl (by kernel_rfl) (by kernel_rfl) (by kernel_rfl) (fun _ _ _ h => h) (Or.inl ⟨by rfl, ?_⟩) hHeld ?_
      · intro u hu
        go_simp
      try simp only [Act.put, List.setIfInBounds_toArray, List.set_cons_zero, List.set_cons_succ]
      refine wpAnyH_take (i := 2) (oi := { dst := some 26, op := Op.fieldAddr 79 (Operand.tmp 25) 0, type := 0, pos := _, after := #[{ on := 1, ground := Ground.data }], guard := none }) (v := .pointer (some ⟨gc, 0, none⟩)) rfl (by kernel_rfl) (by kernel_rfl) (by kernel_rfl) (fun _ _ _ h => h) (Or.inl ⟨by rfl, ?_⟩) hHeld ?_
      · intro u hu
        go_simp
      try simp only [Act.put, List.setIfInBounds_toArray, List.set_cons_zero, List.set_cons_succ]
      refine wpAnyH_take (i := 3) (oi := { dst := some 27, op := Op.load 27 (Operand.tmp 26), type := 27, pos := _, after := #[{ on := 2, ground := Ground.data }], guard := none }) (v := .pointer (some ⟨g, 0, none⟩)) rfl (by kernel_rfl) (by kernel_rfl) (by kernel_rfl) (fun _ _ _ h => h) (Or.inl ⟨by rfl, ?_⟩) hHeld ?_
      · intro u hu
        have x1 := hu.1; go_simp
      try simp only [Act.put, List.setIfInBounds_toArray, List.set_cons_zero, List.set_cons_succ]
      refine wpAnyH_take (i := 4) (oi := { dst := some 28, op := Op.move (Operand.tmp 1), type := 3, pos := _, after := #[], guard := none }) (v := .int .i64 i) rfl (by kernel_rfl) (by kernel_rfl) (by kernel_rfl) (fun _ _ _ h => h) (Or.inl ⟨by rfl, ?_⟩) hHeld ?_
      · intro u hu
        go_simp
      try simp only [Act.put, List.setIfInBounds_toArray, List.set_cons_zero, List.set_cons_succ]
      refine wpAnyH_take (i := 5) (oi := { dst := some 29, op := Op.move (Operand.tmp 5), type := 83, pos := _, after := #[], guard := none }) (v := .pointer (some ⟨r, 0, none⟩)) rfl (by kernel_rfl) (by kernel_rfl) (by kernel_rfl) (fun _ _ _ h => h) (Or.inl ⟨by rfl, ?_⟩) hHeld ?_
      · intro u hu
        go_simp
      try simp only [Act.put, List.setIfInBounds_toArray, List.set_cons_zero, List.set_cons_succ]
      refine wpAnyH_take (i := 6) (oi := { dst := some 30, op := Op.nilCheck (Operand.tmp 29), type := 0, pos := _, after := #[{ on := 5, ground := Ground.data }], guard := none }) (v := .pointer (some ⟨r, 0, none⟩)) rfl (by kernel_rfl) (by kernel_rfl) (by kernel_rfl) (fun _ _ _ h => h) (Or.inl ⟨by rfl, ?_⟩) hHeld ?_
      · intro u hu
        go_simp
      try simp only [Act.put, List.setIfInBounds_toArray, List.set_cons_zero, List.set_cons_succ]
      refine wpAnyH_take (i := 7) (oi := { dst := some 31, op := Op.fieldAddr 85 (Operand.tmp 30) 0, type := 0, pos := _, after := #[{ on := 6, ground := Ground.data }], guard := none }) (v := .pointer (some ⟨r, 0, none⟩)) rfl (by kernel_rfl) (by kernel_rfl) (by kernel_rfl) (fun _ _ _ h => h) (Or.inl ⟨by rfl, ?_⟩) hHeld ?_
      · intro u hu
        go_simp
      try simp only [Act.put, List.setIfInBounds_toArray, List.set_cons_zero, List.set_cons_succ]
      refine wpAnyH_take (i := 8) (oi := { dst := some 32, op := Op.load 42 (Operand.tmp 31), type := 42, pos := _, after := #[{ on := 7, ground := Ground.data }], guard := none }) (v := .agg q.b.cs.toArray) rfl (by kernel_rfl) (by kernel_rfl) (by kernel_rfl) (fun _ _ _ h => h)
        (yields_B (by rfl) _ (by rfl) r 0 (by rfl) q.b (fun u hu => hu.2)) hHeld ?_
      try simp only [Act.put, List.setIfInBounds_toArray, List.set_cons_zero, List.set_cons_succ]
      refine wpAnyH_ready (rs := [9]) (by kernel_rfl) (by simp) ?_
      refine (AllReadyH.cons (o := { dst := some 33, op := Op.call { callee := Callee.value (Operand.func 52), args := #[Operand.tmp 27, Operand.tmp 28, Operand.tmp 32], argTypes := #[27, 3, 42] }, type := 28, pos := _, after := #[{ on := 3, ground := Ground.data }, { on := 4, ground := Ground.data }, { on := 8, ground := Ground.data }], guard := none }) rfl (fun K hK => ?_) AllReadyH.nil)
      go_simp
      refine (hW _ (Below.refl _ _).drew).mono ?_
      rintro e w2 ⟨rfl, F', hD, hk, hg⟩
      try go_wp2_with fail
      have hk2 : Stp (fun x => F x ∨ G x) w w2 := ((Stp.refl _ w).drew).trans hk
      have hX := key w2 F' hD hk2 hg
      have hk3 : Stp (Al E F G) w w2 := hk2.mono (fun x e => .inl (.inr e))
      refine hK.out _ _ (hS _ hk2) (fun hHeld => ?_)
      clear hK K
      try simp only [Act.put, List.setIfInBounds_toArray, List.set_cons_zero, List.set_cons_succ]
      refine wpAnyH_take (i := 10) (oi := { dst := some 7, op := Op.assign (Operand.tmp 33), type := 28, pos := _, after := #[{ on := 9, ground := Ground.data }, { on := 9, ground := Ground.chain }, { on := 0, ground := Ground.phase }, { on := 1, ground := Ground.phase }, { on := 2, ground := Ground.phase }, { on := 3, ground := Ground.phase }, { on := 4, ground := Ground.phase }, { on := 5, ground := Ground.phase }, { on := 6, ground := Ground.phase }, { on := 7, ground := Ground.phase }, { on := 8, ground := Ground.phase }, { on := 9, ground := Ground.phase }], guard := none }) (v := .int .i64 (useRes Z.d Z.p i)) rfl (by kernel_rfl) (by kernel_rfl) (by kernel_rfl) (fun _ _ _ h => h) (Or.inl ⟨by rfl, ?_⟩) hHeld ?_
      · intro u hu
        go_simp
      try simp only [Act.put, List.setIfInBounds_toArray, List.set_cons_zero, List.set_cons_succ]
      refine wpAnyH_done (by kernel_rfl) ?_ _
      clear hHeld hS hW key rng hfi y0 cc
      by_cases hu : useRes Z.d Z.p i = 0
      · have e5 : Z.wrt i q = CZ.setP { Z with d := Z.d.write Z.p i q.b, p := useP Z.d Z.p i } i ⟨q.b, false, q.pn⟩ := by
          unfold CZ.wrt CZ.setP; rw [if_pos hu]
        have hc2 : Cs w2 r q.cs := hc.step hk2 (fun e => by rcases e with e | e; exact H.ef r hE e; exact H.eg r hE e)
        have x1 := Pg.ch_cell hc2
        have x2 := hc2.frozen 64
        rw [hch] at x1
        rw [hu]
        have hE5 : Hid (Z.wrt i q = CZ.setP { Z with d := Z.d.write Z.p i q.b, p := useP Z.d Z.p i } i ⟨q.b, false, q.pn⟩) := e5
        have hH : Hid (useRes Z.d Z.p i = 0) := hu
        clear e5 hu
        go_wp2
        go_returns
        have k6 : Stp (fun x => x = r) w2 (w2.setCell ⟨r, 64, none⟩ (.bool false)) := (Stp.refl (fun x => x = r) w2).setCell (p := ⟨r, 64, none⟩) (.inl rfl) _
        exact ⟨by rw [hH.out]; rfl, F', by rw [hE5.out]; exact hX.put hq hf k6 (Pg.set_ch hc2 false), hk3.next k6 (fun x e => .inl (.inl (e ▸ hE))), Grew.trans (b := w2) hg (Grew.refl _ _ _) hk2.size k6.size⟩
      · have e5 : Z.wrt i q = { Z with d := Z.d.write Z.p i q.b, p := useP Z.d Z.p i } := by
          unfold CZ.wrt; rw [if_neg hu]
        have hE5 : Hid (Z.wrt i q = { Z with d := Z.d.write Z.p i q.b, p := useP Z.d Z.p i }) := e5
        clear e5
        go_wp2
        go_returns
        exact ⟨rfl, F', by rw [hE5.out]; exact hX, hk3, hg⟩
end Go.Proofs.Ytecedklfdmbnpaa
