/-
  What New, Force, Held, Changed, Counts, Drop and Sync of layer 13 do: no statement is proved here.
-/
import Derived.Test.YtecedklfdmbnpaaCacG
import Derived.Test.YtecedklfdmbnpaaDskF
import Derived.Maps.AppendAt
namespace Go.Proofs.Ytecedklfdmbnpaa
open Go.ChangeShapes Go.WideShapes Go.ChangeAt Go.RowKit
set_option linter.unusedVariables false
set_option linter.unusedSimpArgs false

set_option maxRecDepth 100000 in
set_option maxHeartbeats 2000000 in
theorem cforce_any {w : World} {gc g mp : Nat} {sp ov : Value} {Z : CZ} {f : Int → Option Value} {E F G : Nat → Prop} {t : Nat} (H : Cx w gc g sp Z mp ov f E F G) (ok : Z.ok t) (ht : t ≤ 10000) (i : Int) (hwi : (Lit.int .i64 i).wf = true) (b : Blk) :
    Calls Try.prog 25 #[.pointer (some ⟨gc, 0, none⟩), .int .i64 i, .agg b.cs.toArray] w fun e w' => e = .returned (.int .i64 (Z.forceE i)) ∧ To gc g mp sp E F G (Z.force i b) w w' := by
  have hH := fun u (hu : Below w.heap.size w u) => hold_any (H.later hu) ok ht i hwi
  by_cases he : Z.holdE i = 0
  · obtain ⟨q, rs, hl⟩ := hold_head he
    have okh := ok.hold i
    have e1 : Z.force i b = (Z.hold i).frc i b := by unfold CZ.force; rw [if_pos he]
    have e2 : Z.forceE i = useRes (Z.hold i).d (Z.hold i).p i := by unfold CZ.forceE; rw [if_pos he]
    rw [he] at hH; rw [e1, e2]; clear e1 e2 he
    generalize Z.hold i = Y at *
    go_enter Try.func25, Try.ntmps25
    go_wp2_with (first
      | (refine at_boxB (by rfl) _ (by rfl) b (by rfl) ?_; intro gb w1 a1 l1 r1 b1)
      | (go_at_call 49; refine (hH _ b1).mono ?_; rintro e w2 ⟨ov2, f2, E2, F2, rfl, H2, s2, gE, gF⟩
         obtain ⟨r, hr, hE2, hc⟩ := H2.page (fnd_head hl)
         rw [hp0, hr]
         have r2 : Cs w2 gb b.cs := r1.step s2 (H.far gb a1)
         clear hH))
    have hgF : ¬ F2 gb ∧ ¬ G gb := by
      refine ⟨fun e => ?_, fun e => ?_⟩
      · rcases gF gb e with e | e
        · exact H.far gb a1 (.inr (.inl e))
        · omega
      · exact H.far gb a1 (.inr (.inr e))
    obtain ⟨y0, _⟩ := H2.cm.cells
    have hS : ∀ u, Stp (fun x => F2 x ∨ G x) w2 u → (u.cell? ⟨gc, 0, none⟩ = some (.pointer (some ⟨g, 0, none⟩)) ∧ u.rangeAt gb 0 b.cs) := fun u hu =>
      ⟨hu.cell y0 (fun e => by rcases e with e | e; exact H2.ef gc H2.cm.eg e; exact H2.eg gc H2.cm.eg e), hu.range r2.range (fun e => by rcases e with e | e; exact hgF.1 e; exact hgF.2 e)⟩
    have hW := fun u (hu : Below w2.heap.size w2 u) => force_any (H2.later hu).dd (okh.oOk (by omega)) i b
    refine wp_region_held_drew (S := fun u => u.cell? ⟨gc, 0, none⟩ = some (.pointer (some ⟨g, 0, none⟩)) ∧ u.rangeAt gb 0 b.cs) (by kernel_rfl) (hS _ (Stp.refl _ w2).drew) (fun hHeld => ?_)
    refine wpAnyH_take (i := 0) (oi := { dst := some 19, op := Op.move (Operand.tmp 0), type := 34, pos := _, after := #[], guard := none }) (v := .pointer (some ⟨gc, 0, none⟩)) rfl (by kernel_rfl) (by kernel_rfl) (by kernel_rfl) (fun _ _ _ h => h) (Or.inl ⟨by rfl, ?_⟩) hHeld ?_
    · intro u hu
      go_simp
    try simp only [Act.put, List.setIfInBounds_toArray, List.set_cons_zero, List.set_cons_succ]
    refine wpAnyH_take (i := 1) (oi := { dst := some 20, op := Op.nilCheck (Operand.tmp 19), type := 0, pos := _, after := #[{ on := 0, ground := Ground.data }], guard := none }) (v := .pointer (some ⟨gc, 0, none⟩)) rfl (by kernel_rfl) (by kernel_rfl) (by kernel_rfl) (fun _ _ _ h => h) (Or.inl ⟨by rfl, ?_⟩) hHeld ?_
    · intro u hu
      go_simp
    try simp only [Act.put, List.setIfInBounds_toArray, List.set_cons_zero, List.set_cons_succ]
    refine wpAnyH_take (i := 2) (oi := { dst := some 21, op := Op.fieldAddr 79 (Operand.tmp 20) 0, type := 0, pos := _, after := #[{ on := 1, ground := Ground.data }], guard := none }) (v := .pointer (some ⟨gc, 0, none⟩)) rfl (by kernel_rfl) (by kernel_rfl) (by kernel_rfl) (fun _ _ _ h => h) (Or.inl ⟨by rfl, ?_⟩) hHeld ?_
    · intro u hu
      go_simp
    try simp only [Act.put, List.setIfInBounds_toArray, List.set_cons_zero, List.set_cons_succ]
    refine wpAnyH_take (i := 3) (oi := { dst := some 22, op := Op.load 27 (Operand.tmp 21), type := 27, pos := _, after := #[{ on := 2, ground := Ground.data }], guard := none }) (v := .pointer (some ⟨g, 0, none⟩)) rfl (by kernel_rfl) (by kernel_rfl) (by kernel_rfl) (fun _ _ _ h => h) (Or.inl ⟨by rfl, ?_⟩) hHeld ?_
    · intro u hu
      have x1 := hu.1; go_simp
    try simp only [Act.put, List.setIfInBounds_toArray, List.set_cons_zero, List.set_cons_succ]
    refine wpAnyH_take (i := 4) (oi := { dst := some 23, op := Op.move (Operand.tmp 1), type := 3, pos := _, after := #[], guard := none }) (v := .int .i64 i) rfl (by kernel_rfl) (by kernel_rfl) (by kernel_rfl) (fun _ _ _ h => h) (Or.inl ⟨by rfl, ?_⟩) hHeld ?_
    · intro u hu
      go_simp
    try simp only [Act.put, List.setIfInBounds_toArray, List.set_cons_zero, List.set_cons_succ]
    refine wpAnyH_take (i := 5) (oi := { dst := some 24, op := Op.load 42 (Operand.tmp 5), type := 42, pos := _, after := #[], guard := none }) (v := .agg b.cs.toArray) rfl (by kernel_rfl) (by kernel_rfl) (by kernel_rfl) (fun _ _ _ h => h)
      (yields_B (by rfl) _ (by rfl) gb 0 (by rfl) b (fun u hu => hu.2)) hHeld ?_
    try simp only [Act.put, List.setIfInBounds_toArray, List.set_cons_zero, List.set_cons_succ]
    refine wpAnyH_ready (rs := [6]) (by kernel_rfl) (by simp) ?_
    refine (AllReadyH.cons (o := { dst := some 25, op := Op.call { callee := Callee.value (Operand.func 50), args := #[Operand.tmp 22, Operand.tmp 23, Operand.tmp 24], argTypes := #[27, 3, 42] }, type := 28, pos := _, after := #[{ on := 3, ground := Ground.data }, { on := 4, ground := Ground.data }, { on := 5, ground := Ground.data }], guard := none }) rfl (fun K hK => ?_) AllReadyH.nil)
    go_simp
    refine (hW _ (Below.refl _ _).drew).mono ?_
    rintro e w3 ⟨rfl, hD, hk⟩
    try go_wp2_with fail
    have hk2 : Stp (fun x => F2 x ∨ G x) w2 w3 := ((Stp.refl _ w2).drew).trans hk
    refine hK.out _ _ (hS _ hk2) (fun hHeld => ?_)
    clear hK K
    try simp only [Act.put, List.setIfInBounds_toArray, List.set_cons_zero, List.set_cons_succ]
    refine wpAnyH_take (i := 7) (oi := { dst := some 9, op := Op.assign (Operand.tmp 25), type := 28, pos := _, after := #[{ on := 6, ground := Ground.data }, { on := 6, ground := Ground.chain }, { on := 0, ground := Ground.phase }, { on := 1, ground := Ground.phase }, { on := 2, ground := Ground.phase }, { on := 3, ground := Ground.phase }, { on := 4, ground := Ground.phase }, { on := 5, ground := Ground.phase }, { on := 6, ground := Ground.phase }], guard := none }) (v := .int .i64 (useRes Y.d Y.p i)) rfl (by kernel_rfl) (by kernel_rfl) (by kernel_rfl) (fun _ _ _ h => h) (Or.inl ⟨by rfl, ?_⟩) hHeld ?_
    · intro u hu
      go_simp
    try simp only [Act.put, List.setIfInBounds_toArray, List.set_cons_zero, List.set_cons_succ]
    refine wpAnyH_done (by kernel_rfl) ?_ _
    clear hHeld hS hW
    have H3 := H2.disk hk2 hD (Grew.refl _ _ _)
    have S2 : Stp (Al E F G) w w2 := (Stp.of_below b1 (Al E F G)).trans s2
    have S3 : Stp (Al E F G) w w3 := S2.next hk2 (fun x e => by
      rcases e with e | e
      · rcases gF x e with e | e
        · exact .inl (.inr (.inl e))
        · exact .inr (Nat.le_trans b1.size e.1)
      · exact .inl (.inr (.inr e)))
    have gE3 : Grew E E2 w w3 := Grew.trans (b := w2) (gE.pre b1.size) (Grew.refl _ _ _) S2.size hk2.size
    have gF3 : Grew F F2 w w3 := Grew.trans (b := w2) (gF.pre b1.size) (Grew.refl _ _ _) S2.size hk2.size
    have hc3 : Cs w3 r q.cs := hc.step hk2 (fun e => by rcases e with e | e; exact H2.ef r hE2 e; exact H2.eg r hE2 e)
    have r3 : Cs w3 gb b.cs := r2.step hk2 (fun e => by rcases e with e | e; exact hgF.1 e; exact hgF.2 e)
    clear r2 hc hk hk2 s2 r1 b1 gE gF y0
    by_cases hu : useRes Y.d Y.p i = 0
    · have e5 : Y.frc i b = CZ.onHd { Y with d := Y.d.force Y.p i b, p := useP Y.d Y.p i } (fun q => ⟨b, false, q.pn⟩) := by
        unfold CZ.frc CZ.onHd; rw [if_pos hu]
      have hE5 : Hid (Y.frc i b = CZ.onHd { Y with d := Y.d.force Y.p i b, p := useP Y.d Y.p i } (fun q => ⟨b, false, q.pn⟩) ∧ useRes Y.d Y.p i = 0) := ⟨e5, hu⟩
      rw [hu]; clear e5 hu
      go_wp2_with (first
        | (refine at_getB (by rfl) _ (by rfl) gb (by rfl) b r3.range ?_)
        | (refine at_putP (by rfl) _ _ (by rfl) r (by rfl) b (by rfl) q hc3 ?_; intro w4 r4 s4
           have x3 := Pg.ch_cell r4
           have v3 := r4.frozen 64))
      go_returns
      have s5 : Stp (fun x => x = r) w4 (w4.setCell ⟨r, 64, none⟩ (.bool false)) := (Stp.refl (fun x => x = r) w4).setCell (p := ⟨r, 64, none⟩) (.inl rfl) _
      have s6 := s4.trans s5
      have H4 := H3.hd (u := fun q => ⟨b, false, q.pn⟩) okh.nd hl hr s6 (Pg.set_ch r4 false)
      refine ⟨by rw [hE5.out.2]; rfl, ov2, f2, E2, F2, by rw [hE5.out.1]; exact H4, S3.next s6 (fun x e => ?_), Grew.trans (b := w3) gE3 (Grew.refl _ _ _) S3.size s6.size, Grew.trans (b := w3) gF3 (Grew.refl _ _ _) S3.size s6.size⟩
      subst e
      rcases gE3 _ hE2 with e | e
      · exact .inl (.inl e)
      · exact .inr e.1
    · have e5 : Y.frc i b = { Y with d := Y.d.force Y.p i b, p := useP Y.d Y.p i } := by
        unfold CZ.frc; rw [if_neg hu]
      have hE5 : Hid (Y.frc i b = { Y with d := Y.d.force Y.p i b, p := useP Y.d Y.p i }) := e5
      clear e5
      go_wp2
      go_returns
      exact ⟨rfl, ov2, f2, E2, F2, by rw [hE5.out]; exact H3, S3, gE3, gF3⟩
  · have e1 : Z.force i b = Z.hold i := by unfold CZ.force; rw [if_neg he]
    have e2 : Z.forceE i = Z.holdE i := by unfold CZ.forceE; rw [if_neg he]
    rw [e1, e2]; clear e1 e2
    go_enter Try.func25, Try.ntmps25
    go_wp2_with (first
      | (refine at_boxB (by rfl) _ (by rfl) b (by rfl) ?_; intro gb w1 a1 l1 r1 b1)
      | (go_at_call 49; refine (hH _ b1).mono ?_; rintro e w2 ⟨ov2, f2, E2, F2, rfl, H2, s2, gE, gF⟩))
    go_returns
    exact ⟨rfl, ov2, f2, E2, F2, H2, (Stp.of_below b1 (Al E F G)).trans s2, gE.pre b1.size, gF.pre b1.size⟩
theorem held_any {w : World} {gc g mp : Nat} {sp ov : Value} {Z : CZ} {f : Int → Option Value} {E F G : Nat → Prop} {t : Nat} (H : Cx w gc g sp Z mp ov f E F G) (ok : Z.ok t) :
    Calls Try.prog 15 #[.pointer (some ⟨gc, 0, none⟩)] w fun e w' => ∃ v', e = .returned v' ∧ OwV w' v' (keys Z.l) ∧ New w.heap.size v' ∧ Below w.heap.size w w' := by
  obtain ⟨y0, y1, y2, y3, y4, y5⟩ := H.cm.cells
  have hc := clone_own H.cm.ow (by rw [keys_len]; have := ok.len; have := ok.n2; omega)
  obtain ⟨a0, n0, c0, hov⟩ := H.cm.ow.shape
  subst hov
  go_enter Try.func15, Try.ntmps15
  go_wp2_with (go_at_call 43; refine hc.mono ?_; rintro e w1 ⟨v1, rfl, o1, n1, b1⟩)
  go_returns
  exact ⟨v1, rfl, o1, n1, b1⟩
theorem counts_any {w : World} {gc g mp : Nat} {sp ov : Value} {Z : CZ} {f : Int → Option Value} {E F G : Nat → Prop} (H : Cx w gc g sp Z mp ov f E F G) :
    Calls Try.prog 13 #[.pointer (some ⟨gc, 0, none⟩)] w fun e w' => e = .returned (.tuple #[.int .i64 Z.h, .int .i64 Z.m]) ∧ Below w.heap.size w w' := by
  obtain ⟨y0, y1, y2, y3, y4, y5⟩ := H.cm.cells
  go_enter Try.func13, Try.ntmps13
  go_wp2
  refine wp_region_held_drew (S := fun u => u.cell? ⟨gc, 4, none⟩ = some (.int .i64 Z.h) ∧ u.cell? ⟨gc, 5, none⟩ = some (.int .i64 Z.m)) (by kernel_rfl) ⟨y4, y5⟩ (fun hHeld => ?_)
  refine wpAnyH_take (i := 0) (oi := { dst := some 6, op := Op.move (Operand.tmp 0), type := 34, pos := _, after := #[], guard := none }) (v := .pointer (some ⟨gc, 0, none⟩)) rfl (by kernel_rfl) (by kernel_rfl) (by kernel_rfl) (fun _ _ _ h => h) (Or.inl ⟨by rfl, ?_⟩) hHeld ?_
  · intro u hu
    go_simp
  try simp only [Act.put, List.setIfInBounds_toArray, List.set_cons_zero, List.set_cons_succ]
  refine wpAnyH_take (i := 1) (oi := { dst := some 7, op := Op.nilCheck (Operand.tmp 6), type := 0, pos := _, after := #[{ on := 0, ground := Ground.data }], guard := none }) (v := .pointer (some ⟨gc, 0, none⟩)) rfl (by kernel_rfl) (by kernel_rfl) (by kernel_rfl) (fun _ _ _ h => h) (Or.inl ⟨by rfl, ?_⟩) hHeld ?_
  · intro u hu
    go_simp
  try simp only [Act.put, List.setIfInBounds_toArray, List.set_cons_zero, List.set_cons_succ]
  refine wpAnyH_take (i := 2) (oi := { dst := some 8, op := Op.fieldAddr 79 (Operand.tmp 7) 4, type := 0, pos := _, after := #[{ on := 1, ground := Ground.data }], guard := none }) (v := .pointer (some ⟨gc, 4, none⟩)) rfl (by kernel_rfl) (by kernel_rfl) (by kernel_rfl) (fun _ _ _ h => h) (Or.inl ⟨by rfl, ?_⟩) hHeld ?_
  · intro u hu
    go_simp
  try simp only [Act.put, List.setIfInBounds_toArray, List.set_cons_zero, List.set_cons_succ]
  refine wpAnyH_take (i := 3) (oi := { dst := some 9, op := Op.load 3 (Operand.tmp 8), type := 3, pos := _, after := #[{ on := 2, ground := Ground.data }], guard := none }) (v := .int .i64 Z.h) rfl (by kernel_rfl) (by kernel_rfl) (by kernel_rfl) (fun _ _ _ h => h) (Or.inl ⟨by rfl, ?_⟩) hHeld ?_
  · intro u hu
    have x1 := hu.1; go_simp
  try simp only [Act.put, List.setIfInBounds_toArray, List.set_cons_zero, List.set_cons_succ]
  refine wpAnyH_take (i := 4) (oi := { dst := some 10, op := Op.move (Operand.tmp 0), type := 34, pos := _, after := #[{ on := 8, ground := Ground.gcOnly Departure.lateStores }], guard := none }) (v := .pointer (some ⟨gc, 0, none⟩)) rfl (by kernel_rfl) (by kernel_rfl) (by kernel_rfl) (fun _ _ _ h => h) (Or.inl ⟨by rfl, ?_⟩) hHeld ?_
  · intro u hu
    go_simp
  try simp only [Act.put, List.setIfInBounds_toArray, List.set_cons_zero, List.set_cons_succ]
  refine wpAnyH_take (i := 5) (oi := { dst := some 11, op := Op.nilCheck (Operand.tmp 10), type := 0, pos := _, after := #[{ on := 4, ground := Ground.data }, { on := 8, ground := Ground.gcOnly Departure.lateStores }], guard := none }) (v := .pointer (some ⟨gc, 0, none⟩)) rfl (by kernel_rfl) (by kernel_rfl) (by kernel_rfl) (fun _ _ _ h => h) (Or.inl ⟨by rfl, ?_⟩) hHeld ?_
  · intro u hu
    go_simp
  try simp only [Act.put, List.setIfInBounds_toArray, List.set_cons_zero, List.set_cons_succ]
  refine wpAnyH_take (i := 6) (oi := { dst := some 12, op := Op.fieldAddr 79 (Operand.tmp 11) 5, type := 0, pos := _, after := #[{ on := 5, ground := Ground.data }, { on := 8, ground := Ground.gcOnly Departure.lateStores }], guard := none }) (v := .pointer (some ⟨gc, 5, none⟩)) rfl (by kernel_rfl) (by kernel_rfl) (by kernel_rfl) (fun _ _ _ h => h) (Or.inl ⟨by rfl, ?_⟩) hHeld ?_
  · intro u hu
    go_simp
  try simp only [Act.put, List.setIfInBounds_toArray, List.set_cons_zero, List.set_cons_succ]
  refine wpAnyH_take (i := 7) (oi := { dst := some 13, op := Op.load 3 (Operand.tmp 12), type := 3, pos := _, after := #[{ on := 6, ground := Ground.data }, { on := 8, ground := Ground.gcOnly Departure.lateStores }], guard := none }) (v := .int .i64 Z.m) rfl (by kernel_rfl) (by kernel_rfl) (by kernel_rfl) (fun _ _ _ h => h) (Or.inl ⟨by rfl, ?_⟩) hHeld ?_
  · intro u hu
    have x1 := hu.2; go_simp
  try simp only [Act.put, List.setIfInBounds_toArray, List.set_cons_zero, List.set_cons_succ]
  refine wpAnyH_take (i := 8) (oi := { dst := some 2, op := Op.assign (Operand.tmp 9), type := 3, pos := _, after := #[{ on := 3, ground := Ground.data }, { on := 0, ground := Ground.phase }, { on := 1, ground := Ground.phase }, { on := 2, ground := Ground.phase }, { on := 3, ground := Ground.phase }, { on := 4, ground := Ground.textOnly Departure.lateStores }, { on := 5, ground := Ground.textOnly Departure.lateStores }, { on := 6, ground := Ground.textOnly Departure.lateStores }, { on := 7, ground := Ground.textOnly Departure.lateStores }], guard := none }) (v := .int .i64 Z.h) rfl (by kernel_rfl) (by kernel_rfl) (by kernel_rfl) (fun _ _ _ h => h) (Or.inl ⟨by rfl, ?_⟩) hHeld ?_
  · intro u hu
    go_simp
  try simp only [Act.put, List.setIfInBounds_toArray, List.set_cons_zero, List.set_cons_succ]
  refine wpAnyH_take (i := 9) (oi := { dst := some 3, op := Op.assign (Operand.tmp 13), type := 3, pos := _, after := #[{ on := 7, ground := Ground.data }, { on := 8, ground := Ground.chain }, { on := 0, ground := Ground.phase }, { on := 1, ground := Ground.phase }, { on := 2, ground := Ground.phase }, { on := 3, ground := Ground.phase }, { on := 4, ground := Ground.phase }, { on := 5, ground := Ground.phase }, { on := 6, ground := Ground.phase }, { on := 7, ground := Ground.phase }, { on := 8, ground := Ground.phase }], guard := none }) (v := .int .i64 Z.m) rfl (by kernel_rfl) (by kernel_rfl) (by kernel_rfl) (fun _ _ _ h => h) (Or.inl ⟨by rfl, ?_⟩) hHeld ?_
  · intro u hu
    go_simp
  try simp only [Act.put, List.setIfInBounds_toArray, List.set_cons_zero, List.set_cons_succ]
  refine wpAnyH_done (by kernel_rfl) ?_ _
  go_wp2
  go_returns
  exact ⟨rfl, by go_grown⟩
section
variable {ops : Array Oper} {rest : List Oper} {o : Oper} {a : Act} {w : World} {Q : Exit → Act → World → Prop}
theorem at_clear (hw : Region.wanted o (yielded ops a.tmps) = true) (x : Operand) (ho : o.op = Op.call { callee := Callee.builtin Builtin.clear, args := #[x], argTypes := #[77] }) (b : Nat) (f : Int → Option Value)
    (hx : a.eval x = .map (some b)) (hM : MpI Try.prog 3 w b f)
    (h : ∀ w', MpI Try.prog 3 w' b (fun _ => none) → Stp (fun x => x = b) w w' → wpList Try.prog ops Q rest (a.put o.dst (.tuple #[])) w') : wpList Try.prog ops Q (o :: rest) a w := by
  obtain ⟨w', hr, h1, h2⟩ := hM.clear uPgs o.type
  refine wpList_val hw _ w' ?_ (h w' h1 h2)
  simp [execOp, ho, resolve, invoke, builtin, hx, hr, Result.andThen]
theorem at_makeM (T : Nat) (hw : Region.wanted o (yielded ops a.tmps) = true) (ho : o.op = .makeMap T none)
    (h : ∀ b w', w.heap.size ≤ b → MpI Try.prog 3 w' b (fun _ => none) → Below w.heap.size w w' → wpList Try.prog ops Q rest (a.put o.dst (.map (some b))) w') : wpList Try.prog ops Q (o :: rest) a w := by
  refine wpList_val hw _ _ ?_ (h w.heap.size (w.alloc (.map #[] 0)) (Nat.le_refl _) (MpI.made w _ _) ((Below.refl _ _).alloc (Nat.le_refl _) _))
  have : (Instr.makeMap T none).run Try.prog w = .ok (.map (some w.heap.size)) (w.alloc (.map #[] 0)) := rfl
  simp [execOp, ho, this]
end
theorem drop_any {w : World} {gc g mp : Nat} {sp ov : Value} {Z : CZ} {f : Int → Option Value} {E F G : Nat → Prop} (H : Cx w gc g sp Z mp ov f E F G) :
    Calls Try.prog 29 #[.pointer (some ⟨gc, 0, none⟩)] w fun e w' => e = .returned (.tuple #[]) ∧ To gc g mp sp E F G Z.drop w w' := by
  obtain ⟨y0, y1, y2, y3, y4, y5⟩ := H.cm.cells
  go_enter Try.func29, Try.ntmps29
  go_wp2_with (refine at_clear (by rfl) _ (by rfl) mp f (by rfl) H.cm.mm ?_; intro w1 m1 s1; have h1 := H.cm.allGone s1 m1; have q3 := h1.c.cell 3 _ rfl; have v3 := h1.c.frozen 3)
  first | go_end0 | refine bodyPost_ret (results_none rfl _ _ _) rfl ?_
  have s2 : Stp (fun x => x = gc) w1 (w1.setCell ⟨gc, 3, none⟩ (.slice none 0 0)) := (Stp.refl (fun x => x = gc) w1).setCell (p := ⟨gc, 3, none⟩) (.inl rfl) _
  have h2 := h1.order (Stp.refl _ w1) (OwV.nil w1) (fun r hr => by cases hr)
  have s : Stp E w (w1.setCell ⟨gc, 3, none⟩ (.slice none 0 0)) := (s1.mono (fun x e => .inl (e ▸ H.cm.em))).next s2 (fun x e => .inl (e ▸ H.cm.eg))
  have hg : Grew E (fun x => E x ∨ (Value.slice none 0 0).ownBlock = some x) w (w1.setCell ⟨gc, 3, none⟩ (.slice none 0 0)) := fun x hx => by
    rcases hx with hx | hx
    · exact .inl hx
    · cases hx
  refine ⟨rfl, .slice none 0 0, (fun _ => none), _, F, H.own s rfl rfl ?_ hg, Al.left s, hg, Grew.refl _ _ _⟩
  have e : fnd Z.drop.l = fun _ => none := by funext x; rfl
  rw [e]
  exact h2
theorem cnew_bad {w : World} (v : Value) (n : Int) (h : v = .pointer none ∨ ((∃ g, v = .pointer (some ⟨g, 0, none⟩)) ∧ (n < 1 ∨ 64 < n))) :
    Calls Try.prog 10 #[v, .int .i64 n] w fun e w' => e = .returned (.tuple #[.pointer none, .int .i64 2]) ∧ w = w' := by
  rcases h with rfl | ⟨⟨g, rfl⟩, h⟩
  · go_enter Try.func10, Try.ntmps10
    go_wp2
    go_returns
    exact ⟨rfl, rfl⟩
  · by_cases h1 : n < 1
    · clear h
      go_enter Try.func10, Try.ntmps10
      go_wp2
      go_returns
      exact ⟨rfl, rfl⟩
    · have h2 : 64 < n := by omega
      clear h
      go_enter Try.func10, Try.ntmps10
      go_wp2
      go_returns
      exact ⟨rfl, rfl⟩
/-- A cache that holds nothing. -/
def CZ.new (d : DS) (p : Option PS) (n : Nat) : CZ := ⟨d, p, n, [], 0, 0⟩
theorem CZ.new_ok {d : DS} {p : Option PS} {n t : Nat} (h1 : 1 ≤ n) (h2 : n ≤ 64) (hw : ∀ i, (d.wt i).length ≤ t) (hp : ∀ s, p = some s → okAt s t) : (CZ.new d p n).ok t :=
  ⟨h1, h2, List.nodup_nil, (fun e he => by cases he), Nat.zero_le _, (fun e he => by cases he), hw, hp⟩
theorem cnew_good {w : World} {g : Nat} {sp : Value} {d : DS} {p : Option PS} {F G : Nat → Prop} (hd : DD w g sp d p F G) (n : Nat) (h1 : 1 ≤ n) (h2 : n ≤ 64) :
    Calls Try.prog 10 #[.pointer (some ⟨g, 0, none⟩), .int .i64 (n : Int)] w fun e w' => ∃ gc mp E, e = .returned (.tuple #[.pointer (some ⟨gc, 0, none⟩), .int .i64 0]) ∧ Cx w' gc g sp (CZ.new d p n) mp (.slice none 0 0) (fun _ => none) E F G ∧ Below w.heap.size w w' ∧ (∀ x, E x → w.heap.size ≤ x) := by
  have a1 : (1 : Int) ≤ (n : Int) := by omega
  have a2 : (n : Int) ≤ 64 := by omega
  go_enter Try.func10, Try.ntmps10
  go_wp2_with (refine at_makeM _ (by rfl) (by rfl) ?_; intro mp w1 l1 m1 b1)
  go_returns
  have b2 : Below w1.heap.size w1 (w1.alloc (.cells #[.pointer (some ⟨g, 0, none⟩), .int .i64 (n : Int), .map (some mp), .slice none 0 0, .int .i64 0, .int .i64 0] 79)) := (Below.refl _ w1).alloc (Nat.le_refl _) _
  have B2 := bnext b1 b2 (Nat.le_refl _)
  have hm1 := m1.lt
  refine ⟨w1.heap.size, mp, (fun x => x = w1.heap.size ∨ x = mp), rfl, ⟨hd.step (Stp.of_below B2 (fun _ => False)) (fun _ _ => id) (fun _ _ => id), ⟨?_, OwV.nil _, m1.step (Stp.of_below b2 (fun _ => False)) id, (fun k q hq => by cases hq), fun _ _ => rfl, (fun a b s e _ => by cases e), .inl rfl, .inr rfl, (fun r hr => by cases hr), fun x hx => ?_⟩, fun x hx e => ?_, fun x hx e => ?_⟩, B2, fun x hx => ?_⟩
  · exact Cs.made w1 [.pointer (some ⟨g, 0, none⟩), .int .i64 (n : Int), .map (some mp), .slice none 0 0, .int .i64 0, .int .i64 0] 79 (by intro v hv; simp at hv; rcases hv with rfl | rfl | rfl | rfl | rfl <;> rfl)
  · rcases hx with rfl | rfl
    · simp
    · have := b2.size; omega
  · have := hd.d.lt x e
    have := b1.size
    rcases hx with rfl | rfl <;> omega
  · have := hd.gl x e
    have := b1.size
    rcases hx with rfl | rfl <;> omega
  · have := b1.size
    rcases hx with rfl | rfl <;> omega
end Go.Proofs.Ytecedklfdmbnpaa
