/-
  What over and Now of layer 15 return: no statement is proved here.
-/
import Derived.Test.YteceapdkgidenaaRoE
namespace Go.Proofs.Yteceapdkgidenaa
open Go.ChangeShapes Go.WideShapes Go.ChangeAt Go.RowKit
set_option linter.unusedVariables false
set_option linter.unusedSimpArgs false

section
variable {ops : Array Oper} {o : Oper} {a : Act} {w : World} {K : Act → World → Prop} {Q : Exit → Act → World → Prop} {R : Prop}
theorem step_newU (hgd : o.guard = none) (ho : o.op = .alloc 28)
    (h : ∀ g w', w.heap.size ≤ g → g < w'.heap.size → Cs w' g [.int .u32 0] → Below w.heap.size w w' → K (a.put o.dst (.pointer (some ⟨g, 0, none⟩))) w') : if Region.wanted o (yielded ops a.tmps) = true then Oper.wp Try.prog o a w K Q else R := by
  have hw : Region.wanted o (yielded ops a.tmps) = true := by simp [Region.wanted, hgd]
  rw [if_pos hw]
  have hz : (zeroValue 28).run Try.prog w = .ok (.int .u32 0) w := by kernel_rfl
  have hi : (Instr.alloc 28 true (.tuple #[])).run Try.prog w = .ok (.pointer (some ⟨w.heap.size, 0, none⟩)) (w.alloc (.cells [Value.int .u32 0].toArray 28)) := by
    unfold Instr.alloc; rw [Sem.run_bind, hz]; rfl
  have hr : (execOp a.eval o).run Try.prog w = .ok (.value (.pointer (some ⟨w.heap.size, 0, none⟩))) (w.alloc (.cells [Value.int .u32 0].toArray 28)) := by
    simp only [execOp, ho, Sem.run_bind, hi]; rfl
  unfold Oper.wp
  rw [hr]
  exact h w.heap.size _ (Nat.le_refl _) (by simp) (Cs.made _ _ _ (by simp [Value.oneCell'])) ((Below.refl _ _).alloc (Nat.le_refl _) _)
end
theorem storeU {w : World} {g : Nat} {v x : Value} {t : Nat} (h : Cs w g [v]) : (storeVar 28 ⟨g, 0, none⟩ (.int .u32 (t : Int))).run Try.prog w = .ok () (w.setCell ⟨g, 0, none⟩ (.int .u32 (t : Int))) := by
  have h1 := h.cell 0 _ rfl
  have h2 := h.frozen 0
  go_simp
theorem Cs.stp {w : World} {g : Nat} {cs : List Value} (h : Cs w g cs) (i : Nat) (x : Value) : Stp (fun y => y = g) w (w.setCell ⟨g, i, none⟩ x) := (Stp.refl (fun y => y = g) w).setCell (p := ⟨g, i, none⟩) (.inl rfl) x
theorem rowNe {w : World} {g g' : Nat} {l : List UInt8} {v : Value} (h : Row w g l) (h' : Cs w g' [v]) (hl : l.length ≠ 1) : g ≠ g' := fun e => by
  subst e
  obtain ⟨t9, h9⟩ := h'.here
  obtain ⟨t8, h8⟩ := h
  rw [h9] at h8
  injection h8 with h8
  injection h8 with h8 _ _
  have := congrArg Array.size h8
  simp at this
  omega
theorem TellsR.mono {w w' : World} {F F' : Nat → Prop} {fi : FuncId} {lb : Array Value} {q : Pt → Bool} (h : TellsR w F fi lb q) (k : ∀ u, Stp F' w' u → Stp F w u) : TellsR w' F' fi lb q := fun u p d n hs hp => h u p d n (k u hs) hp
set_option maxRecDepth 100000 in
set_option maxHeartbeats 4000000 in
theorem over_any {w : World} {E : Nat → Prop} {s : Sv} {L : List Pe} (H : Ps w E s L) (fi : FuncId) (lb : Array Value) (q : Pt → Bool) (b : Blk) (hq : TellsR w (fun x => w.heap.size ≤ x) fi lb q) (eg : ∀ args w, (callFunc fi args).run Try.prog w = .ok (.enter fi args) w) (hE : ∀ x, E x → x < w.heap.size) :
    Calls Try.prog 36 #[.agg b.cs.toArray, .slice s.a s.n s.c, .func (.func fi) #[] lb] w fun e w' => e = .returned (.tuple #[.agg (nwB b ((pts L).filter q)).cs.toArray, .int .i64 (nwE ((pts L).filter q))]) ∧ Below w.heap.size w w' := by
  have hb := b.len
  have HT := rturn_any b
  have hlt := nT_lt b
  have hN : Hid (nwB b ((pts L).filter q) = if nwE ((pts L).filter q) = 0 then ovB (nT b) b ((pts L).filter q) else b) := by
    show _ = _
    by_cases h : nwE ((pts L).filter q) = 0
    · rw [if_pos h]; unfold nwB; rw [if_pos (nwE_of h)]
    · rw [if_neg h, nwB_else h]
  have hR := (nwB b ((pts L).filter q)).len
  generalize nwB b ((pts L).filter q) = R at *
  have HE : ∀ (u : World) (gn gt : Nat), Below w.heap.size w u → w.heap.size ≤ gn → Row u gn b.l → u.cell? ⟨gt, 0, none⟩ = some (.int .u32 ((nT b : Nat) : Int)) → gt ≠ gn → _ := fun u gn gt hb2 h1 h2 h3 h4 => each_any (H.later hb2) fi lb q b (nT b) gn gt (hq.mono fun v hv => (Stp.of_below hb2 (fun x => w.heap.size ≤ x)).next hv (fun x e => .inl (by subst e; exact h1))) eg hlt h2 h3 (fun x hx e => by have := hE x hx; omega) h4
  generalize nT b = t at *
  generalize nwE ((pts L).filter q) = e0 at *
  generalize ovB t b ((pts L).filter q) = O at *
  obtain ⟨sa, sn, sc⟩ := s
  simp only at HE
  have t1 : True := trivial
  have t2 : True := trivial
  go_enter Try.func36, Try.ntmps36
  go_wp2_with (first
    | (refine at_box 23 64 arrB (by rfl) _ (by rfl) b.l (by rfl) hb ?_; intro gb w1 a1 z1 r1 b1)
    | (clear t1; refine at_new 23 64 arrB (by rfl) (by rfl) ?_; intro gr W a2 z2 r2 b2))
  have r := r1.later b2
  have hgr : w.heap.size ≤ gr := by have := b1.size; omega
  have B2 := bnext b1 b2 (Nat.le_refl _)
  have hWs := B2.size
  clear a1 z1 a2 z2 r1 b1 b2 H hq
  refine wp_region_held_drew (S := fun u => Below W.heap.size W u) (by kernel_rfl) (Below.refl _ _).drew (fun hHeld => ?_)
  rename_i K1 hK1
  have tail : ∀ g8 g9 v, Row v g8 b.l → Cs v g9 [.int .u32 (t : Int)] → W.heap.size ≤ g8 → W.heap.size ≤ g9 → Below W.heap.size W v →
      K1 ⟨#[.agg b.cs.toArray, .slice sa sn sc, .func (.func fi) #[] lb, .pointer (some ⟨gb, 0, none⟩), undef, undef, .pointer (some ⟨gr, 0, none⟩), .int .i64 0, .pointer (some ⟨g8, 0, none⟩), .pointer (some ⟨g9, 0, none⟩), undef, .agg b.cs.toArray, .agg b.cs.toArray, .int .u32 (t : Int), undef, undef, undef, undef, undef, undef, undef, undef, undef], []⟩ v := by
    intro g8 g9 v y8 y9 m8 m9 hH
    refine hK1 _ _ ?_
    have r0lt : gb < W.heap.size := r.lt
    have r2lt : gr < W.heap.size := r2.lt
    have rb := r.later hH
    have rr := r2.later hH
    have Bv := bnext B2 hH (Nat.le_refl _)
    have hne : g9 ≠ g8 := (rowNe y8 y9 (by rw [hb]; simp)).symm
    have HE' := HE v g8 g9 Bv (by omega) y8 (y9.cell 0 _ rfl) hne
    clear HE r r2 hK1 hHeld y9 HT
    by_cases h0 : e0 = 0
    · subst h0
      have hN' : Hid (R = O) := by show _ = _; rw [hN.out, if_pos rfl]
      clear hN
      go_wp2_with (first
        | (go_at_call 49; refine HE'.mono ?_; rintro e v2 ⟨rfl, ⟨X, x2, e2⟩, s2⟩
           obtain rfl := e2 rfl
           rw [← hN'.out] at x2
           have rr2 := rr.step s2 (by omega)
           clear e2 hN')
        | (refine at_get 23 64 arrB (by rfl) _ (by rfl) g8 (by rfl) R.l x2 hR ?_)
        | (refine at_put 23 64 arrB (by rfl) _ _ (by rfl) gr (by rfl) R.l (by rfl) hR _ rr2 (by simp) ?_; intro w9 r9 s9))
      exact bodyPost_ret (retAt arrB Try.results36 rfl rfl r9 hR) rfl ⟨rfl, (((Stp.of_below Bv (fun x => w.heap.size ≤ x)).next s2 (fun x hx => .inl (by subst hx; omega))).next s9 (fun x hx => .inl (by subst hx; exact hgr))).below (Nat.le_refl _) (fun _ h => h)⟩
    · have hN' : R = b := by rw [hN.out, if_neg h0]
      subst hN'
      clear hN
      go_wp2_with (first
        | (go_at_call 49; refine HE'.mono ?_; rintro e v2 ⟨rfl, _, s2⟩
           have rb2 := rb.step s2 (by omega)
           have rr2 := rr.step s2 (by omega))
        | (refine at_get 23 64 arrB (by rfl) _ (by rfl) gb (by rfl) R.l rb2 hR ?_)
        | (refine at_put 23 64 arrB (by rfl) _ _ (by rfl) gr (by rfl) R.l (by rfl) hR _ rr2 (by simp) ?_; intro w9 r9 s9))
      exact bodyPost_ret (retAt arrB Try.results36 rfl rfl r9 hR) rfl ⟨rfl, (((Stp.of_below Bv (fun x => w.heap.size ≤ x)).next s2 (fun x hx => .inl (by subst hx; omega))).next s9 (fun x hx => .inl (by subst hx; exact hgr))).below (Nat.le_refl _) (fun _ h => h)⟩
  clear hK1
  refine wpAnyH_take (i := 0) (oi := { dst := some 11, op := Op.load 23 (Operand.tmp 3), type := 23, pos := _, after := #[], guard := none }) (v := .agg b.cs.toArray) rfl (by kernel_rfl) (by kernel_rfl) (by kernel_rfl) (fun _ _ _ h => h)
    (yields_row 23 64 arrB (by rfl) (.tmp 3) rfl gb (by rfl) b.l hb (fun u hu => r.later hu)) hHeld ?_
  try simp only [Act.put, List.setIfInBounds_toArray, List.set_cons_zero, List.set_cons_succ]
  refine wpAnyH_take (i := 1) (oi := { dst := some 12, op := Op.load 23 (Operand.tmp 3), type := 23, pos := _, after := #[], guard := none }) (v := .agg b.cs.toArray) rfl (by kernel_rfl) (by kernel_rfl) (by kernel_rfl) (fun _ _ _ h => h)
    (yields_row 23 64 arrB (by rfl) (.tmp 3) rfl gb (by rfl) b.l hb (fun u hu => r.later hu)) hHeld ?_
  try simp only [Act.put, List.setIfInBounds_toArray, List.set_cons_zero, List.set_cons_succ]
  refine wpAnyH_ready (rs := [2, 3, 4]) (by kernel_rfl) (by simp) ?_
  refine (AllReadyH.cons (o := { dst := some 13, op := Op.call { callee := Callee.value (Operand.func 11), args := #[Operand.tmp 12], argTypes := #[23] }, type := 28, pos := _, after := #[{ on := 1, ground := Ground.data }], guard := none }) rfl (fun K hK => ?_) (AllReadyH.cons (o := { dst := some 8, op := Op.alloc 23, type := 0, pos := _, after := #[], guard := none }) rfl (fun K hK => ?_) (AllReadyH.cons (o := { dst := some 9, op := Op.alloc 28, type := 0, pos := _, after := #[], guard := none }) rfl (fun K hK => ?_) AllReadyH.nil)))
  · skip
    go_simp
    refine (HT _).mono ?_
    rintro e v1 ⟨rfl, c1⟩
    try go_wp2_with fail
    try (have y3 := y3.later c1)
    try (have y4 := y4.later c1)
    refine hK.out _ _ (bnext hHeld c1 (Nat.le_refl _)) (fun hHeld => ?_)
    clear hK K
    try simp only [Act.put, List.setIfInBounds_toArray, List.set_cons_zero, List.set_cons_succ]
    refine wpAnyH_ready (rs := [3, 4]) (by kernel_rfl) (by simp) ?_
    refine (AllReadyH.cons (o := { dst := some 8, op := Op.alloc 23, type := 0, pos := _, after := #[], guard := none }) rfl (fun K hK => ?_) (AllReadyH.cons (o := { dst := some 9, op := Op.alloc 28, type := 0, pos := _, after := #[], guard := none }) rfl (fun K hK => ?_) AllReadyH.nil))
    · skip
      refine step_new 23 64 arrB rfl rfl ?_
      intro g8 v3 a3 z3 y3 b3
      have m8 : W.heap.size ≤ g8 := Nat.le_trans hHeld.size a3
      try (have y4 := y4.later b3)
      refine hK.out _ _ (bnext hHeld b3 (Nat.le_refl _)) (fun hHeld => ?_)
      clear hK K
      try simp only [Act.put, List.setIfInBounds_toArray, List.set_cons_zero, List.set_cons_succ]
      refine wpAnyH_ready (rs := [4]) (by kernel_rfl) (by simp) ?_
      refine (AllReadyH.cons (o := { dst := some 9, op := Op.alloc 28, type := 0, pos := _, after := #[], guard := none }) rfl (fun K hK => ?_) AllReadyH.nil)
      refine step_newU rfl rfl ?_
      intro g9 v4 a4 z4 y4 b4
      have m9 : W.heap.size ≤ g9 := Nat.le_trans hHeld.size a4
      try (have y3 := y3.later b4)
      refine hK.out _ _ (bnext hHeld b4 (Nat.le_refl _)) (fun hHeld => ?_)
      clear hK K
      try simp only [Act.put, List.setIfInBounds_toArray, List.set_cons_zero, List.set_cons_succ]
      refine wpAnyH_ready (rs := [5]) (by kernel_rfl) (by simp) ?_
      refine (AllReadyH.cons (o := { dst := none, op := Op.store 23 (Operand.tmp 8) (Operand.tmp 11), type := 0, pos := _, after := #[{ on := 3, ground := Ground.data }, { on := 0, ground := Ground.data }, { on := 2, ground := Ground.chain }, { on := 0, ground := Ground.phase }, { on := 1, ground := Ground.textOnly Departure.lateStores }, { on := 2, ground := Ground.textOnly Departure.lateStoresUnsure }, { on := 3, ground := Ground.phase }, { on := 4, ground := Ground.phase }], guard := none }) rfl (fun K hK => ?_) AllReadyH.nil)
      refine step_put 23 64 arrB rfl (.tmp 8) (.tmp 11) rfl g8 (by rfl) b.l (by rfl) hb _ y3 (by simp) ?_
      intro v5 y5 s5
      have y4 := y4.step s5 (fun e => rowNe y3 y4 (by simp) e.symm)
      refine hK.out _ _ (((Stp.of_below hHeld (fun x => W.heap.size ≤ x)).next s5 (fun x hx => .inl (by subst hx; exact m8))).below (Nat.le_refl _) (fun _ h => h)) (fun hHeld => ?_)
      clear hK K
      try simp only [Act.put]
      refine wpAnyH_ready (rs := [6]) (by kernel_rfl) (by simp) ?_
      refine (AllReadyH.cons (o := { dst := none, op := Op.store 28 (Operand.tmp 9) (Operand.tmp 13), type := 0, pos := _, after := #[{ on := 4, ground := Ground.data }, { on := 2, ground := Ground.data }, { on := 5, ground := Ground.chain }, { on := 0, ground := Ground.phase }, { on := 1, ground := Ground.phase }, { on := 2, ground := Ground.phase }, { on := 3, ground := Ground.phase }, { on := 4, ground := Ground.phase }, { on := 5, ground := Ground.phase }], guard := none }) rfl (fun K hK => ?_) AllReadyH.nil)
      refine step_st _ _ (.int .u32 (t : Int)) _ rfl _ _ (by rfl) (by rfl) (by rfl) (storeU (x := undef) y4) ?_
      have y6 := y4.set 0 (.int .u32 (t : Int)) rfl
      have s6 := y4.stp 0 (.int .u32 (t : Int))
      have y5 := y5.step s6 (fun e => rowNe y5 y4 (by rw [hb]; simp) e)
      refine hK.out _ _ (((Stp.of_below hHeld (fun x => W.heap.size ≤ x)).next s6 (fun x hx => .inl (by subst hx; exact m9))).below (Nat.le_refl _) (fun _ h => h)) (fun hHeld => ?_)
      clear hK K
      try simp only [Act.put]
      refine wpAnyH_done (by kernel_rfl) ?_ _
      exact tail g8 g9 _ y5 y6 m8 m9 hHeld
    · skip
      refine step_newU rfl rfl ?_
      intro g9 v4 a4 z4 y4 b4
      have m9 : W.heap.size ≤ g9 := Nat.le_trans hHeld.size a4
      try (have y3 := y3.later b4)
      refine hK.out _ _ (bnext hHeld b4 (Nat.le_refl _)) (fun hHeld => ?_)
      clear hK K
      try simp only [Act.put, List.setIfInBounds_toArray, List.set_cons_zero, List.set_cons_succ]
      refine wpAnyH_ready (rs := [3]) (by kernel_rfl) (by simp) ?_
      refine (AllReadyH.cons (o := { dst := some 8, op := Op.alloc 23, type := 0, pos := _, after := #[], guard := none }) rfl (fun K hK => ?_) AllReadyH.nil)
      refine step_new 23 64 arrB rfl rfl ?_
      intro g8 v3 a3 z3 y3 b3
      have m8 : W.heap.size ≤ g8 := Nat.le_trans hHeld.size a3
      try (have y4 := y4.later b3)
      refine hK.out _ _ (bnext hHeld b3 (Nat.le_refl _)) (fun hHeld => ?_)
      clear hK K
      try simp only [Act.put, List.setIfInBounds_toArray, List.set_cons_zero, List.set_cons_succ]
      refine wpAnyH_ready (rs := [5]) (by kernel_rfl) (by simp) ?_
      refine (AllReadyH.cons (o := { dst := none, op := Op.store 23 (Operand.tmp 8) (Operand.tmp 11), type := 0, pos := _, after := #[{ on := 3, ground := Ground.data }, { on := 0, ground := Ground.data }, { on := 2, ground := Ground.chain }, { on := 0, ground := Ground.phase }, { on := 1, ground := Ground.textOnly Departure.lateStores }, { on := 2, ground := Ground.textOnly Departure.lateStoresUnsure }, { on := 3, ground := Ground.phase }, { on := 4, ground := Ground.phase }], guard := none }) rfl (fun K hK => ?_) AllReadyH.nil)
      refine step_put 23 64 arrB rfl (.tmp 8) (.tmp 11) rfl g8 (by rfl) b.l (by rfl) hb _ y3 (by simp) ?_
      intro v5 y5 s5
      have y4 := y4.step s5 (fun e => rowNe y3 y4 (by simp) e.symm)
      refine hK.out _ _ (((Stp.of_below hHeld (fun x => W.heap.size ≤ x)).next s5 (fun x hx => .inl (by subst hx; exact m8))).below (Nat.le_refl _) (fun _ h => h)) (fun hHeld => ?_)
      clear hK K
      try simp only [Act.put]
      refine wpAnyH_ready (rs := [6]) (by kernel_rfl) (by simp) ?_
      refine (AllReadyH.cons (o := { dst := none, op := Op.store 28 (Operand.tmp 9) (Operand.tmp 13), type := 0, pos := _, after := #[{ on := 4, ground := Ground.data }, { on := 2, ground := Ground.data }, { on := 5, ground := Ground.chain }, { on := 0, ground := Ground.phase }, { on := 1, ground := Ground.phase }, { on := 2, ground := Ground.phase }, { on := 3, ground := Ground.phase }, { on := 4, ground := Ground.phase }, { on := 5, ground := Ground.phase }], guard := none }) rfl (fun K hK => ?_) AllReadyH.nil)
      refine step_st _ _ (.int .u32 (t : Int)) _ rfl _ _ (by rfl) (by rfl) (by rfl) (storeU (x := undef) y4) ?_
      have y6 := y4.set 0 (.int .u32 (t : Int)) rfl
      have s6 := y4.stp 0 (.int .u32 (t : Int))
      have y5 := y5.step s6 (fun e => rowNe y5 y4 (by rw [hb]; simp) e)
      refine hK.out _ _ (((Stp.of_below hHeld (fun x => W.heap.size ≤ x)).next s6 (fun x hx => .inl (by subst hx; exact m9))).below (Nat.le_refl _) (fun _ h => h)) (fun hHeld => ?_)
      clear hK K
      try simp only [Act.put]
      refine wpAnyH_done (by kernel_rfl) ?_ _
      exact tail g8 g9 _ y5 y6 m8 m9 hHeld
  · skip
    refine step_new 23 64 arrB rfl rfl ?_
    intro g8 v3 a3 z3 y3 b3
    have m8 : W.heap.size ≤ g8 := Nat.le_trans hHeld.size a3
    try (have y4 := y4.later b3)
    refine hK.out _ _ (bnext hHeld b3 (Nat.le_refl _)) (fun hHeld => ?_)
    clear hK K
    try simp only [Act.put, List.setIfInBounds_toArray, List.set_cons_zero, List.set_cons_succ]
    refine wpAnyH_ready (rs := [2, 4]) (by kernel_rfl) (by simp) ?_
    refine (AllReadyH.cons (o := { dst := some 13, op := Op.call { callee := Callee.value (Operand.func 11), args := #[Operand.tmp 12], argTypes := #[23] }, type := 28, pos := _, after := #[{ on := 1, ground := Ground.data }], guard := none }) rfl (fun K hK => ?_) (AllReadyH.cons (o := { dst := some 9, op := Op.alloc 28, type := 0, pos := _, after := #[], guard := none }) rfl (fun K hK => ?_) AllReadyH.nil))
    · skip
      go_simp
      refine (HT _).mono ?_
      rintro e v1 ⟨rfl, c1⟩
      try go_wp2_with fail
      try (have y3 := y3.later c1)
      try (have y4 := y4.later c1)
      refine hK.out _ _ (bnext hHeld c1 (Nat.le_refl _)) (fun hHeld => ?_)
      clear hK K
      try simp only [Act.put, List.setIfInBounds_toArray, List.set_cons_zero, List.set_cons_succ]
      refine wpAnyH_ready (rs := [4]) (by kernel_rfl) (by simp) ?_
      refine (AllReadyH.cons (o := { dst := some 9, op := Op.alloc 28, type := 0, pos := _, after := #[], guard := none }) rfl (fun K hK => ?_) AllReadyH.nil)
      refine step_newU rfl rfl ?_
      intro g9 v4 a4 z4 y4 b4
      have m9 : W.heap.size ≤ g9 := Nat.le_trans hHeld.size a4
      try (have y3 := y3.later b4)
      refine hK.out _ _ (bnext hHeld b4 (Nat.le_refl _)) (fun hHeld => ?_)
      clear hK K
      try simp only [Act.put, List.setIfInBounds_toArray, List.set_cons_zero, List.set_cons_succ]
      refine wpAnyH_ready (rs := [5]) (by kernel_rfl) (by simp) ?_
      refine (AllReadyH.cons (o := { dst := none, op := Op.store 23 (Operand.tmp 8) (Operand.tmp 11), type := 0, pos := _, after := #[{ on := 3, ground := Ground.data }, { on := 0, ground := Ground.data }, { on := 2, ground := Ground.chain }, { on := 0, ground := Ground.phase }, { on := 1, ground := Ground.textOnly Departure.lateStores }, { on := 2, ground := Ground.textOnly Departure.lateStoresUnsure }, { on := 3, ground := Ground.phase }, { on := 4, ground := Ground.phase }], guard := none }) rfl (fun K hK => ?_) AllReadyH.nil)
      refine step_put 23 64 arrB rfl (.tmp 8) (.tmp 11) rfl g8 (by rfl) b.l (by rfl) hb _ y3 (by simp) ?_
      intro v5 y5 s5
      have y4 := y4.step s5 (fun e => rowNe y3 y4 (by simp) e.symm)
      refine hK.out _ _ (((Stp.of_below hHeld (fun x => W.heap.size ≤ x)).next s5 (fun x hx => .inl (by subst hx; exact m8))).below (Nat.le_refl _) (fun _ h => h)) (fun hHeld => ?_)
      clear hK K
      try simp only [Act.put]
      refine wpAnyH_ready (rs := [6]) (by kernel_rfl) (by simp) ?_
      refine (AllReadyH.cons (o := { dst := none, op := Op.store 28 (Operand.tmp 9) (Operand.tmp 13), type := 0, pos := _, after := #[{ on := 4, ground := Ground.data }, { on := 2, ground := Ground.data }, { on := 5, ground := Ground.chain }, { on := 0, ground := Ground.phase }, { on := 1, ground := Ground.phase }, { on := 2, ground := Ground.phase }, { on := 3, ground := Ground.phase }, { on := 4, ground := Ground.phase }, { on := 5, ground := Ground.phase }], guard := none }) rfl (fun K hK => ?_) AllReadyH.nil)
      refine step_st _ _ (.int .u32 (t : Int)) _ rfl _ _ (by rfl) (by rfl) (by rfl) (storeU (x := undef) y4) ?_
      have y6 := y4.set 0 (.int .u32 (t : Int)) rfl
      have s6 := y4.stp 0 (.int .u32 (t : Int))
      have y5 := y5.step s6 (fun e => rowNe y5 y4 (by rw [hb]; simp) e)
      refine hK.out _ _ (((Stp.of_below hHeld (fun x => W.heap.size ≤ x)).next s6 (fun x hx => .inl (by subst hx; exact m9))).below (Nat.le_refl _) (fun _ h => h)) (fun hHeld => ?_)
      clear hK K
      try simp only [Act.put]
      refine wpAnyH_done (by kernel_rfl) ?_ _
      exact tail g8 g9 _ y5 y6 m8 m9 hHeld
    · skip
      refine step_newU rfl rfl ?_
      intro g9 v4 a4 z4 y4 b4
      have m9 : W.heap.size ≤ g9 := Nat.le_trans hHeld.size a4
      try (have y3 := y3.later b4)
      refine hK.out _ _ (bnext hHeld b4 (Nat.le_refl _)) (fun hHeld => ?_)
      clear hK K
      try simp only [Act.put, List.setIfInBounds_toArray, List.set_cons_zero, List.set_cons_succ]
      refine wpAnyH_ready (rs := [2]) (by kernel_rfl) (by simp) ?_
      refine (AllReadyH.cons (o := { dst := some 13, op := Op.call { callee := Callee.value (Operand.func 11), args := #[Operand.tmp 12], argTypes := #[23] }, type := 28, pos := _, after := #[{ on := 1, ground := Ground.data }], guard := none }) rfl (fun K hK => ?_) AllReadyH.nil)
      go_simp
      refine (HT _).mono ?_
      rintro e v1 ⟨rfl, c1⟩
      try go_wp2_with fail
      try (have y3 := y3.later c1)
      try (have y4 := y4.later c1)
      refine hK.out _ _ (bnext hHeld c1 (Nat.le_refl _)) (fun hHeld => ?_)
      clear hK K
      try simp only [Act.put, List.setIfInBounds_toArray, List.set_cons_zero, List.set_cons_succ]
      refine wpAnyH_ready (rs := [5]) (by kernel_rfl) (by simp) ?_
      refine (AllReadyH.cons (o := { dst := none, op := Op.store 23 (Operand.tmp 8) (Operand.tmp 11), type := 0, pos := _, after := #[{ on := 3, ground := Ground.data }, { on := 0, ground := Ground.data }, { on := 2, ground := Ground.chain }, { on := 0, ground := Ground.phase }, { on := 1, ground := Ground.textOnly Departure.lateStores }, { on := 2, ground := Ground.textOnly Departure.lateStoresUnsure }, { on := 3, ground := Ground.phase }, { on := 4, ground := Ground.phase }], guard := none }) rfl (fun K hK => ?_) AllReadyH.nil)
      refine step_put 23 64 arrB rfl (.tmp 8) (.tmp 11) rfl g8 (by rfl) b.l (by rfl) hb _ y3 (by simp) ?_
      intro v5 y5 s5
      have y4 := y4.step s5 (fun e => rowNe y3 y4 (by simp) e.symm)
      refine hK.out _ _ (((Stp.of_below hHeld (fun x => W.heap.size ≤ x)).next s5 (fun x hx => .inl (by subst hx; exact m8))).below (Nat.le_refl _) (fun _ h => h)) (fun hHeld => ?_)
      clear hK K
      try simp only [Act.put]
      refine wpAnyH_ready (rs := [6]) (by kernel_rfl) (by simp) ?_
      refine (AllReadyH.cons (o := { dst := none, op := Op.store 28 (Operand.tmp 9) (Operand.tmp 13), type := 0, pos := _, after := #[{ on := 4, ground := Ground.data }, { on := 2, ground := Ground.data }, { on := 5, ground := Ground.chain }, { on := 0, ground := Ground.phase }, { on := 1, ground := Ground.phase }, { on := 2, ground := Ground.phase }, { on := 3, ground := Ground.phase }, { on := 4, ground := Ground.phase }, { on := 5, ground := Ground.phase }], guard := none }) rfl (fun K hK => ?_) AllReadyH.nil)
      refine step_st _ _ (.int .u32 (t : Int)) _ rfl _ _ (by rfl) (by rfl) (by rfl) (storeU (x := undef) y4) ?_
      have y6 := y4.set 0 (.int .u32 (t : Int)) rfl
      have s6 := y4.stp 0 (.int .u32 (t : Int))
      have y5 := y5.step s6 (fun e => rowNe y5 y4 (by rw [hb]; simp) e)
      refine hK.out _ _ (((Stp.of_below hHeld (fun x => W.heap.size ≤ x)).next s6 (fun x hx => .inl (by subst hx; exact m9))).below (Nat.le_refl _) (fun _ h => h)) (fun hHeld => ?_)
      clear hK K
      try simp only [Act.put]
      refine wpAnyH_done (by kernel_rfl) ?_ _
      exact tail g8 g9 _ y5 y6 m8 m9 hHeld
  · skip
    refine step_newU rfl rfl ?_
    intro g9 v4 a4 z4 y4 b4
    have m9 : W.heap.size ≤ g9 := Nat.le_trans hHeld.size a4
    try (have y3 := y3.later b4)
    refine hK.out _ _ (bnext hHeld b4 (Nat.le_refl _)) (fun hHeld => ?_)
    clear hK K
    try simp only [Act.put, List.setIfInBounds_toArray, List.set_cons_zero, List.set_cons_succ]
    refine wpAnyH_ready (rs := [2, 3]) (by kernel_rfl) (by simp) ?_
    refine (AllReadyH.cons (o := { dst := some 13, op := Op.call { callee := Callee.value (Operand.func 11), args := #[Operand.tmp 12], argTypes := #[23] }, type := 28, pos := _, after := #[{ on := 1, ground := Ground.data }], guard := none }) rfl (fun K hK => ?_) (AllReadyH.cons (o := { dst := some 8, op := Op.alloc 23, type := 0, pos := _, after := #[], guard := none }) rfl (fun K hK => ?_) AllReadyH.nil))
    · skip
      go_simp
      refine (HT _).mono ?_
      rintro e v1 ⟨rfl, c1⟩
      try go_wp2_with fail
      try (have y3 := y3.later c1)
      try (have y4 := y4.later c1)
      refine hK.out _ _ (bnext hHeld c1 (Nat.le_refl _)) (fun hHeld => ?_)
      clear hK K
      try simp only [Act.put, List.setIfInBounds_toArray, List.set_cons_zero, List.set_cons_succ]
      refine wpAnyH_ready (rs := [3]) (by kernel_rfl) (by simp) ?_
      refine (AllReadyH.cons (o := { dst := some 8, op := Op.alloc 23, type := 0, pos := _, after := #[], guard := none }) rfl (fun K hK => ?_) AllReadyH.nil)
      refine step_new 23 64 arrB rfl rfl ?_
      intro g8 v3 a3 z3 y3 b3
      have m8 : W.heap.size ≤ g8 := Nat.le_trans hHeld.size a3
      try (have y4 := y4.later b3)
      refine hK.out _ _ (bnext hHeld b3 (Nat.le_refl _)) (fun hHeld => ?_)
      clear hK K
      try simp only [Act.put, List.setIfInBounds_toArray, List.set_cons_zero, List.set_cons_succ]
      refine wpAnyH_ready (rs := [5]) (by kernel_rfl) (by simp) ?_
      refine (AllReadyH.cons (o := { dst := none, op := Op.store 23 (Operand.tmp 8) (Operand.tmp 11), type := 0, pos := _, after := #[{ on := 3, ground := Ground.data }, { on := 0, ground := Ground.data }, { on := 2, ground := Ground.chain }, { on := 0, ground := Ground.phase }, { on := 1, ground := Ground.textOnly Departure.lateStores }, { on := 2, ground := Ground.textOnly Departure.lateStoresUnsure }, { on := 3, ground := Ground.phase }, { on := 4, ground := Ground.phase }], guard := none }) rfl (fun K hK => ?_) AllReadyH.nil)
      refine step_put 23 64 arrB rfl (.tmp 8) (.tmp 11) rfl g8 (by rfl) b.l (by rfl) hb _ y3 (by simp) ?_
      intro v5 y5 s5
      have y4 := y4.step s5 (fun e => rowNe y3 y4 (by simp) e.symm)
      refine hK.out _ _ (((Stp.of_below hHeld (fun x => W.heap.size ≤ x)).next s5 (fun x hx => .inl (by subst hx; exact m8))).below (Nat.le_refl _) (fun _ h => h)) (fun hHeld => ?_)
      clear hK K
      try simp only [Act.put]
      refine wpAnyH_ready (rs := [6]) (by kernel_rfl) (by simp) ?_
      refine (AllReadyH.cons (o := { dst := none, op := Op.store 28 (Operand.tmp 9) (Operand.tmp 13), type := 0, pos := _, after := #[{ on := 4, ground := Ground.data }, { on := 2, ground := Ground.data }, { on := 5, ground := Ground.chain }, { on := 0, ground := Ground.phase }, { on := 1, ground := Ground.phase }, { on := 2, ground := Ground.phase }, { on := 3, ground := Ground.phase }, { on := 4, ground := Ground.phase }, { on := 5, ground := Ground.phase }], guard := none }) rfl (fun K hK => ?_) AllReadyH.nil)
      refine step_st _ _ (.int .u32 (t : Int)) _ rfl _ _ (by rfl) (by rfl) (by rfl) (storeU (x := undef) y4) ?_
      have y6 := y4.set 0 (.int .u32 (t : Int)) rfl
      have s6 := y4.stp 0 (.int .u32 (t : Int))
      have y5 := y5.step s6 (fun e => rowNe y5 y4 (by rw [hb]; simp) e)
      refine hK.out _ _ (((Stp.of_below hHeld (fun x => W.heap.size ≤ x)).next s6 (fun x hx => .inl (by subst hx; exact m9))).below (Nat.le_refl _) (fun _ h => h)) (fun hHeld => ?_)
      clear hK K
      try simp only [Act.put]
      refine wpAnyH_done (by kernel_rfl) ?_ _
      exact tail g8 g9 _ y5 y6 m8 m9 hHeld
    · skip
      refine step_new 23 64 arrB rfl rfl ?_
      intro g8 v3 a3 z3 y3 b3
      have m8 : W.heap.size ≤ g8 := Nat.le_trans hHeld.size a3
      try (have y4 := y4.later b3)
      refine hK.out _ _ (bnext hHeld b3 (Nat.le_refl _)) (fun hHeld => ?_)
      clear hK K
      try simp only [Act.put, List.setIfInBounds_toArray, List.set_cons_zero, List.set_cons_succ]
      refine wpAnyH_ready (rs := [2]) (by kernel_rfl) (by simp) ?_
      refine (AllReadyH.cons (o := { dst := some 13, op := Op.call { callee := Callee.value (Operand.func 11), args := #[Operand.tmp 12], argTypes := #[23] }, type := 28, pos := _, after := #[{ on := 1, ground := Ground.data }], guard := none }) rfl (fun K hK => ?_) AllReadyH.nil)
      go_simp
      refine (HT _).mono ?_
      rintro e v1 ⟨rfl, c1⟩
      try go_wp2_with fail
      try (have y3 := y3.later c1)
      try (have y4 := y4.later c1)
      refine hK.out _ _ (bnext hHeld c1 (Nat.le_refl _)) (fun hHeld => ?_)
      clear hK K
      try simp only [Act.put, List.setIfInBounds_toArray, List.set_cons_zero, List.set_cons_succ]
      refine wpAnyH_ready (rs := [5]) (by kernel_rfl) (by simp) ?_
      refine (AllReadyH.cons (o := { dst := none, op := Op.store 23 (Operand.tmp 8) (Operand.tmp 11), type := 0, pos := _, after := #[{ on := 3, ground := Ground.data }, { on := 0, ground := Ground.data }, { on := 2, ground := Ground.chain }, { on := 0, ground := Ground.phase }, { on := 1, ground := Ground.textOnly Departure.lateStores }, { on := 2, ground := Ground.textOnly Departure.lateStoresUnsure }, { on := 3, ground := Ground.phase }, { on := 4, ground := Ground.phase }], guard := none }) rfl (fun K hK => ?_) AllReadyH.nil)
      refine step_put 23 64 arrB rfl (.tmp 8) (.tmp 11) rfl g8 (by rfl) b.l (by rfl) hb _ y3 (by simp) ?_
      intro v5 y5 s5
      have y4 := y4.step s5 (fun e => rowNe y3 y4 (by simp) e.symm)
      refine hK.out _ _ (((Stp.of_below hHeld (fun x => W.heap.size ≤ x)).next s5 (fun x hx => .inl (by subst hx; exact m8))).below (Nat.le_refl _) (fun _ h => h)) (fun hHeld => ?_)
      clear hK K
      try simp only [Act.put]
      refine wpAnyH_ready (rs := [6]) (by kernel_rfl) (by simp) ?_
      refine (AllReadyH.cons (o := { dst := none, op := Op.store 28 (Operand.tmp 9) (Operand.tmp 13), type := 0, pos := _, after := #[{ on := 4, ground := Ground.data }, { on := 2, ground := Ground.data }, { on := 5, ground := Ground.chain }, { on := 0, ground := Ground.phase }, { on := 1, ground := Ground.phase }, { on := 2, ground := Ground.phase }, { on := 3, ground := Ground.phase }, { on := 4, ground := Ground.phase }, { on := 5, ground := Ground.phase }], guard := none }) rfl (fun K hK => ?_) AllReadyH.nil)
      refine step_st _ _ (.int .u32 (t : Int)) _ rfl _ _ (by rfl) (by rfl) (by rfl) (storeU (x := undef) y4) ?_
      have y6 := y4.set 0 (.int .u32 (t : Int)) rfl
      have s6 := y4.stp 0 (.int .u32 (t : Int))
      have y5 := y5.step s6 (fun e => rowNe y5 y4 (by rw [hb]; simp) e)
      refine hK.out _ _ (((Stp.of_below hHeld (fun x => W.heap.size ≤ x)).next s6 (fun x hx => .inl (by subst hx; exact m9))).below (Nat.le_refl _) (fun _ h => h)) (fun hHeld => ?_)
      clear hK K
      try simp only [Act.put]
      refine wpAnyH_done (by kernel_rfl) ?_ _
      exact tail g8 g9 _ y5 y6 m8 m9 hHeld
end Go.Proofs.Yteceapdkgidenaa
