/-
  What Get of layer 8 returns, for every load, and the document's: no statement is proved here.
-/
import Derived.Test.YtjbgcbokffaemaaSupD
import Derived.Test.YtjbgcbokffaemaaSealE
namespace Go.Proofs.Ytjbgcbokffaemaa
open Go.ChangeShapes Go.WideShapes Go.ChangeAt Go.RowKit
set_option linter.unusedVariables false

/-- How a load is no shape's, or is one's. -/
theorem sg_ways (p : Ld) : ((nums p).err = 2 ∧ sgE p = 22 ∧ sgG p = Gm.zero) ∨ ((nums p).err = 0 ∧ decide (spP (nums p) = p) = false ∧ sgE p = 22 ∧ sgG p = Gm.zero) ∨ ((nums p).err = 0 ∧ decide (spP (nums p) = p) = true ∧ sgE p = 0 ∧ sgG p = nums p) := by
  unfold sgE sgG spP Gm.err
  by_cases h : (nums p).ok
  · simp only [if_pos h]
    by_cases h2 : ldP (nums p) = p
    · exact .inr (.inr ⟨trivial, by simp [h2], if_pos ⟨h, h2⟩, if_pos ⟨h, h2⟩⟩)
    · exact .inr (.inl ⟨trivial, by simp [h2], if_neg (fun e => h2 e.2), if_neg (fun e => h2 e.2)⟩)
  · simp only [if_neg h]
    exact .inl ⟨trivial, if_neg (fun e => h e.1), if_neg (fun e => h e.1)⟩
set_option maxRecDepth 100000 in
set_option maxHeartbeats 4000000 in
theorem sget_any (p : Ld) (w : World) :
    Calls Try.prog 9 #[.agg p.cs.toArray] w fun e w' => e = .returned (.tuple #[gv (sgG p), .int .i64 (sgE p)]) ∧ Below w.heap.size w w' := by
  have hp := p.len
  have hput := sput_any (nums p)
  have hway := sg_ways p
  have heq := eqL (spP (nums p)) p
  have hgl := guardL
  have hlq := (spP (nums p)).len
  generalize spP (nums p) = q at *
  generalize (nums p).err = e0 at *
  generalize decide (q = p) = dd at *
  go_enter Try.func9, Try.ntmps9
  go_wp2_with (first
    | (refine at_box 25 54 arrL (by rfl) _ (by rfl) p.l (by rfl) hp ?_; intro g1 w1 a1 z1 r1 b1)
    | (refine at_newG (by rfl) (by rfl) ?_; intro gr W a2 z2 r2 b2))
  have r := r1.later b2
  have hgr : w.heap.size ≤ gr := by have := b1.size; omega
  have B2 := bnext b1 b2 (Nat.le_refl _)
  clear a1 z1 a2 r1 b1 b2
  refine wp_region_held_drew (S := fun u => Below W.heap.size W u) (by kernel_rfl) (Below.refl _ _).drew (fun hHeld => ?_)
  rename_i K1 hK1
  have tail : ∀ g7 v8, GR v8 g7 (nums p) → Below W.heap.size W v8 → W.heap.size ≤ g7 →
      K1 ⟨#[.agg p.cs.toArray, .pointer (some ⟨g1, 0, none⟩), .pointer (some ⟨gr, 0, none⟩), .int .i64 0, .pointer (some ⟨g7, 0, none⟩), undef, undef, .agg p.cs.toArray, .int .i64 (get2 p.l 4 : Nat), .agg p.cs.toArray, .int .i64 (get2 p.l 6 : Nat), .agg p.cs.toArray, .int .i64 (get2 p.l 8 : Nat),
        .agg #[.int .i64 (get2 p.l 4 : Nat), .int .i64 (get2 p.l 6 : Nat), .int .i64 (get2 p.l 8 : Nat)], undef, undef, undef, undef, undef, undef, undef, undef, undef, undef, undef, undef, undef, undef], []⟩ v8 := by
    intro g7 v8 y8 hH8 m7
    refine hK1 _ _ ?_
    have rr := r2.later hH8
    have rq := r.later hH8
    have B8 := bnext B2 hH8 (Nat.le_refl _)
    clear r2 r hH8 B2
    rcases hway with ⟨rfl, h1, h2⟩ | ⟨rfl, rfl, h1, h2⟩ | ⟨rfl, rfl, h1, h2⟩
    all_goals
      have hE : Hid (sgE p = _ ∧ sgG p = _) := ⟨h1, h2⟩
      clear h1 h2
      go_wp2_with (first
        | (refine at_getG (by rfl) _ (by rfl) g7 (by rfl) (nums p) y8 ?_)
        | (go_at_call 7; refine (hput _).mono ?_; rintro e w3 ⟨rfl, b3⟩)
        | (refine at_new 25 54 arrL (by rfl) (by rfl) ?_; intro gp w4 a4 z4 r4 b4)
        | (refine at_put 25 54 arrL (by rfl) _ _ (by rfl) gp (by rfl) q.l (by rfl) hlq _ r4 (by simp) ?_; intro w5 r5 s5
           have y9 : GR w5 g7 (nums p) := ((y8.later b3).later b4).step s5 (by have := y8.lt; have := b3.size; omega)
           have q9 : Row w5 g1 p.l := ((rq.later b3).later b4).step s5 (by have := rq.lt; have := b3.size; omega)
           have rr9 : GR w5 gr Gm.zero := ((rr.later b3).later b4).step s5 (by have := rr.lt; have := b3.size; omega)
           have S5 : Stp (fun x => w.heap.size ≤ x) w w5 := (Stp.of_below (bnext (bnext B8 b3 (Nat.le_refl _)) b4 (Nat.le_refl _)) _).next s5 (fun x hx => .inl (by subst hx; have := B8.size; have := b3.size; omega))
           clear y8 rq rr B8 b3 b4 a4 z4 r4 s5)
        | (refine at_getL (by rfl) _ (by rfl) gp (by rfl) q r5 ?_)
        | (refine at_getL (by rfl) _ (by rfl) g1 (by rfl) p q9 ?_)
        | (refine at_getG (by rfl) _ (by rfl) g7 (by rfl) (nums p) y9 ?_)
        | (refine at_putG (by rfl) _ _ (by rfl) gr (by rfl) Gm.zero (by rfl) _ rr9 ?_; intro w9 r9 s9)
        | (refine at_putG (by rfl) _ _ (by rfl) gr (by rfl) (nums p) (by rfl) _ rr9 ?_; intro w9 r9 s9))
      refine bodyPost_ret (retGt Try.results9 rfl rfl r9) rfl ⟨by obtain ⟨q1, q2⟩ := hE.out; rw [q1, q2]; rfl, (S5.next s9 (fun x hx => .inl (by subst hx; exact hgr))).below (Nat.le_refl _) (fun _ h => h)⟩
  clear hput hway heq hgl hK1
  refine wpAnyH_take (i := 0) (oi := { dst := some 7, op := Op.load 25 (Operand.tmp 1), type := 25, pos := _, after := #[], guard := none }) (v := .agg p.cs.toArray) rfl (by kernel_rfl) (by kernel_rfl) (by kernel_rfl) (fun _ _ _ h => h)
    (yields_row 25 54 arrL (by rfl) (.tmp 1) rfl g1 (by rfl) p.l hp (fun u hu => r.later hu)) hHeld ?_
  try simp only [Act.put, List.setIfInBounds_toArray, List.set_cons_zero, List.set_cons_succ]
  refine wpAnyH_take (i := 2) (oi := { dst := some 9, op := Op.load 25 (Operand.tmp 1), type := 25, pos := _, after := #[], guard := none }) (v := .agg p.cs.toArray) rfl (by kernel_rfl) (by kernel_rfl) (by kernel_rfl) (fun _ _ _ h => h)
    (yields_row 25 54 arrL (by rfl) (.tmp 1) rfl g1 (by rfl) p.l hp (fun u hu => r.later hu)) hHeld ?_
  try simp only [Act.put, List.setIfInBounds_toArray, List.set_cons_zero, List.set_cons_succ]
  refine wpAnyH_take (i := 4) (oi := { dst := some 11, op := Op.load 25 (Operand.tmp 1), type := 25, pos := _, after := #[], guard := none }) (v := .agg p.cs.toArray) rfl (by kernel_rfl) (by kernel_rfl) (by kernel_rfl) (fun _ _ _ h => h)
    (yields_row 25 54 arrL (by rfl) (.tmp 1) rfl g1 (by rfl) p.l hp (fun u hu => r.later hu)) hHeld ?_
  try simp only [Act.put, List.setIfInBounds_toArray, List.set_cons_zero, List.set_cons_succ]
  refine wpAnyH_ready (rs := [1, 7]) (by kernel_rfl) (by simp) ?_
  refine (AllReadyH.cons (o := { dst := some 8, op := Op.call { callee := Callee.value (Operand.func 25), args := #[Operand.tmp 7, Operand.const (Value.int IntKind.i64 4)], argTypes := #[25, 3] }, type := 3, pos := _, after := #[{ on := 0, ground := Ground.data }], guard := none }) rfl (fun K hK => ?_) (AllReadyH.cons (o := { dst := some 4, op := Op.alloc 23, type := 0, pos := _, after := #[], guard := none }) rfl (fun K hK => ?_) AllReadyH.nil))
  · skip
    go_simp
    refine (getAt_any p 4 _ (by omega)).mono ?_
    rintro e v1 ⟨rfl, c1⟩
    try go_wp2_with fail
    try (have y7 := y7.later c1)
    refine hK.out _ _ (bnext hHeld c1 (Nat.le_refl _)) (fun hHeld => ?_)
    clear hK K
    try simp only [Act.put, List.setIfInBounds_toArray, List.set_cons_zero, List.set_cons_succ]
    refine wpAnyH_ready (rs := [3, 7]) (by kernel_rfl) (by simp) ?_
    refine (AllReadyH.cons (o := { dst := some 10, op := Op.call { callee := Callee.value (Operand.func 25), args := #[Operand.tmp 9, Operand.const (Value.int IntKind.i64 6)], argTypes := #[25, 3] }, type := 3, pos := _, after := #[{ on := 2, ground := Ground.data }, { on := 1, ground := Ground.chain }], guard := none }) rfl (fun K hK => ?_) (AllReadyH.cons (o := { dst := some 4, op := Op.alloc 23, type := 0, pos := _, after := #[], guard := none }) rfl (fun K hK => ?_) AllReadyH.nil))
    · skip
      go_simp
      refine (getAt_any p 6 _ (by omega)).mono ?_
      rintro e v3 ⟨rfl, c3⟩
      try go_wp2_with fail
      try (have y7 := y7.later c3)
      refine hK.out _ _ (bnext hHeld c3 (Nat.le_refl _)) (fun hHeld => ?_)
      clear hK K
      try simp only [Act.put, List.setIfInBounds_toArray, List.set_cons_zero, List.set_cons_succ]
      refine wpAnyH_ready (rs := [5, 7]) (by kernel_rfl) (by simp) ?_
      refine (AllReadyH.cons (o := { dst := some 12, op := Op.call { callee := Callee.value (Operand.func 25), args := #[Operand.tmp 11, Operand.const (Value.int IntKind.i64 8)], argTypes := #[25, 3] }, type := 3, pos := _, after := #[{ on := 4, ground := Ground.data }, { on := 3, ground := Ground.chain }], guard := none }) rfl (fun K hK => ?_) (AllReadyH.cons (o := { dst := some 4, op := Op.alloc 23, type := 0, pos := _, after := #[], guard := none }) rfl (fun K hK => ?_) AllReadyH.nil))
      · skip
        go_simp
        refine (getAt_any p 8 _ (by omega)).mono ?_
        rintro e v5 ⟨rfl, c5⟩
        try go_wp2_with fail
        try (have y7 := y7.later c5)
        refine hK.out _ _ (bnext hHeld c5 (Nat.le_refl _)) (fun hHeld => ?_)
        clear hK K
        try simp only [Act.put, List.setIfInBounds_toArray, List.set_cons_zero, List.set_cons_succ]
        refine wpAnyH_take (i := 6) (oi := { dst := some 13, op := Op.build 23 #[(0, Operand.tmp 8), (1, Operand.tmp 10), (2, Operand.tmp 12)], type := 23, pos := _, after := #[{ on := 1, ground := Ground.data }, { on := 3, ground := Ground.data }, { on := 5, ground := Ground.data }], guard := none }) (v := .agg #[.int .i64 (get2 p.l 4 : Nat), .int .i64 (get2 p.l 6 : Nat), .int .i64 (get2 p.l 8 : Nat)]) rfl (by kernel_rfl) (by kernel_rfl) (by kernel_rfl) (fun _ _ _ h => h) (Or.inl ⟨by rfl, ?_⟩) hHeld ?_
        · intro u hu
          go_simp
        try simp only [Act.put, List.setIfInBounds_toArray, List.set_cons_zero, List.set_cons_succ]
        refine wpAnyH_ready (rs := [7]) (by kernel_rfl) (by simp) ?_
        refine (AllReadyH.cons (o := { dst := some 4, op := Op.alloc 23, type := 0, pos := _, after := #[], guard := none }) rfl (fun K hK => ?_) AllReadyH.nil)
        refine step_newG rfl rfl ?_
        intro g7 v7 a7 z7 y7 b7
        have m7 : W.heap.size ≤ g7 := Nat.le_trans hHeld.size a7
        refine hK.out _ _ (bnext hHeld b7 (Nat.le_refl _)) (fun hHeld => ?_)
        clear hK K
        try simp only [Act.put, List.setIfInBounds_toArray, List.set_cons_zero, List.set_cons_succ]
        refine wpAnyH_ready (rs := [8]) (by kernel_rfl) (by simp) ?_
        refine (AllReadyH.cons (o := { dst := none, op := Op.store 23 (Operand.tmp 4) (Operand.tmp 13), type := 0, pos := _, after := #[{ on := 7, ground := Ground.data }, { on := 6, ground := Ground.data }, { on := 5, ground := Ground.chain }, { on := 0, ground := Ground.phase }, { on := 1, ground := Ground.phase }, { on := 2, ground := Ground.phase }, { on := 3, ground := Ground.phase }, { on := 4, ground := Ground.phase }, { on := 5, ground := Ground.phase }, { on := 6, ground := Ground.phase }, { on := 7, ground := Ground.phase }], guard := none }) rfl (fun K hK => ?_) AllReadyH.nil)
        refine step_putG rfl (.tmp 4) (.tmp 13) rfl g7 (by rfl) (nums p) (by rfl) Gm.zero y7 ?_
        intro v8 y8 s8
        refine hK.out _ _ (((Stp.of_below hHeld (fun x => W.heap.size ≤ x)).next s8 (fun x hx => .inl (by subst hx; exact m7))).below (Nat.le_refl _) (fun _ h => h)) (fun hHeld => ?_)
        clear hK K
        try simp only [Act.put]
        refine wpAnyH_done (by kernel_rfl) ?_ _
        exact tail g7 v8 y8 hHeld m7
      · skip
        refine step_newG rfl rfl ?_
        intro g7 v7 a7 z7 y7 b7
        have m7 : W.heap.size ≤ g7 := Nat.le_trans hHeld.size a7
        refine hK.out _ _ (bnext hHeld b7 (Nat.le_refl _)) (fun hHeld => ?_)
        clear hK K
        try simp only [Act.put, List.setIfInBounds_toArray, List.set_cons_zero, List.set_cons_succ]
        refine wpAnyH_ready (rs := [5]) (by kernel_rfl) (by simp) ?_
        refine (AllReadyH.cons (o := { dst := some 12, op := Op.call { callee := Callee.value (Operand.func 25), args := #[Operand.tmp 11, Operand.const (Value.int IntKind.i64 8)], argTypes := #[25, 3] }, type := 3, pos := _, after := #[{ on := 4, ground := Ground.data }, { on := 3, ground := Ground.chain }], guard := none }) rfl (fun K hK => ?_) AllReadyH.nil)
        go_simp
        refine (getAt_any p 8 _ (by omega)).mono ?_
        rintro e v5 ⟨rfl, c5⟩
        try go_wp2_with fail
        try (have y7 := y7.later c5)
        refine hK.out _ _ (bnext hHeld c5 (Nat.le_refl _)) (fun hHeld => ?_)
        clear hK K
        try simp only [Act.put, List.setIfInBounds_toArray, List.set_cons_zero, List.set_cons_succ]
        refine wpAnyH_take (i := 6) (oi := { dst := some 13, op := Op.build 23 #[(0, Operand.tmp 8), (1, Operand.tmp 10), (2, Operand.tmp 12)], type := 23, pos := _, after := #[{ on := 1, ground := Ground.data }, { on := 3, ground := Ground.data }, { on := 5, ground := Ground.data }], guard := none }) (v := .agg #[.int .i64 (get2 p.l 4 : Nat), .int .i64 (get2 p.l 6 : Nat), .int .i64 (get2 p.l 8 : Nat)]) rfl (by kernel_rfl) (by kernel_rfl) (by kernel_rfl) (fun _ _ _ h => h) (Or.inl ⟨by rfl, ?_⟩) hHeld ?_
        · intro u hu
          go_simp
        try simp only [Act.put, List.setIfInBounds_toArray, List.set_cons_zero, List.set_cons_succ]
        refine wpAnyH_ready (rs := [8]) (by kernel_rfl) (by simp) ?_
        refine (AllReadyH.cons (o := { dst := none, op := Op.store 23 (Operand.tmp 4) (Operand.tmp 13), type := 0, pos := _, after := #[{ on := 7, ground := Ground.data }, { on := 6, ground := Ground.data }, { on := 5, ground := Ground.chain }, { on := 0, ground := Ground.phase }, { on := 1, ground := Ground.phase }, { on := 2, ground := Ground.phase }, { on := 3, ground := Ground.phase }, { on := 4, ground := Ground.phase }, { on := 5, ground := Ground.phase }, { on := 6, ground := Ground.phase }, { on := 7, ground := Ground.phase }], guard := none }) rfl (fun K hK => ?_) AllReadyH.nil)
        refine step_putG rfl (.tmp 4) (.tmp 13) rfl g7 (by rfl) (nums p) (by rfl) Gm.zero y7 ?_
        intro v8 y8 s8
        refine hK.out _ _ (((Stp.of_below hHeld (fun x => W.heap.size ≤ x)).next s8 (fun x hx => .inl (by subst hx; exact m7))).below (Nat.le_refl _) (fun _ h => h)) (fun hHeld => ?_)
        clear hK K
        try simp only [Act.put]
        refine wpAnyH_done (by kernel_rfl) ?_ _
        exact tail g7 v8 y8 hHeld m7
    · skip
      refine step_newG rfl rfl ?_
      intro g7 v7 a7 z7 y7 b7
      have m7 : W.heap.size ≤ g7 := Nat.le_trans hHeld.size a7
      refine hK.out _ _ (bnext hHeld b7 (Nat.le_refl _)) (fun hHeld => ?_)
      clear hK K
      try simp only [Act.put, List.setIfInBounds_toArray, List.set_cons_zero, List.set_cons_succ]
      refine wpAnyH_ready (rs := [3]) (by kernel_rfl) (by simp) ?_
      refine (AllReadyH.cons (o := { dst := some 10, op := Op.call { callee := Callee.value (Operand.func 25), args := #[Operand.tmp 9, Operand.const (Value.int IntKind.i64 6)], argTypes := #[25, 3] }, type := 3, pos := _, after := #[{ on := 2, ground := Ground.data }, { on := 1, ground := Ground.chain }], guard := none }) rfl (fun K hK => ?_) AllReadyH.nil)
      go_simp
      refine (getAt_any p 6 _ (by omega)).mono ?_
      rintro e v3 ⟨rfl, c3⟩
      try go_wp2_with fail
      try (have y7 := y7.later c3)
      refine hK.out _ _ (bnext hHeld c3 (Nat.le_refl _)) (fun hHeld => ?_)
      clear hK K
      try simp only [Act.put, List.setIfInBounds_toArray, List.set_cons_zero, List.set_cons_succ]
      refine wpAnyH_ready (rs := [5]) (by kernel_rfl) (by simp) ?_
      refine (AllReadyH.cons (o := { dst := some 12, op := Op.call { callee := Callee.value (Operand.func 25), args := #[Operand.tmp 11, Operand.const (Value.int IntKind.i64 8)], argTypes := #[25, 3] }, type := 3, pos := _, after := #[{ on := 4, ground := Ground.data }, { on := 3, ground := Ground.chain }], guard := none }) rfl (fun K hK => ?_) AllReadyH.nil)
      go_simp
      refine (getAt_any p 8 _ (by omega)).mono ?_
      rintro e v5 ⟨rfl, c5⟩
      try go_wp2_with fail
      try (have y7 := y7.later c5)
      refine hK.out _ _ (bnext hHeld c5 (Nat.le_refl _)) (fun hHeld => ?_)
      clear hK K
      try simp only [Act.put, List.setIfInBounds_toArray, List.set_cons_zero, List.set_cons_succ]
      refine wpAnyH_take (i := 6) (oi := { dst := some 13, op := Op.build 23 #[(0, Operand.tmp 8), (1, Operand.tmp 10), (2, Operand.tmp 12)], type := 23, pos := _, after := #[{ on := 1, ground := Ground.data }, { on := 3, ground := Ground.data }, { on := 5, ground := Ground.data }], guard := none }) (v := .agg #[.int .i64 (get2 p.l 4 : Nat), .int .i64 (get2 p.l 6 : Nat), .int .i64 (get2 p.l 8 : Nat)]) rfl (by kernel_rfl) (by kernel_rfl) (by kernel_rfl) (fun _ _ _ h => h) (Or.inl ⟨by rfl, ?_⟩) hHeld ?_
      · intro u hu
        go_simp
      try simp only [Act.put, List.setIfInBounds_toArray, List.set_cons_zero, List.set_cons_succ]
      refine wpAnyH_ready (rs := [8]) (by kernel_rfl) (by simp) ?_
      refine (AllReadyH.cons (o := { dst := none, op := Op.store 23 (Operand.tmp 4) (Operand.tmp 13), type := 0, pos := _, after := #[{ on := 7, ground := Ground.data }, { on := 6, ground := Ground.data }, { on := 5, ground := Ground.chain }, { on := 0, ground := Ground.phase }, { on := 1, ground := Ground.phase }, { on := 2, ground := Ground.phase }, { on := 3, ground := Ground.phase }, { on := 4, ground := Ground.phase }, { on := 5, ground := Ground.phase }, { on := 6, ground := Ground.phase }, { on := 7, ground := Ground.phase }], guard := none }) rfl (fun K hK => ?_) AllReadyH.nil)
      refine step_putG rfl (.tmp 4) (.tmp 13) rfl g7 (by rfl) (nums p) (by rfl) Gm.zero y7 ?_
      intro v8 y8 s8
      refine hK.out _ _ (((Stp.of_below hHeld (fun x => W.heap.size ≤ x)).next s8 (fun x hx => .inl (by subst hx; exact m7))).below (Nat.le_refl _) (fun _ h => h)) (fun hHeld => ?_)
      clear hK K
      try simp only [Act.put]
      refine wpAnyH_done (by kernel_rfl) ?_ _
      exact tail g7 v8 y8 hHeld m7
  · skip
    refine step_newG rfl rfl ?_
    intro g7 v7 a7 z7 y7 b7
    have m7 : W.heap.size ≤ g7 := Nat.le_trans hHeld.size a7
    refine hK.out _ _ (bnext hHeld b7 (Nat.le_refl _)) (fun hHeld => ?_)
    clear hK K
    try simp only [Act.put, List.setIfInBounds_toArray, List.set_cons_zero, List.set_cons_succ]
    refine wpAnyH_ready (rs := [1]) (by kernel_rfl) (by simp) ?_
    refine (AllReadyH.cons (o := { dst := some 8, op := Op.call { callee := Callee.value (Operand.func 25), args := #[Operand.tmp 7, Operand.const (Value.int IntKind.i64 4)], argTypes := #[25, 3] }, type := 3, pos := _, after := #[{ on := 0, ground := Ground.data }], guard := none }) rfl (fun K hK => ?_) AllReadyH.nil)
    go_simp
    refine (getAt_any p 4 _ (by omega)).mono ?_
    rintro e v1 ⟨rfl, c1⟩
    try go_wp2_with fail
    try (have y7 := y7.later c1)
    refine hK.out _ _ (bnext hHeld c1 (Nat.le_refl _)) (fun hHeld => ?_)
    clear hK K
    try simp only [Act.put, List.setIfInBounds_toArray, List.set_cons_zero, List.set_cons_succ]
    refine wpAnyH_ready (rs := [3]) (by kernel_rfl) (by simp) ?_
    refine (AllReadyH.cons (o := { dst := some 10, op := Op.call { callee := Callee.value (Operand.func 25), args := #[Operand.tmp 9, Operand.const (Value.int IntKind.i64 6)], argTypes := #[25, 3] }, type := 3, pos := _, after := #[{ on := 2, ground := Ground.data }, { on := 1, ground := Ground.chain }], guard := none }) rfl (fun K hK => ?_) AllReadyH.nil)
    go_simp
    refine (getAt_any p 6 _ (by omega)).mono ?_
    rintro e v3 ⟨rfl, c3⟩
    try go_wp2_with fail
    try (have y7 := y7.later c3)
    refine hK.out _ _ (bnext hHeld c3 (Nat.le_refl _)) (fun hHeld => ?_)
    clear hK K
    try simp only [Act.put, List.setIfInBounds_toArray, List.set_cons_zero, List.set_cons_succ]
    refine wpAnyH_ready (rs := [5]) (by kernel_rfl) (by simp) ?_
    refine (AllReadyH.cons (o := { dst := some 12, op := Op.call { callee := Callee.value (Operand.func 25), args := #[Operand.tmp 11, Operand.const (Value.int IntKind.i64 8)], argTypes := #[25, 3] }, type := 3, pos := _, after := #[{ on := 4, ground := Ground.data }, { on := 3, ground := Ground.chain }], guard := none }) rfl (fun K hK => ?_) AllReadyH.nil)
    go_simp
    refine (getAt_any p 8 _ (by omega)).mono ?_
    rintro e v5 ⟨rfl, c5⟩
    try go_wp2_with fail
    try (have y7 := y7.later c5)
    refine hK.out _ _ (bnext hHeld c5 (Nat.le_refl _)) (fun hHeld => ?_)
    clear hK K
    try simp only [Act.put, List.setIfInBounds_toArray, List.set_cons_zero, List.set_cons_succ]
    refine wpAnyH_take (i := 6) (oi := { dst := some 13, op := Op.build 23 #[(0, Operand.tmp 8), (1, Operand.tmp 10), (2, Operand.tmp 12)], type := 23, pos := _, after := #[{ on := 1, ground := Ground.data }, { on := 3, ground := Ground.data }, { on := 5, ground := Ground.data }], guard := none }) (v := .agg #[.int .i64 (get2 p.l 4 : Nat), .int .i64 (get2 p.l 6 : Nat), .int .i64 (get2 p.l 8 : Nat)]) rfl (by kernel_rfl) (by kernel_rfl) (by kernel_rfl) (fun _ _ _ h => h) (Or.inl ⟨by rfl, ?_⟩) hHeld ?_
    · intro u hu
      go_simp
    try simp only [Act.put, List.setIfInBounds_toArray, List.set_cons_zero, List.set_cons_succ]
    refine wpAnyH_ready (rs := [8]) (by kernel_rfl) (by simp) ?_
    refine (AllReadyH.cons (o := { dst := none, op := Op.store 23 (Operand.tmp 4) (Operand.tmp 13), type := 0, pos := _, after := #[{ on := 7, ground := Ground.data }, { on := 6, ground := Ground.data }, { on := 5, ground := Ground.chain }, { on := 0, ground := Ground.phase }, { on := 1, ground := Ground.phase }, { on := 2, ground := Ground.phase }, { on := 3, ground := Ground.phase }, { on := 4, ground := Ground.phase }, { on := 5, ground := Ground.phase }, { on := 6, ground := Ground.phase }, { on := 7, ground := Ground.phase }], guard := none }) rfl (fun K hK => ?_) AllReadyH.nil)
    refine step_putG rfl (.tmp 4) (.tmp 13) rfl g7 (by rfl) (nums p) (by rfl) Gm.zero y7 ?_
    intro v8 y8 s8
    refine hK.out _ _ (((Stp.of_below hHeld (fun x => W.heap.size ≤ x)).next s8 (fun x hx => .inl (by subst hx; exact m7))).below (Nat.le_refl _) (fun _ h => h)) (fun hHeld => ?_)
    clear hK K
    try simp only [Act.put]
    refine wpAnyH_done (by kernel_rfl) ?_ _
    exact tail g7 v8 y8 hHeld m7
end Go.Proofs.Ytjbgcbokffaemaa
