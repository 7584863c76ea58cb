/-
  Texts of my own, joined: no statement is proved here.
-/
import Derived.Test.YtgdnhkdfcjpdiaaGreatDoorJbh
set_option linter.unusedSimpArgs false
set_option linter.unusedVariables false
namespace Go.Proofs.YtgdnhkdfcjpdiaaGreatDoor
open Go.ChangeShapes Go.WideShapes Go.ChangeAt Go.RowKit
set_option maxRecDepth 100000
theorem sg_ways (p : Ld) : ((nums p).err = 2 ∧ sgE p = 22 ∧ sgG p = Gm.zero) ∨ ((nums p).err = 0 ∧ decide (spP (nums p) = p) = false ∧ sgE p = 22 ∧ sgG p = Gm.zero) ∨ ((nums p).err = 0 ∧ decide (spP (nums p) = p) = true ∧ sgE p = 0 ∧ sgG p = nums p) := by
  unfold sgE sgG spP Gm.err
  by_cases h : (nums p).ok
  · simp only [if_pos h]
    by_cases h2 : ldP (nums p) = p
    · exact .inr (.inr ⟨trivial, by simp [h2], if_pos ⟨h, h2⟩, if_pos ⟨h, h2⟩⟩)
    · exact .inr (.inl ⟨trivial, by simp [h2], if_neg (fun e => h2 e.2), if_neg (fun e => h2 e.2)⟩)
  · simp only [if_neg h]
    exact .inl ⟨trivial, if_neg (fun e => h e.1), if_neg (fun e => h e.1)⟩
set_option maxRecDepth 100000 in
set_option maxHeartbeats 4000000 in
theorem sget_any (p : Ld) (w : World) :
    Calls Tryz.prog 108 #[.agg p.cs.toArray] w fun e w' => e = .returned (.tuple #[gv (sgG p), .int .i64 (sgE p)]) ∧ Below w.heap.size w w' := by
  have hp := p.len
  have hput := sput_any (nums p)
  have hway := sg_ways p
  have heq := eqL (spP (nums p)) p
  have hgl := guardL
  have hlq := (spP (nums p)).len
  generalize spP (nums p) = q at *
  generalize (nums p).err = e0 at *
  generalize decide (q = p) = dd at *
  go_enter Tryz.func108, Tryz.ntmps108
  go_wp2_with (first
    | (refine at_box 62 54 arrL (by rfl) _ (by rfl) p.l (by rfl) hp ?_; intro g1 w1 a1 z1 r1 b1)
    | (refine at_newG (by rfl) (by rfl) ?_; intro gr W a2 z2 r2 b2))
  have r := r1.later b2
  have hgr : w.heap.size ≤ gr := by have := b1.size; omega
  have B2 := bnext b1 b2 (Nat.le_refl _)
  clear a1 z1 a2 r1 b1 b2
  refine wp_region_held_drew (S := fun u => Below W.heap.size W u) (by kernel_rfl) (Below.refl _ _).drew (fun hHeld => ?_)
  rename_i K1 hK1
  have tail : ∀ g7 v8, GR v8 g7 (nums p) → Below W.heap.size W v8 → W.heap.size ≤ g7 →
      K1 ⟨#[.agg p.cs.toArray, .pointer (some ⟨g1, 0, none⟩), .pointer (some ⟨gr, 0, none⟩), .int .i64 0, .pointer (some ⟨g7, 0, none⟩), undef, undef, .agg p.cs.toArray, .int .i64 (get2 p.l 4 : Nat), .agg p.cs.toArray, .int .i64 (get2 p.l 6 : Nat), .agg p.cs.toArray, .int .i64 (get2 p.l 8 : Nat),
        .agg #[.int .i64 (get2 p.l 4 : Nat), .int .i64 (get2 p.l 6 : Nat), .int .i64 (get2 p.l 8 : Nat)], undef, undef, undef, undef, undef, undef, undef, undef, undef, undef, undef, undef, undef, undef], []⟩ v8 := by
    intro g7 v8 y8 hH8 m7
    refine hK1 _ _ ?_
    have rr := r2.later hH8
    have rq := r.later hH8
    have B8 := bnext B2 hH8 (Nat.le_refl _)
    clear r2 r hH8 B2
    rcases hway with ⟨rfl, h1, h2⟩ | ⟨rfl, rfl, h1, h2⟩ | ⟨rfl, rfl, h1, h2⟩
    all_goals
      have hE : Hid (sgE p = _ ∧ sgG p = _) := ⟨h1, h2⟩
      clear h1 h2
      go_wp2_with (first
        | (refine at_getG (by rfl) _ (by rfl) g7 (by rfl) (nums p) y8 ?_)
        | (go_at_call 135; refine (hput _).mono ?_; rintro e w3 ⟨rfl, b3⟩)
        | (refine at_new 62 54 arrL (by rfl) (by rfl) ?_; intro gp w4 a4 z4 r4 b4)
        | (refine at_put 62 54 arrL (by rfl) _ _ (by rfl) gp (by rfl) q.l (by rfl) hlq _ r4 (by simp) ?_; intro w5 r5 s5
           have y9 : GR w5 g7 (nums p) := ((y8.later b3).later b4).step s5 (by have := y8.lt; have := b3.size; omega)
           have q9 : Row w5 g1 p.l := ((rq.later b3).later b4).step s5 (by have := rq.lt; have := b3.size; omega)
           have rr9 : GR w5 gr Gm.zero := ((rr.later b3).later b4).step s5 (by have := rr.lt; have := b3.size; omega)
           have S5 : Stp (fun x => w.heap.size ≤ x) w w5 := (Stp.of_below (bnext (bnext B8 b3 (Nat.le_refl _)) b4 (Nat.le_refl _)) _).next s5 (fun x hx => .inl (by subst hx; have := B8.size; have := b3.size; omega))
           clear y8 rq rr B8 b3 b4 a4 z4 r4 s5)
        | (refine at_getL (by rfl) _ (by rfl) gp (by rfl) q r5 ?_)
        | (refine at_getL (by rfl) _ (by rfl) g1 (by rfl) p q9 ?_)
        | (refine at_getG (by rfl) _ (by rfl) g7 (by rfl) (nums p) y9 ?_)
        | (refine at_putG (by rfl) _ _ (by rfl) gr (by rfl) Gm.zero (by rfl) _ rr9 ?_; intro w9 r9 s9)
        | (refine at_putG (by rfl) _ _ (by rfl) gr (by rfl) (nums p) (by rfl) _ rr9 ?_; intro w9 r9 s9))
      refine bodyPost_ret (retGt Tryz.results108 rfl rfl r9) rfl ⟨by obtain ⟨q1, q2⟩ := hE.out; rw [q1, q2]; rfl, (S5.next s9 (fun x hx => .inl (by subst hx; exact hgr))).below (Nat.le_refl _) (fun _ h => h)⟩
  clear hput hway heq hgl hK1
  refine tm 0 (.agg p.cs.toArray) rfl
    (yields_row 62 54 arrL (by rfl) (.tmp 1) rfl g1 (by rfl) p.l hp (fun u hu => r.later hu)) ?_
  try simp only [z]
  refine tm 2 (.agg p.cs.toArray) rfl
    (yields_row 62 54 arrL (by rfl) (.tmp 1) rfl g1 (by rfl) p.l hp (fun u hu => r.later hu)) ?_
  try simp only [z]
  refine tm 4 (.agg p.cs.toArray) rfl
    (yields_row 62 54 arrL (by rfl) (.tmp 1) rfl g1 (by rfl) p.l hp (fun u hu => r.later hu)) ?_
  try simp only [z]
  refine wpAnyH_ready (rs := [1, 7]) (by kernel_rfl) (by simp) ?_
  refine (AllReadyH.cons (o := ⟨some 8, .call { callee := Callee.value (.func 134), args := #[.tmp 7, .const (Value.int IntKind.i64 4)], argTypes := #[62, 3] }, 3, _, #[⟨0, .data⟩], none⟩) rfl (fun K hK => ?_) (AllReadyH.cons (o := ⟨some 4, .alloc 43, 0, _, #[], none⟩) rfl (fun K hK => ?_) AllReadyH.nil))
  · skip
    go_simp
    refine (getAt_any p 4 _ (by omega)).mono ?_
    rintro e v1 ⟨rfl, c1⟩
    try go_wp2_with fail
    try (have y7 := y7.later c1)
    refine hK.out _ _ (bnext hHeld c1 (Nat.le_refl _)) (fun hHeld => ?_)
    clear hK K
    try simp only [z]
    refine wpAnyH_ready (rs := [3, 7]) (by kernel_rfl) (by simp) ?_
    refine (AllReadyH.cons (o := ⟨some 10, .call { callee := Callee.value (.func 134), args := #[.tmp 9, .const (Value.int IntKind.i64 6)], argTypes := #[62, 3] }, 3, _, #[⟨2, .data⟩, ⟨1, .chain⟩], none⟩) rfl (fun K hK => ?_) (AllReadyH.cons (o := ⟨some 4, .alloc 43, 0, _, #[], none⟩) rfl (fun K hK => ?_) AllReadyH.nil))
    · skip
      go_simp
      refine (getAt_any p 6 _ (by omega)).mono ?_
      rintro e v3 ⟨rfl, c3⟩
      try go_wp2_with fail
      try (have y7 := y7.later c3)
      refine hK.out _ _ (bnext hHeld c3 (Nat.le_refl _)) (fun hHeld => ?_)
      clear hK K
      try simp only [z]
      refine wpAnyH_ready (rs := [5, 7]) (by kernel_rfl) (by simp) ?_
      refine (AllReadyH.cons (o := ⟨some 12, .call { callee := Callee.value (.func 134), args := #[.tmp 11, .const (Value.int IntKind.i64 8)], argTypes := #[62, 3] }, 3, _, #[⟨4, .data⟩, ⟨3, .chain⟩], none⟩) rfl (fun K hK => ?_) (AllReadyH.cons (o := ⟨some 4, .alloc 43, 0, _, #[], none⟩) rfl (fun K hK => ?_) AllReadyH.nil))
      · skip
        go_simp
        refine (getAt_any p 8 _ (by omega)).mono ?_
        rintro e v5 ⟨rfl, c5⟩
        try go_wp2_with fail
        try (have y7 := y7.later c5)
        refine hK.out _ _ (bnext hHeld c5 (Nat.le_refl _)) (fun hHeld => ?_)
        clear hK K
        try simp only [z]
        refine tl 6 (.agg #[.int .i64 (get2 p.l 4 : Nat), .int .i64 (get2 p.l 6 : Nat), .int .i64 (get2 p.l 8 : Nat)]) rfl ?_
        try simp only [z]
        refine rd 7 rfl (fun K hK => ?_)
        refine step_newG rfl rfl ?_
        intro g7 v7 a7 z7 y7 b7
        have m7 : W.heap.size ≤ g7 := Nat.le_trans hHeld.size a7
        refine hK.out _ _ (bnext hHeld b7 (Nat.le_refl _)) (fun hHeld => ?_)
        clear hK K
        try simp only [z]
        refine rd 8 rfl (fun K hK => ?_)
        refine step_putG rfl (.tmp 4) (.tmp 13) rfl g7 (by rfl) (nums p) (by rfl) Gm.zero y7 ?_
        intro v8 y8 s8
        refine hK.out _ _ (((Stp.of_below hHeld (fun x => W.heap.size ≤ x)).next s8 (fun x hx => .inl (by subst hx; exact m7))).below (Nat.le_refl _) (fun _ h => h)) (fun hHeld => ?_)
        clear hK K
        try simp only [Act.put]
        refine wpAnyH_done (by kernel_rfl) ?_ _
        exact tail g7 v8 y8 hHeld m7
      · skip
        refine step_newG rfl rfl ?_
        intro g7 v7 a7 z7 y7 b7
        have m7 : W.heap.size ≤ g7 := Nat.le_trans hHeld.size a7
        refine hK.out _ _ (bnext hHeld b7 (Nat.le_refl _)) (fun hHeld => ?_)
        clear hK K
        try simp only [z]
        refine rd 5 rfl (fun K hK => ?_)
        go_simp
        refine (getAt_any p 8 _ (by omega)).mono ?_
        rintro e v5 ⟨rfl, c5⟩
        try go_wp2_with fail
        try (have y7 := y7.later c5)
        refine hK.out _ _ (bnext hHeld c5 (Nat.le_refl _)) (fun hHeld => ?_)
        clear hK K
        try simp only [z]
        refine tl 6 (.agg #[.int .i64 (get2 p.l 4 : Nat), .int .i64 (get2 p.l 6 : Nat), .int .i64 (get2 p.l 8 : Nat)]) rfl ?_
        try simp only [z]
        refine rd 8 rfl (fun K hK => ?_)
        refine step_putG rfl (.tmp 4) (.tmp 13) rfl g7 (by rfl) (nums p) (by rfl) Gm.zero y7 ?_
        intro v8 y8 s8
        refine hK.out _ _ (((Stp.of_below hHeld (fun x => W.heap.size ≤ x)).next s8 (fun x hx => .inl (by subst hx; exact m7))).below (Nat.le_refl _) (fun _ h => h)) (fun hHeld => ?_)
        clear hK K
        try simp only [Act.put]
        refine wpAnyH_done (by kernel_rfl) ?_ _
        exact tail g7 v8 y8 hHeld m7
    · skip
      refine step_newG rfl rfl ?_
      intro g7 v7 a7 z7 y7 b7
      have m7 : W.heap.size ≤ g7 := Nat.le_trans hHeld.size a7
      refine hK.out _ _ (bnext hHeld b7 (Nat.le_refl _)) (fun hHeld => ?_)
      clear hK K
      try simp only [z]
      refine rd 3 rfl (fun K hK => ?_)
      go_simp
      refine (getAt_any p 6 _ (by omega)).mono ?_
      rintro e v3 ⟨rfl, c3⟩
      try go_wp2_with fail
      try (have y7 := y7.later c3)
      refine hK.out _ _ (bnext hHeld c3 (Nat.le_refl _)) (fun hHeld => ?_)
      clear hK K
      try simp only [z]
      refine rd 5 rfl (fun K hK => ?_)
      go_simp
      refine (getAt_any p 8 _ (by omega)).mono ?_
      rintro e v5 ⟨rfl, c5⟩
      try go_wp2_with fail
      try (have y7 := y7.later c5)
      refine hK.out _ _ (bnext hHeld c5 (Nat.le_refl _)) (fun hHeld => ?_)
      clear hK K
      try simp only [z]
      refine tl 6 (.agg #[.int .i64 (get2 p.l 4 : Nat), .int .i64 (get2 p.l 6 : Nat), .int .i64 (get2 p.l 8 : Nat)]) rfl ?_
      try simp only [z]
      refine rd 8 rfl (fun K hK => ?_)
      refine step_putG rfl (.tmp 4) (.tmp 13) rfl g7 (by rfl) (nums p) (by rfl) Gm.zero y7 ?_
      intro v8 y8 s8
      refine hK.out _ _ (((Stp.of_below hHeld (fun x => W.heap.size ≤ x)).next s8 (fun x hx => .inl (by subst hx; exact m7))).below (Nat.le_refl _) (fun _ h => h)) (fun hHeld => ?_)
      clear hK K
      try simp only [Act.put]
      refine wpAnyH_done (by kernel_rfl) ?_ _
      exact tail g7 v8 y8 hHeld m7
  · skip
    refine step_newG rfl rfl ?_
    intro g7 v7 a7 z7 y7 b7
    have m7 : W.heap.size ≤ g7 := Nat.le_trans hHeld.size a7
    refine hK.out _ _ (bnext hHeld b7 (Nat.le_refl _)) (fun hHeld => ?_)
    clear hK K
    try simp only [z]
    refine rd 1 rfl (fun K hK => ?_)
    go_simp
    refine (getAt_any p 4 _ (by omega)).mono ?_
    rintro e v1 ⟨rfl, c1⟩
    try go_wp2_with fail
    try (have y7 := y7.later c1)
    refine hK.out _ _ (bnext hHeld c1 (Nat.le_refl _)) (fun hHeld => ?_)
    clear hK K
    try simp only [z]
    refine rd 3 rfl (fun K hK => ?_)
    go_simp
    refine (getAt_any p 6 _ (by omega)).mono ?_
    rintro e v3 ⟨rfl, c3⟩
    try go_wp2_with fail
    try (have y7 := y7.later c3)
    refine hK.out _ _ (bnext hHeld c3 (Nat.le_refl _)) (fun hHeld => ?_)
    clear hK K
    try simp only [z]
    refine rd 5 rfl (fun K hK => ?_)
    go_simp
    refine (getAt_any p 8 _ (by omega)).mono ?_
    rintro e v5 ⟨rfl, c5⟩
    try go_wp2_with fail
    try (have y7 := y7.later c5)
    refine hK.out _ _ (bnext hHeld c5 (Nat.le_refl _)) (fun hHeld => ?_)
    clear hK K
    try simp only [z]
    refine tl 6 (.agg #[.int .i64 (get2 p.l 4 : Nat), .int .i64 (get2 p.l 6 : Nat), .int .i64 (get2 p.l 8 : Nat)]) rfl ?_
    try simp only [z]
    refine rd 8 rfl (fun K hK => ?_)
    refine step_putG rfl (.tmp 4) (.tmp 13) rfl g7 (by rfl) (nums p) (by rfl) Gm.zero y7 ?_
    intro v8 y8 s8
    refine hK.out _ _ (((Stp.of_below hHeld (fun x => W.heap.size ≤ x)).next s8 (fun x hx => .inl (by subst hx; exact m7))).below (Nat.le_refl _) (fun _ h => h)) (fun hHeld => ?_)
    clear hK K
    try simp only [Act.put]
    refine wpAnyH_done (by kernel_rfl) ?_ _
    exact tail g7 v8 y8 hHeld m7
set_option maxRecDepth 100000
set_option maxRecDepth 100000 in
set_option maxHeartbeats 4000000 in
theorem rsget_any (p : Ld) (w : World) :
    Calls Tryz.prog 113 #[.agg p.cs.toArray] w fun e w' => e = .returned (.tuple #[gv (sgG p), .int .i64 (sgE p)]) ∧ Below w.heap.size w w' := by
  have hp := p.len
  have hput := rsput_any (nums p)
  have hway := sg_ways p
  have heq := eqL (spP (nums p)) p
  have hgl := guardL
  have hlq := (spP (nums p)).len
  have k4 := get2_lt p.l 4
  have k6 := get2_lt p.l 6
  have k8 := get2_lt p.l 8
  generalize spP (nums p) = q at *
  generalize (nums p).err = e0 at *
  generalize decide (q = p) = dd at *
  rcases hway with ⟨rfl, h1, h2⟩ | ⟨rfl, rfl, h1, h2⟩ | ⟨rfl, rfl, h1, h2⟩
  all_goals
    have hE : Hid (sgE p = _ ∧ sgG p = _) := ⟨h1, h2⟩
    clear h1 h2
    have t1 : True := trivial
    have t2 : True := trivial
    have t3 : True := trivial
    go_enter Tryz.func113, Tryz.ntmps113
    go_wp2_with (first
      | (refine at_box 62 54 arrL (by rfl) _ (by rfl) p.l (by rfl) hp ?_; intro g1 w1 a1 z1 r1 b1)
      | (have _t := t1; refine at_newG (by rfl) (by rfl) ?_; intro gr w2 a2 z2 r2 b2; clear _t t1; have u2 := r1.later b2)
      | (go_at_call 137; have _t := t2; refine (rget16_at g1 p.l 4 _ u2 hp (by omega)).mono ?_; rintro e w3 ⟨rfl, rfl⟩; clear _t t2)
      | (go_at_call 137; have _t := t3; refine (rget16_at g1 p.l 6 _ u2 hp (by omega)).mono ?_; rintro e w3 ⟨rfl, rfl⟩; clear _t t3)
      | (go_at_call 137; refine (rget16_at g1 p.l 8 _ u2 hp (by omega)).mono ?_; rintro e w3 ⟨rfl, rfl⟩)
      | (refine at_newG (by rfl) (by rfl) ?_; intro g7 w7 a7 z7 r7 b7)
      | (refine at_putG (by rfl) _ _ (by rfl) g7 (by rfl) (nums p) (by rfl) _ r7 ?_; intro v8 y8 s8
         have rr : GR v8 gr Gm.zero := (r2.later b7).step s8 (by omega)
         have rq : Row v8 g1 p.l := (u2.later b7).step s8 (by omega)
         have hgr : w.heap.size ≤ gr := by have := b1.size; omega
         have B8 : Below w.heap.size w v8 := ((Stp.of_below (bnext (bnext b1 b2 (Nat.le_refl _)) b7 (Nat.le_refl _)) (fun x => w.heap.size ≤ x)).next s8 (fun x hx => .inl (by subst hx; have := b1.size; have := b2.size; omega))).below (Nat.le_refl _) (fun _ h => h)
         clear a1 z1 r1 b1 a2 z2 r2 b2 u2 a7 z7 r7 b7 s8)
      | (refine at_getG (by rfl) _ (by rfl) g7 (by rfl) (nums p) y8 ?_)
      | (go_at_call 31; refine (hput _).mono ?_; rintro e w3 ⟨rfl, b3⟩)
      | (refine at_new 62 54 arrL (by rfl) (by rfl) ?_; intro gp w4 a4 z4 r4 b4)
      | (refine at_put 62 54 arrL (by rfl) _ _ (by rfl) gp (by rfl) q.l (by rfl) hlq _ r4 (by simp) ?_; intro w5 r5 s5
         have y9 : GR w5 g7 (nums p) := ((y8.later b3).later b4).step s5 (by have := y8.lt; have := b3.size; omega)
         have q9 : Row w5 g1 p.l := ((rq.later b3).later b4).step s5 (by have := rq.lt; have := b3.size; omega)
         have rr9 : GR w5 gr Gm.zero := ((rr.later b3).later b4).step s5 (by have := rr.lt; have := b3.size; omega)
         have S5 : Stp (fun x => w.heap.size ≤ x) w w5 := (Stp.of_below (bnext (bnext B8 b3 (Nat.le_refl _)) b4 (Nat.le_refl _)) _).next s5 (fun x hx => .inl (by subst hx; have := B8.size; have := b3.size; omega))
         clear y8 rq rr B8 b3 b4 a4 z4 r4 s5)
      | (refine at_getL (by rfl) _ (by rfl) gp (by rfl) q r5 ?_)
      | (refine at_getL (by rfl) _ (by rfl) g1 (by rfl) p q9 ?_)
      | (refine at_getG (by rfl) _ (by rfl) g7 (by rfl) (nums p) y9 ?_)
      | (refine at_putG (by rfl) _ _ (by rfl) gr (by rfl) Gm.zero (by rfl) _ rr9 ?_; intro w9 r9 s9)
      | (refine at_putG (by rfl) _ _ (by rfl) gr (by rfl) (nums p) (by rfl) _ rr9 ?_; intro w9 r9 s9))
    refine bodyPost_ret (retGt Tryz.results113 rfl rfl r9) rfl ⟨by obtain ⟨q1, q2⟩ := hE.out; rw [q1, q2]; rfl, (S5.next s9 (fun x hx => .inl (by subst hx; exact hgr))).below (Nat.le_refl _) (fun _ h => h)⟩
theorem si_ways (b : Blk) : ((gES 1 b = 21) ∧ siE b = 22 ∧ siG b = Gm.zero) ∨ (gES 1 b = 0 ∧ siE b = sgE (gP 1 b) ∧ siG b = sgG (gP 1 b)) := by
  unfold siE siG
  by_cases h : gES 1 b = 0
  · exact .inr ⟨h, if_pos h, if_pos h⟩
  · refine .inl ⟨?_, if_neg h, if_neg h⟩
    unfold gES at h ⊢
    rw [show isK 1 = true from rfl, if_pos rfl] at h ⊢
    split at h
    · exact absurd rfl h
    · rename_i hk; rw [if_neg hk]
set_option maxRecDepth 100000 in
set_option maxHeartbeats 2000000 in
theorem shapeIn_any (b : Blk) (w : World) :
    Calls Tryz.prog 78 #[.agg b.cs.toArray] w fun e w' => e = .returned (.tuple #[gv (siG b), .int .i64 (siE b)]) ∧ Below w.heap.size w w' := by
  have hb := b.len
  have hget := get_anyS 1 b
  have hlq := (gP 1 b).len
  have hsg := sget_any (gP 1 b)
  have hway := si_ways b
  generalize gP 1 b = q at *
  generalize gES 1 b = e0 at *
  generalize sgE q = e1 at *
  generalize sgG q = s1 at *
  rcases hway with ⟨rfl, h1, h2⟩ | ⟨rfl, h1, h2⟩
  all_goals
    have hE : Hid (siE b = _ ∧ siG b = _) := ⟨h1, h2⟩
    clear h1 h2
    have t1 : True := trivial
    go_enter Tryz.func78, Tryz.ntmps78
    go_wp2_with (first
      | (refine at_box 88 64 arrB (by rfl) _ (by rfl) b.l (by rfl) hb ?_; intro g1 w1 a1 z1 r1 b1)
      | (refine at_newG (by rfl) (by rfl) ?_; intro gr w2 a2 z2 r2 b2)
      | (refine at_getBS (by rfl) _ (by rfl) g1 (by rfl) b (r1.later b2) ?_)
      | (go_at_call 38; refine (hget _).mono ?_; rintro e w3 ⟨rfl, b3⟩)
      | (refine at_new 62 54 arrL (by rfl) (by rfl) ?_; intro gp w4 a4 z4 r4 b4)
      | (refine at_put 62 54 arrL (by rfl) _ _ (by rfl) gp (by rfl) q.l (by rfl) hlq _ r4 (by simp) ?_; intro w5 r5 s5
         have rr5 : GR w5 gr Gm.zero := ((r2.later b3).later b4).step s5 (by have := b3.size; omega)
         have hgr : w.heap.size ≤ gr := by have := b1.size; omega
         have S5 : Stp (fun x => w.heap.size ≤ x) w w5 := (Stp.of_below (bnext (bnext (bnext b1 b2 (Nat.le_refl _)) b3 (Nat.le_refl _)) b4 (Nat.le_refl _)) _).next s5 (fun x hx => .inl (by subst hx; have := b1.size; have := b2.size; have := b3.size; omega))
         clear a1 z1 r1 b1 a2 z2 r2 b2 b3 b4 a4 z4 r4 s5)
      | (refine at_putG (by rfl) _ _ (by rfl) gr (by rfl) Gm.zero (by rfl) _ rr5 ?_; intro w9 r9 s9)
      | (refine at_getL (by rfl) _ (by rfl) gp (by rfl) q r5 ?_)
      | (go_at_call 108; refine (hsg _).mono ?_; rintro e w6 ⟨rfl, b6⟩)
      | (refine at_putG (by rfl) _ _ (by rfl) gr (by rfl) s1 (by rfl) _ (rr5.later b6) ?_; intro w9 r9 s9))
  · refine bodyPost_ret (retGt Tryz.results78 rfl rfl r9) rfl ⟨by obtain ⟨q1, q2⟩ := hE.out; rw [q1, q2]; rfl, (S5.next s9 (fun x hx => .inl (by subst hx; exact hgr))).below (Nat.le_refl _) (fun _ h => h)⟩
  · refine bodyPost_ret (retGt Tryz.results78 rfl rfl r9) rfl ⟨by obtain ⟨q1, q2⟩ := hE.out; rw [q1, q2]; rfl, ((S5.next (Stp.of_below b6 (fun _ => False)) (fun _ h => h.elim)).next s9 (fun x hx => .inl (by subst hx; exact hgr))).below (Nat.le_refl _) (fun _ h => h)⟩
set_option maxRecDepth 100000
theorem siE_or (b : Blk) : siE b = 0 ∨ siE b = 22 := by
  unfold siE sgE; split
  · split
    · exact .inl rfl
    · exact .inr rfl
  · exact .inr rfl
theorem has_ways (b : Blk) (n : Nat) : (siE b = 22 ∧ hasB b n = false) ∨ (siE b = 0 ∧ ((siG b).total == (n : Int)) = false ∧ hasB b n = false) ∨ (siE b = 0 ∧ ((siG b).total == (n : Int)) = true ∧ hasB b n = true) := by
  unfold hasB
  rcases siE_or b with h | h
  · rw [h]
    by_cases h2 : (siG b).total = (n : Int)
    · exact .inr (.inr ⟨rfl, by simp [h2], by simp [h2]⟩)
    · exact .inr (.inl ⟨rfl, by simp [h2], by simp [h2]⟩)
  · exact .inl ⟨h, by rw [h]; simp⟩
set_option maxRecDepth 100000 in
set_option maxHeartbeats 4000000 in
theorem one_any (b : Blk) (n : Nat) (w : World) :
    Calls Tryz.prog 83 #[.agg b.cs.toArray, .int .i64 (n : Int)] w fun e w' => e = .returned (.tuple #[gv (siG b), .bool (hasB b n)]) ∧ Below w.heap.size w w' := by
  have hb := b.len
  have hget := rget_anyS 1 b
  have hlq := (gP 1 b).len
  have hsg := rsget_any (gP 1 b)
  have hway := si_ways b
  have hhas := has_ways b n
  have htot := rtotal_any (sgG (gP 1 b))
  generalize gP 1 b = q at *
  generalize gES 1 b = e0 at *
  rcases hway with ⟨rfl, h1, h2⟩ | ⟨rfl, h1, h2⟩
  · have hE : Hid (hasB b n = false ∧ siG b = Gm.zero) := by
      rcases hhas with ⟨_, h⟩ | ⟨h, _⟩ | ⟨h, _⟩
      · exact ⟨h, h2⟩
      · rw [h1] at h; omega
      · rw [h1] at h; omega
    clear h1 h2 hhas hsg htot
    go_enter Tryz.func83, Tryz.ntmps83
    go_wp2_with (first
      | (refine at_box 88 64 arrB (by rfl) _ (by rfl) b.l (by rfl) hb ?_; intro g1 w1 a1 z1 r1 b1)
      | (refine at_newG (by rfl) (by rfl) ?_; intro gr w2 a2 z2 r2 b2)
      | (refine at_getBS (by rfl) _ (by rfl) g1 (by rfl) b (r1.later b2) ?_)
      | (go_at_call 112; refine (hget _).mono ?_; rintro e w3 ⟨rfl, b3⟩)
      | (refine at_new 62 54 arrL (by rfl) (by rfl) ?_; intro gp w4 a4 z4 r4 b4)
      | (refine at_put 62 54 arrL (by rfl) _ _ (by rfl) gp (by rfl) q.l (by rfl) hlq _ r4 (by simp) ?_; intro w5 r5 s5
         have rr5 : GR w5 gr Gm.zero := ((r2.later b3).later b4).step s5 (by have := b3.size; omega)
         have hgr : w.heap.size ≤ gr := by have := b1.size; omega
         have S5 : Stp (fun x => w.heap.size ≤ x) w w5 := (Stp.of_below (bnext (bnext (bnext b1 b2 (Nat.le_refl _)) b3 (Nat.le_refl _)) b4 (Nat.le_refl _)) _).next s5 (fun x hx => .inl (by subst hx; have := b1.size; have := b2.size; have := b3.size; omega))
         clear a1 z1 r1 b1 a2 z2 r2 b2 b3 b4 a4 z4 r4 s5)
      | (refine at_putG (by rfl) _ _ (by rfl) gr (by rfl) Gm.zero (by rfl) _ rr5 ?_; intro w9 r9 s9))
    refine bodyPost_ret (retGt Tryz.results83 rfl rfl r9) rfl ⟨by obtain ⟨q1, q2⟩ := hE.out; rw [q1, q2]; rfl, (S5.next s9 (fun x hx => .inl (by subst hx; exact hgr))).below (Nat.le_refl _) (fun _ h => h)⟩
  · rw [h1, h2] at hhas
    have hG : Hid (siG b = sgG q) := h2
    clear h1 h2
    generalize hs1 : sgG q = s1 at *
    generalize sgE q = e1 at *
    clear hs1
    have t1 : True := trivial
    go_enter Tryz.func83, Tryz.ntmps83
    go_wp2_with (first
      | (refine at_box 88 64 arrB (by rfl) _ (by rfl) b.l (by rfl) hb ?_; intro g1 w1 a1 z1 r1 b1)
      | (have _t := t1; refine at_newG (by rfl) (by rfl) ?_; intro gr w2 a2 z2 r2 b2; clear _t t1)
      | (refine at_getBS (by rfl) _ (by rfl) g1 (by rfl) b (r1.later b2) ?_)
      | (go_at_call 112; refine (hget _).mono ?_; rintro e w3 ⟨rfl, b3⟩)
      | (refine at_new 62 54 arrL (by rfl) (by rfl) ?_; intro gp w4 a4 z4 r4 b4)
      | (refine at_put 62 54 arrL (by rfl) _ _ (by rfl) gp (by rfl) q.l (by rfl) hlq _ r4 (by simp) ?_; intro w5 r5 s5
         have rr5 : GR w5 gr Gm.zero := ((r2.later b3).later b4).step s5 (by have := b3.size; omega)
         have hgr : w.heap.size ≤ gr := by have := b1.size; omega
         have S5 : Stp (fun x => w.heap.size ≤ x) w w5 := (Stp.of_below (bnext (bnext (bnext b1 b2 (Nat.le_refl _)) b3 (Nat.le_refl _)) b4 (Nat.le_refl _)) _).next s5 (fun x hx => .inl (by subst hx; have := b1.size; have := b2.size; have := b3.size; omega))
         clear a1 z1 r1 b1 a2 z2 r2 b2 b3 b4 a4 z4 r4 s5)
      | (refine at_getL (by rfl) _ (by rfl) gp (by rfl) q r5 ?_)
      | (go_at_call 113; refine (hsg _).mono ?_; rintro e w6 ⟨rfl, b6⟩)
      | (refine at_newG (by rfl) (by rfl) ?_; intro g7 w7 a7 z7 r7 b7)
      | (refine at_putG (by rfl) _ _ (by rfl) g7 (by rfl) s1 (by rfl) _ r7 ?_; intro W y8 s8
         have rrc : GR W gr Gm.zero := ((rr5.later b6).later b7).step s8 (by have := rr5.lt; have := b6.size; omega)
         have S8 := (S5.next (Stp.of_below (bnext b6 b7 (Nat.le_refl _)) (fun _ => False)) (fun _ h => h.elim)).next s8 (fun x hx => .inl (by subst hx; have := S5.size; have := b6.size; omega))
         have hne : g7 ≠ gr := by have := rr5.lt; have := b6.size; omega
         clear rr5 b6 b7 s8 a7 z7 r7 S5 r5))
    have rrc := rrc.later (Below.refl _ W).drew
    clear hget hsg
    rcases hhas with ⟨rfl, hF⟩ | ⟨rfl, hT, hF⟩ | ⟨rfl, hT, hF⟩
    · have hE : Hid (hasB b n = false ∧ siG b = s1) := ⟨hF, hG.out⟩
      clear hF hG
      refine wp_region_held_drew (S := fun u => Stp (fun x => x = gr) W u) (by kernel_rfl) (Stp.refl _ _).drew (fun hHeld => ?_)
      refine tm 0 (gv s1) rfl
        (yields_G (by rfl) (.tmp 9) rfl g7 (by rfl) s1 (fun u hu => y8.step hu hne)) ?_
      try simp only [z]
      refine tl 1 (.int .i64 22) rfl ?_
      try simp only [z]
      refine tl 2 (.bool false) rfl ?_
      try simp only [z]
      refine tl 3 (.bool false) rfl ?_
      try simp only [z]
      refine tm 4 undef rfl
        (Or.inr ⟨by rfl, rfl⟩) ?_
      try simp only [z]
      refine tm 5 undef rfl
        (Or.inr ⟨by rfl, rfl⟩) ?_
      try simp only [z]
      refine tm 6 undef rfl
        (Or.inr ⟨by rfl, rfl⟩) ?_
      try simp only [z]
      refine tm 7 undef rfl
        (Or.inr ⟨by rfl, rfl⟩) ?_
      try simp only [z]
      refine tl 8 (.bool false) rfl ?_
      try simp only [z]
      refine rd 9 rfl (fun K hK => ?_)
      refine step_putG rfl (.tmp 4) (.tmp 25) rfl gr (by rfl) s1 (by rfl) Gm.zero rrc ?_
      intro v9 r9 s9
      refine hK.out _ _ (hHeld.next s9 (fun _ h => .inl h)) (fun hHeld => ?_)
      clear hK K
      try simp only [Act.put]
      refine tl 10 (.bool false) rfl ?_
      try simp only [z]
      refine wpAnyH_done (by kernel_rfl) ?_ _
      go_wp2_with fail
      refine bodyPost_ret (retGt Tryz.results83 rfl rfl r9) rfl ⟨by obtain ⟨q1, q2⟩ := hE.out; rw [q1, q2]; rfl, (S8.next hHeld (fun x hx => .inl (by subst hx; exact hgr))).below (Nat.le_refl _) (fun _ h => h)⟩
    · have hE : Hid (hasB b n = false ∧ siG b = s1) := ⟨hF, hG.out⟩
      clear hF hG
      refine wp_region_held_drew (S := fun u => Stp (fun x => x = gr) W u) (by kernel_rfl) (Stp.refl _ _).drew (fun hHeld => ?_)
      refine tm 0 (gv s1) rfl
        (yields_G (by rfl) (.tmp 9) rfl g7 (by rfl) s1 (fun u hu => y8.step hu hne)) ?_
      try simp only [z]
      refine tl 1 (.int .i64 0) rfl ?_
      try simp only [z]
      refine tl 2 (.bool true) rfl ?_
      try simp only [z]
      refine tl 3 (.bool true) rfl ?_
      try simp only [z]
      refine tm 4 (gv s1) rfl
        (yields_G (by rfl) (.tmp 9) rfl g7 (by rfl) s1 (fun u hu => y8.step hu hne)) ?_
      try simp only [z]
      refine tl 6 (.int .i64 (n : Int)) rfl ?_
      try simp only [z]
      refine rd 5 rfl (fun K hK => ?_)
      go_simp
      refine (htot _).mono ?_
      rintro e v5 ⟨rfl, c5⟩
      try go_wp2_with fail
      have rrc := rrc.later c5
      refine hK.out _ _ (hHeld.next (Stp.of_below c5 (fun _ => False)) (fun _ h => h.elim)) (fun hHeld => ?_)
      clear hK K
      try simp only [z]
      refine tl 7 (.bool false) rfl ?_
      try simp only [z]
      refine tl 8 (.bool false) rfl ?_
      try simp only [z]
      refine rd 9 rfl (fun K hK => ?_)
      refine step_putG rfl (.tmp 4) (.tmp 25) rfl gr (by rfl) s1 (by rfl) Gm.zero rrc ?_
      intro v9 r9 s9
      refine hK.out _ _ (hHeld.next s9 (fun _ h => .inl h)) (fun hHeld => ?_)
      clear hK K
      try simp only [Act.put]
      refine tl 10 (.bool false) rfl ?_
      try simp only [z]
      refine wpAnyH_done (by kernel_rfl) ?_ _
      go_wp2_with fail
      refine bodyPost_ret (retGt Tryz.results83 rfl rfl r9) rfl ⟨by obtain ⟨q1, q2⟩ := hE.out; rw [q1, q2]; rfl, (S8.next hHeld (fun x hx => .inl (by subst hx; exact hgr))).below (Nat.le_refl _) (fun _ h => h)⟩
    · have hE : Hid (hasB b n = true ∧ siG b = s1) := ⟨hF, hG.out⟩
      clear hF hG
      refine wp_region_held_drew (S := fun u => Stp (fun x => x = gr) W u) (by kernel_rfl) (Stp.refl _ _).drew (fun hHeld => ?_)
      refine tm 0 (gv s1) rfl
        (yields_G (by rfl) (.tmp 9) rfl g7 (by rfl) s1 (fun u hu => y8.step hu hne)) ?_
      try simp only [z]
      refine tl 1 (.int .i64 0) rfl ?_
      try simp only [z]
      refine tl 2 (.bool true) rfl ?_
      try simp only [z]
      refine tl 3 (.bool true) rfl ?_
      try simp only [z]
      refine tm 4 (gv s1) rfl
        (yields_G (by rfl) (.tmp 9) rfl g7 (by rfl) s1 (fun u hu => y8.step hu hne)) ?_
      try simp only [z]
      refine tl 6 (.int .i64 (n : Int)) rfl ?_
      try simp only [z]
      refine rd 5 rfl (fun K hK => ?_)
      go_simp
      refine (htot _).mono ?_
      rintro e v5 ⟨rfl, c5⟩
      try go_wp2_with fail
      have rrc := rrc.later c5
      refine hK.out _ _ (hHeld.next (Stp.of_below c5 (fun _ => False)) (fun _ h => h.elim)) (fun hHeld => ?_)
      clear hK K
      try simp only [z]
      refine tl 7 (.bool true) rfl ?_
      try simp only [z]
      refine tl 8 (.bool true) rfl ?_
      try simp only [z]
      refine rd 9 rfl (fun K hK => ?_)
      refine step_putG rfl (.tmp 4) (.tmp 25) rfl gr (by rfl) s1 (by rfl) Gm.zero rrc ?_
      intro v9 r9 s9
      refine hK.out _ _ (hHeld.next s9 (fun _ h => .inl h)) (fun hHeld => ?_)
      clear hK K
      try simp only [Act.put]
      refine tl 10 (.bool true) rfl ?_
      try simp only [z]
      refine wpAnyH_done (by kernel_rfl) ?_ _
      go_wp2_with fail
      refine bodyPost_ret (retGt Tryz.results83 rfl rfl r9) rfl ⟨by obtain ⟨q1, q2⟩ := hE.out; rw [q1, q2]; rfl, (S8.next hHeld (fun x hx => .inl (by subst hx; exact hgr))).below (Nat.le_refl _) (fun _ h => h)⟩
end Go.Proofs.YtgdnhkdfcjpdiaaGreatDoor
