/-
  What the document's Put of layer 10 returns, for every inode: no statement is proved here.
-/
import Derived.Test.YtbpnegklglaekaaDoorInoE
namespace Go.Proofs.YtbpnegklglaekaaDoor
open Go.ChangeShapes Go.WideShapes Go.ChangeAt Go.RowKit
set_option linter.unusedVariables false

theorem rput16_r (x : UInt16) (w : World) :
    Calls Tryd.prog 28 #[.int .u16 (x.toNat : Int)] w fun e w' => ∃ g, e = .returned (.slice (some ⟨g, 0, none⟩) 2 2) ∧ Row w' g (lo2 x.toNat) ∧ Below w.heap.size w w' := by
  have hx := x.toNat_lt
  refine (rput16_any (x.toNat : Int) w (by omega) (by omega)).mono ?_
  rintro e w' ⟨rfl, rfl⟩
  refine ⟨_, rfl, ?_, (Below.refl _ _).alloc (Nat.le_refl _) _⟩
  have := Row.made w (lo2 x.toNat) 5
  rwa [cells_lo2 (by omega)] at this
theorem rput32_r (x : UInt32) (w : World) :
    Calls Tryd.prog 27 #[.int .u32 (x.toNat : Int)] w fun e w' => ∃ g, e = .returned (.slice (some ⟨g, 0, none⟩) 4 4) ∧ Row w' g (u4 x.toNat) ∧ Below w.heap.size w w' := by
  have hx := x.toNat_lt
  refine (rput32_any (x.toNat : Int) w (by omega) (by omega)).mono ?_
  rintro e w' ⟨rfl, rfl⟩
  refine ⟨_, rfl, ?_, (Below.refl _ _).alloc (Nat.le_refl _) _⟩
  have := Row.made w (u4 x.toNat) 5
  rwa [cells_w4 (by omega)] at this
def rl0 (x : Ino) : List UInt8 := [x.k, x.n] ++ u4 x.s.toNat
def rl1 (x : Ino) : List UInt8 := rl0 x ++ lo2 x.d0.toNat
def rl2 (x : Ino) : List UInt8 := rl1 x ++ lo2 x.d1.toNat
def rl3 (x : Ino) : List UInt8 := rl2 x ++ lo2 x.d2.toNat
def rl4 (x : Ino) : List UInt8 := rl3 x ++ lo2 x.d3.toNat
def rl5 (x : Ino) : List UInt8 := rl4 x ++ lo2 x.p.toNat
theorem rl6 (x : Ino) : rl5 x ++ lo2 x.q.toNat = iL x := rfl
theorem Cs.dirs {w : World} {g : Nat} {x : Ino} (h : Cs w g x.cs) : w.cell? ⟨g, 3, none⟩ = some (.int .u16 (x.d0.toNat : Int)) ∧ w.cell? ⟨g, 4, none⟩ = some (.int .u16 (x.d1.toNat : Int)) ∧ w.cell? ⟨g, 5, none⟩ = some (.int .u16 (x.d2.toNat : Int)) ∧ w.cell? ⟨g, 6, none⟩ = some (.int .u16 (x.d3.toNat : Int)) :=
  ⟨h.cell 3 _ rfl, h.cell 4 _ rfl, h.cell 5 _ rfl, h.cell 6 _ rfl⟩
theorem Own.low {B B' : Nat} {w : World} {g cap : Nat} {l : List UInt8} (h : Own B w g cap l) (hB : B' ≤ B) : Own B' w g cap l := by
  refine ⟨h.1, ?_⟩
  rcases h.2 with h2 | ⟨g', c', cur, e1, e2, e3⟩
  · exact .inl h2
  · exact .inr ⟨g', c', cur, e1, Nat.le_trans hB e2, e3⟩
set_option maxRecDepth 100000 in
set_option maxHeartbeats 4000000 in
theorem riput_any (x : Ino) (w : World) : Calls Tryd.prog 12 #[.agg x.cs.toArray] w fun e w' => ∃ g c, e = .returned (.slice (some ⟨g, 0, none⟩) 18 c) ∧ Own w.heap.size w' g c (iL x) ∧ Below w.heap.size w w' := by
  go_enter Tryd.func12, Tryd.ntmps12
  go_wp2_with (first
    | (refine at_boxI (by rfl) _ (by rfl) x (by rfl) ?_; intro g1 W a1 z1 r1 b1))
  have hB := b1.size
  have hg1 := r1.lt
  have k0 : ∀ u, Stp (fun y => W.heap.size ≤ y) W u → Cs u g1 x.cs := fun u hu => r1.step hu (by omega)
  refine wp_region_held_drew (S := fun u => Stp (fun y => W.heap.size ≤ y) W u) (by kernel_rfl) (Stp.refl _ _).drew (fun hHeld => ?_)
  rename_i K1 hK1
  have tail : ∀ (g4 g7 g8 c8 : Nat) (v8 : World), Own W.heap.size v8 g8 c8 (rl0 x) → Stp (fun y => W.heap.size ≤ y) W v8 →
      K1 ⟨#[.agg x.cs.toArray, .pointer (some ⟨g1, 0, none⟩), .slice none 0 0, .slice (some ⟨g8, 0, none⟩) 6 c8, undef, .pointer (some ⟨g1, 0, none⟩), .int .u8 (x.k.toNat : Int), .pointer (some ⟨g1, 1, none⟩), .int .u8 (x.n.toNat : Int), .slice (some ⟨g4, 0, none⟩) 2 2, .pointer (some ⟨g1, 2, none⟩), .int .u32 (x.s.toNat : Int), .slice (some ⟨g7, 0, none⟩) 4 4, .slice (some ⟨g8, 0, none⟩) 6 c8, undef, undef, undef, undef, undef, undef, undef, undef, undef, undef, undef, undef, undef, undef, undef, undef, undef, undef, undef, undef], []⟩ v8 := by
    intro g4 g7 g8 c8 v8 o8 S8
    refine hK1 _ _ ?_
    have y8 := k0 _ S8
    obtain ⟨q0, _, _, _⟩ := y8.dirs
    go_wp2_with fail
    refine wp_loop_rounds 5 ?_
    rw [rounds_succ]
    go_wp2_with (first
      | (go_at_call 28; refine (rput16_r x.d0 _).mono ?_; rintro e v9 ⟨n9, rfl, r9, b9⟩; have o9' := o8.later b9; have S9' := S8.next (Stp.of_below b9 (fun _ => False)) (fun _ h => h.elim))
      | (refine at_app rfl _ _ (by rfl) 6 (by rfl) o9' rfl ⟨n9, 0, none⟩ 2 2 (lo2 x.d0.toNat) (by rfl) rfl 8 rfl (fun j u hj => by rw [Addr.add_mid]; exact r9.range j u hj) (by exact (show 8 ≤ 1000000 by decide)) S9'.size ?_; intro g9 c9 w9 o9 s9
         have S9 := S9'.trans s9
         have y9 := k0 _ S9
         clear o8 S8 o9' S9' r9 b9 s9 y8 q0))
    have o9'' : Own W.heap.size w9 g9 c9 (rl1 x) := o9
    clear o9
    have o9 := o9''
    clear o9''
    obtain ⟨_, q1, _, _⟩ := y9.dirs
    rw [rounds_succ]
    go_wp2_with (first
      | (go_at_call 28; refine (rput16_r x.d1 _).mono ?_; rintro e v10 ⟨n10, rfl, r10, b10⟩; have o10' := o9.later b10; have S10' := S9.next (Stp.of_below b10 (fun _ => False)) (fun _ h => h.elim))
      | (refine at_app rfl _ _ (by rfl) 8 (by rfl) o10' rfl ⟨n10, 0, none⟩ 2 2 (lo2 x.d1.toNat) (by rfl) rfl 10 rfl (fun j u hj => by rw [Addr.add_mid]; exact r10.range j u hj) (by exact (show 10 ≤ 1000000 by decide)) S10'.size ?_; intro g10 c10 w10 o10 s10
         have S10 := S10'.trans s10
         have y10 := k0 _ S10
         clear o9 S9 o10' S10' r10 b10 s10 y9 q1))
    have o10'' : Own W.heap.size w10 g10 c10 (rl2 x) := o10
    clear o10
    have o10 := o10''
    clear o10''
    obtain ⟨_, _, q2, _⟩ := y10.dirs
    rw [rounds_succ]
    go_wp2_with (first
      | (go_at_call 28; refine (rput16_r x.d2 _).mono ?_; rintro e v11 ⟨n11, rfl, r11, b11⟩; have o11' := o10.later b11; have S11' := S10.next (Stp.of_below b11 (fun _ => False)) (fun _ h => h.elim))
      | (refine at_app rfl _ _ (by rfl) 10 (by rfl) o11' rfl ⟨n11, 0, none⟩ 2 2 (lo2 x.d2.toNat) (by rfl) rfl 12 rfl (fun j u hj => by rw [Addr.add_mid]; exact r11.range j u hj) (by exact (show 12 ≤ 1000000 by decide)) S11'.size ?_; intro g11 c11 w11 o11 s11
         have S11 := S11'.trans s11
         have y11 := k0 _ S11
         clear o10 S10 o11' S11' r11 b11 s11 y10 q2))
    have o11'' : Own W.heap.size w11 g11 c11 (rl3 x) := o11
    clear o11
    have o11 := o11''
    clear o11''
    obtain ⟨_, _, _, q3⟩ := y11.dirs
    rw [rounds_succ]
    go_wp2_with (first
      | (go_at_call 28; refine (rput16_r x.d3 _).mono ?_; rintro e v12 ⟨n12, rfl, r12, b12⟩; have o12' := o11.later b12; have S12' := S11.next (Stp.of_below b12 (fun _ => False)) (fun _ h => h.elim))
      | (refine at_app rfl _ _ (by rfl) 12 (by rfl) o12' rfl ⟨n12, 0, none⟩ 2 2 (lo2 x.d3.toNat) (by rfl) rfl 14 rfl (fun j u hj => by rw [Addr.add_mid]; exact r12.range j u hj) (by exact (show 14 ≤ 1000000 by decide)) S12'.size ?_; intro g12 c12 w12 o12 s12
         have S12 := S12'.trans s12
         have y12 := k0 _ S12
         clear o11 S11 o12' S12' r12 b12 s12 y11 q3))
    have o12'' : Own W.heap.size w12 g12 c12 (rl4 x) := o12
    clear o12
    have o12 := o12''
    clear o12''
    rw [rounds_succ]
    go_wp2_with fail
    refine wp_region_held_drew (S := fun u => Stp (fun y => W.heap.size ≤ y) W u) (by kernel_rfl) S12.drew (fun hHeld => ?_)
    have oc := o12.later ((Below.refl _ w12).drew)
    clear o12 S12 y12
    refine wpAnyH_take (i := 0) (oi := { dst := some 25, op := Op.move (Operand.tmp 3), type := 32, pos := _, after := #[], guard := none }) (v := .slice (some ⟨g12, 0, none⟩) 14 c12) rfl (by kernel_rfl) (by kernel_rfl) (by kernel_rfl) (fun _ _ _ h => h) (Or.inl ⟨by rfl, ?_⟩) hHeld ?_
    · intro u hu
      go_simp
    try simp only [Act.put, List.setIfInBounds_toArray, List.set_cons_zero, List.set_cons_succ]
    refine wpAnyH_take (i := 1) (oi := { dst := some 26, op := Op.fieldAddr 26 (Operand.tmp 1) 4, type := 0, pos := _, after := #[], guard := none }) (v := .pointer (some ⟨g1, 7, none⟩)) rfl (by kernel_rfl) (by kernel_rfl) (by kernel_rfl) (fun _ _ _ h => h) (Or.inl ⟨by rfl, ?_⟩) hHeld ?_
    · intro u hu
      go_simp
    try simp only [Act.put, List.setIfInBounds_toArray, List.set_cons_zero, List.set_cons_succ]
    refine wpAnyH_take (i := 2) (oi := { dst := some 27, op := Op.load 23 (Operand.tmp 26), type := 23, pos := _, after := #[{ on := 1, ground := Ground.data }], guard := none }) (v := .int .u16 (x.p.toNat : Int)) rfl (by kernel_rfl) (by kernel_rfl) (by kernel_rfl) (fun _ _ _ h => h) (Or.inl ⟨by rfl, ?_⟩) hHeld ?_
    · intro u hu
      (have y := (k0 u hu).cell 7 _ rfl; go_simp)
    try simp only [Act.put, List.setIfInBounds_toArray, List.set_cons_zero, List.set_cons_succ]
    refine wpAnyH_take (i := 5) (oi := { dst := some 30, op := Op.fieldAddr 26 (Operand.tmp 1) 5, type := 0, pos := _, after := #[], guard := none }) (v := .pointer (some ⟨g1, 8, none⟩)) rfl (by kernel_rfl) (by kernel_rfl) (by kernel_rfl) (fun _ _ _ h => h) (Or.inl ⟨by rfl, ?_⟩) hHeld ?_
    · intro u hu
      go_simp
    try simp only [Act.put, List.setIfInBounds_toArray, List.set_cons_zero, List.set_cons_succ]
    refine wpAnyH_take (i := 6) (oi := { dst := some 31, op := Op.load 23 (Operand.tmp 30), type := 23, pos := _, after := #[{ on := 5, ground := Ground.data }], guard := none }) (v := .int .u16 (x.q.toNat : Int)) rfl (by kernel_rfl) (by kernel_rfl) (by kernel_rfl) (fun _ _ _ h => h) (Or.inl ⟨by rfl, ?_⟩) hHeld ?_
    · intro u hu
      (have y := (k0 u hu).cell 8 _ rfl; go_simp)
    try simp only [Act.put, List.setIfInBounds_toArray, List.set_cons_zero, List.set_cons_succ]
    refine wpAnyH_ready (rs := [3]) (by kernel_rfl) (by simp) ?_
    refine (AllReadyH.cons (o := { dst := some 28, op := Op.call { callee := Callee.value (Operand.func 28), args := #[Operand.tmp 27], argTypes := #[23] }, type := 32, pos := _, after := #[{ on := 2, ground := Ground.data }], guard := none }) rfl (fun K hK => ?_) AllReadyH.nil)
    go_simp
    refine (rput16_r x.p _).mono ?_
    rintro e v13 ⟨n13, rfl, r13, b13⟩
    try go_wp2_with fail
    have o13 := oc.later b13
    refine hK.out _ _ (hHeld.next (Stp.of_below b13 (fun _ => False)) (fun _ h => h.elim)) (fun hHeld => ?_)
    clear hK K
    try simp only [Act.put, List.setIfInBounds_toArray, List.set_cons_zero, List.set_cons_succ]
    refine wpAnyH_ready (rs := [4]) (by kernel_rfl) (by simp) ?_
    refine (AllReadyH.cons (o := { dst := some 29, op := Op.call { callee := Callee.builtin Builtin.append, args := #[Operand.tmp 25, Operand.tmp 28], argTypes := #[32, 32] }, type := 32, pos := _, after := #[{ on := 0, ground := Ground.data }, { on := 3, ground := Ground.data }, { on := 3, ground := Ground.chain }], guard := none }) rfl (fun K hK => ?_) AllReadyH.nil)
    refine step_app rfl (.tmp 25) (.tmp 28) rfl 14 (by rfl) o13 rfl ⟨n13, 0, none⟩ 2 2 (lo2 x.p.toNat) (by rfl) rfl 16 rfl (fun j u hj => by rw [Addr.add_mid]; exact r13.range j u hj) (by exact (show 16 ≤ 1000000 by decide)) hHeld.size ?_
    intro g14 c14 w14 o14 s14
    refine hK.out _ _ (hHeld.next s14 (fun _ h => .inl h)) (fun hHeld => ?_)
    clear hK K
    try simp only [Act.put, List.setIfInBounds_toArray, List.set_cons_zero, List.set_cons_succ]
    refine wpAnyH_ready (rs := [7]) (by kernel_rfl) (by simp) ?_
    refine (AllReadyH.cons (o := { dst := some 32, op := Op.call { callee := Callee.value (Operand.func 28), args := #[Operand.tmp 31], argTypes := #[23] }, type := 32, pos := _, after := #[{ on := 6, ground := Ground.data }, { on := 4, ground := Ground.chain }], guard := none }) rfl (fun K hK => ?_) AllReadyH.nil)
    go_simp
    refine (rput16_r x.q _).mono ?_
    rintro e v15 ⟨n15, rfl, r15, b15⟩
    try go_wp2_with fail
    have o15 := o14.later b15
    refine hK.out _ _ (hHeld.next (Stp.of_below b15 (fun _ => False)) (fun _ h => h.elim)) (fun hHeld => ?_)
    clear hK K
    try simp only [Act.put, List.setIfInBounds_toArray, List.set_cons_zero, List.set_cons_succ]
    refine wpAnyH_ready (rs := [8]) (by kernel_rfl) (by simp) ?_
    refine (AllReadyH.cons (o := { dst := some 33, op := Op.call { callee := Callee.builtin Builtin.append, args := #[Operand.tmp 29, Operand.tmp 32], argTypes := #[32, 32] }, type := 32, pos := _, after := #[{ on := 4, ground := Ground.data }, { on := 7, ground := Ground.data }, { on := 7, ground := Ground.chain }], guard := none }) rfl (fun K hK => ?_) AllReadyH.nil)
    refine step_app rfl (.tmp 29) (.tmp 32) rfl 16 (by rfl) o15 rfl ⟨n15, 0, none⟩ 2 2 (lo2 x.q.toNat) (by rfl) rfl 18 rfl (fun j u hj => by rw [Addr.add_mid]; exact r15.range j u hj) (by exact (show 18 ≤ 1000000 by decide)) hHeld.size ?_
    intro g16 c16 w16 o16 s16
    refine hK.out _ _ (hHeld.next s16 (fun _ h => .inl h)) (fun hHeld => ?_)
    clear hK K
    try simp only [Act.put, List.setIfInBounds_toArray, List.set_cons_zero, List.set_cons_succ]
    refine wpAnyH_take (i := 9) (oi := { dst := some 2, op := Op.assign (Operand.tmp 33), type := 32, pos := _, after := #[{ on := 8, ground := Ground.data }, { on := 8, ground := Ground.chain }, { on := 0, ground := Ground.phase }, { on := 1, ground := Ground.phase }, { on := 2, ground := Ground.phase }, { on := 3, ground := Ground.phase }, { on := 4, ground := Ground.phase }, { on := 5, ground := Ground.phase }, { on := 6, ground := Ground.phase }, { on := 7, ground := Ground.phase }, { on := 8, ground := Ground.phase }], guard := none }) (v := .slice (some ⟨g16, 0, none⟩) 18 c16) rfl (by kernel_rfl) (by kernel_rfl) (by kernel_rfl) (fun _ _ _ h => h) (Or.inl ⟨by rfl, ?_⟩) hHeld ?_
    · intro u hu
      go_simp
    try simp only [Act.put, List.setIfInBounds_toArray, List.set_cons_zero, List.set_cons_succ]
    refine wpAnyH_done (by kernel_rfl) ?_ _
    go_wp2_with fail
    go_returns
    exact ⟨g16, c16, rfl, Own.low o16 hB, ((Stp.of_below b1 (fun y => w.heap.size ≤ y)).next hHeld (fun y hy => .inl (Nat.le_trans hB hy))).below (Nat.le_refl _) (fun _ h => h)⟩
  clear hK1
  refine wpAnyH_take (i := 0) (oi := { dst := some 5, op := Op.fieldAddr 26 (Operand.tmp 1) 0, type := 0, pos := _, after := #[], guard := none }) (v := .pointer (some ⟨g1, 0, none⟩)) rfl (by kernel_rfl) (by kernel_rfl) (by kernel_rfl) (fun _ _ _ h => h) (Or.inl ⟨by rfl, ?_⟩) hHeld ?_
  · intro u hu
    go_simp
  try simp only [Act.put, List.setIfInBounds_toArray, List.set_cons_zero, List.set_cons_succ]
  refine wpAnyH_take (i := 1) (oi := { dst := some 6, op := Op.load 5 (Operand.tmp 5), type := 5, pos := _, after := #[{ on := 0, ground := Ground.data }], guard := none }) (v := .int .u8 (x.k.toNat : Int)) rfl (by kernel_rfl) (by kernel_rfl) (by kernel_rfl) (fun _ _ _ h => h) (Or.inl ⟨by rfl, ?_⟩) hHeld ?_
  · intro u hu
    (have y := (k0 u hu).cell 0 _ rfl; go_simp)
  try simp only [Act.put, List.setIfInBounds_toArray, List.set_cons_zero, List.set_cons_succ]
  refine wpAnyH_take (i := 2) (oi := { dst := some 7, op := Op.fieldAddr 26 (Operand.tmp 1) 1, type := 0, pos := _, after := #[], guard := none }) (v := .pointer (some ⟨g1, 1, none⟩)) rfl (by kernel_rfl) (by kernel_rfl) (by kernel_rfl) (fun _ _ _ h => h) (Or.inl ⟨by rfl, ?_⟩) hHeld ?_
  · intro u hu
    go_simp
  try simp only [Act.put, List.setIfInBounds_toArray, List.set_cons_zero, List.set_cons_succ]
  refine wpAnyH_take (i := 3) (oi := { dst := some 8, op := Op.load 5 (Operand.tmp 7), type := 5, pos := _, after := #[{ on := 2, ground := Ground.data }], guard := none }) (v := .int .u8 (x.n.toNat : Int)) rfl (by kernel_rfl) (by kernel_rfl) (by kernel_rfl) (fun _ _ _ h => h) (Or.inl ⟨by rfl, ?_⟩) hHeld ?_
  · intro u hu
    (have y := (k0 u hu).cell 1 _ rfl; go_simp)
  try simp only [Act.put, List.setIfInBounds_toArray, List.set_cons_zero, List.set_cons_succ]
  refine wpAnyH_take (i := 5) (oi := { dst := some 10, op := Op.fieldAddr 26 (Operand.tmp 1) 2, type := 0, pos := _, after := #[], guard := none }) (v := .pointer (some ⟨g1, 2, none⟩)) rfl (by kernel_rfl) (by kernel_rfl) (by kernel_rfl) (fun _ _ _ h => h) (Or.inl ⟨by rfl, ?_⟩) hHeld ?_
  · intro u hu
    go_simp
  try simp only [Act.put, List.setIfInBounds_toArray, List.set_cons_zero, List.set_cons_succ]
  refine wpAnyH_take (i := 6) (oi := { dst := some 11, op := Op.load 22 (Operand.tmp 10), type := 22, pos := _, after := #[{ on := 5, ground := Ground.data }], guard := none }) (v := .int .u32 (x.s.toNat : Int)) rfl (by kernel_rfl) (by kernel_rfl) (by kernel_rfl) (fun _ _ _ h => h) (Or.inl ⟨by rfl, ?_⟩) hHeld ?_
  · intro u hu
    (have y := (k0 u hu).cell 2 _ rfl; go_simp)
  try simp only [Act.put, List.setIfInBounds_toArray, List.set_cons_zero, List.set_cons_succ]
  refine wpAnyH_ready (rs := [4, 7]) (by kernel_rfl) (by simp) ?_
  refine (AllReadyH.cons (o := { dst := some 9, op := Op.buildSlice 32 2 #[(0, Operand.tmp 6), (1, Operand.tmp 8)], type := 32, pos := _, after := #[{ on := 1, ground := Ground.data }, { on := 3, ground := Ground.data }], guard := none }) rfl (fun K hK => ?_) (AllReadyH.cons (o := { dst := some 12, op := Op.call { callee := Callee.value (Operand.func 27), args := #[Operand.tmp 11], argTypes := #[22] }, type := 32, pos := _, after := #[{ on := 6, ground := Ground.data }], guard := none }) rfl (fun K hK => ?_) AllReadyH.nil))
  · skip
    refine step_two (B := W.heap.size) rfl (.tmp 6) (.tmp 8) rfl x.k x.n (by rfl) (by rfl) hHeld.size ?_
    intro g4 v4 o4 b4
    try (have r7 := r7.later b4)
    refine hK.out _ _ (hHeld.next (Stp.of_below b4 (fun _ => False)) (fun _ h => h.elim)) (fun hHeld => ?_)
    clear hK K
    try simp only [Act.put, List.setIfInBounds_toArray, List.set_cons_zero, List.set_cons_succ]
    refine wpAnyH_ready (rs := [7]) (by kernel_rfl) (by simp) ?_
    refine (AllReadyH.cons (o := { dst := some 12, op := Op.call { callee := Callee.value (Operand.func 27), args := #[Operand.tmp 11], argTypes := #[22] }, type := 32, pos := _, after := #[{ on := 6, ground := Ground.data }], guard := none }) rfl (fun K hK => ?_) AllReadyH.nil)
    go_simp
    refine (rput32_r x.s _).mono ?_
    rintro e v7 ⟨g7, rfl, r7, b7⟩
    try go_wp2_with fail
    try (have o4 := o4.later b7)
    refine hK.out _ _ (hHeld.next (Stp.of_below b7 (fun _ => False)) (fun _ h => h.elim)) (fun hHeld => ?_)
    clear hK K
    try simp only [Act.put, List.setIfInBounds_toArray, List.set_cons_zero, List.set_cons_succ]
    refine wpAnyH_ready (rs := [8]) (by kernel_rfl) (by simp) ?_
    refine (AllReadyH.cons (o := { dst := some 13, op := Op.call { callee := Callee.builtin Builtin.append, args := #[Operand.tmp 9, Operand.tmp 12], argTypes := #[32, 32] }, type := 32, pos := _, after := #[{ on := 4, ground := Ground.data }, { on := 7, ground := Ground.data }, { on := 7, ground := Ground.chain }], guard := none }) rfl (fun K hK => ?_) AllReadyH.nil)
    refine step_app rfl (.tmp 9) (.tmp 12) rfl 2 (by rfl) o4 rfl ⟨g7, 0, none⟩ 4 4 (u4 x.s.toNat) (by rfl) rfl 6 rfl (fun j u hj => by rw [Addr.add_mid]; exact r7.range j u hj) (by simp [u4]) hHeld.size ?_
    intro g8 c8 v8 o8 s8
    refine hK.out _ _ (hHeld.next s8 (fun _ h => .inl h)) (fun hHeld => ?_)
    clear hK K
    try simp only [Act.put, List.setIfInBounds_toArray, List.set_cons_zero, List.set_cons_succ]
    refine wpAnyH_take (i := 9) (oi := { dst := some 3, op := Op.assign (Operand.tmp 13), type := 32, pos := _, after := #[{ on := 8, ground := Ground.data }, { on := 8, ground := Ground.chain }, { on := 0, ground := Ground.phase }, { on := 1, ground := Ground.phase }, { on := 2, ground := Ground.phase }, { on := 3, ground := Ground.phase }, { on := 4, ground := Ground.phase }, { on := 5, ground := Ground.phase }, { on := 6, ground := Ground.phase }, { on := 7, ground := Ground.phase }, { on := 8, ground := Ground.phase }], guard := none }) (v := .slice (some ⟨g8, 0, none⟩) 6 c8) rfl (by kernel_rfl) (by kernel_rfl) (by kernel_rfl) (fun _ _ _ h => h) (Or.inl ⟨by rfl, ?_⟩) hHeld ?_
    · intro u hu
      go_simp
    try simp only [Act.put, List.setIfInBounds_toArray, List.set_cons_zero, List.set_cons_succ]
    refine wpAnyH_done (by kernel_rfl) ?_ _
    exact tail g4 g7 g8 c8 v8 o8 hHeld
  · skip
    go_simp
    refine (rput32_r x.s _).mono ?_
    rintro e v7 ⟨g7, rfl, r7, b7⟩
    try go_wp2_with fail
    try (have o4 := o4.later b7)
    refine hK.out _ _ (hHeld.next (Stp.of_below b7 (fun _ => False)) (fun _ h => h.elim)) (fun hHeld => ?_)
    clear hK K
    try simp only [Act.put, List.setIfInBounds_toArray, List.set_cons_zero, List.set_cons_succ]
    refine wpAnyH_ready (rs := [4]) (by kernel_rfl) (by simp) ?_
    refine (AllReadyH.cons (o := { dst := some 9, op := Op.buildSlice 32 2 #[(0, Operand.tmp 6), (1, Operand.tmp 8)], type := 32, pos := _, after := #[{ on := 1, ground := Ground.data }, { on := 3, ground := Ground.data }], guard := none }) rfl (fun K hK => ?_) AllReadyH.nil)
    refine step_two (B := W.heap.size) rfl (.tmp 6) (.tmp 8) rfl x.k x.n (by rfl) (by rfl) hHeld.size ?_
    intro g4 v4 o4 b4
    try (have r7 := r7.later b4)
    refine hK.out _ _ (hHeld.next (Stp.of_below b4 (fun _ => False)) (fun _ h => h.elim)) (fun hHeld => ?_)
    clear hK K
    try simp only [Act.put, List.setIfInBounds_toArray, List.set_cons_zero, List.set_cons_succ]
    refine wpAnyH_ready (rs := [8]) (by kernel_rfl) (by simp) ?_
    refine (AllReadyH.cons (o := { dst := some 13, op := Op.call { callee := Callee.builtin Builtin.append, args := #[Operand.tmp 9, Operand.tmp 12], argTypes := #[32, 32] }, type := 32, pos := _, after := #[{ on := 4, ground := Ground.data }, { on := 7, ground := Ground.data }, { on := 7, ground := Ground.chain }], guard := none }) rfl (fun K hK => ?_) AllReadyH.nil)
    refine step_app rfl (.tmp 9) (.tmp 12) rfl 2 (by rfl) o4 rfl ⟨g7, 0, none⟩ 4 4 (u4 x.s.toNat) (by rfl) rfl 6 rfl (fun j u hj => by rw [Addr.add_mid]; exact r7.range j u hj) (by simp [u4]) hHeld.size ?_
    intro g8 c8 v8 o8 s8
    refine hK.out _ _ (hHeld.next s8 (fun _ h => .inl h)) (fun hHeld => ?_)
    clear hK K
    try simp only [Act.put, List.setIfInBounds_toArray, List.set_cons_zero, List.set_cons_succ]
    refine wpAnyH_take (i := 9) (oi := { dst := some 3, op := Op.assign (Operand.tmp 13), type := 32, pos := _, after := #[{ on := 8, ground := Ground.data }, { on := 8, ground := Ground.chain }, { on := 0, ground := Ground.phase }, { on := 1, ground := Ground.phase }, { on := 2, ground := Ground.phase }, { on := 3, ground := Ground.phase }, { on := 4, ground := Ground.phase }, { on := 5, ground := Ground.phase }, { on := 6, ground := Ground.phase }, { on := 7, ground := Ground.phase }, { on := 8, ground := Ground.phase }], guard := none }) (v := .slice (some ⟨g8, 0, none⟩) 6 c8) rfl (by kernel_rfl) (by kernel_rfl) (by kernel_rfl) (fun _ _ _ h => h) (Or.inl ⟨by rfl, ?_⟩) hHeld ?_
    · intro u hu
      go_simp
    try simp only [Act.put, List.setIfInBounds_toArray, List.set_cons_zero, List.set_cons_succ]
    refine wpAnyH_done (by kernel_rfl) ?_ _
    exact tail g4 g7 g8 c8 v8 o8 hHeld
end Go.Proofs.YtbpnegklglaekaaDoor
