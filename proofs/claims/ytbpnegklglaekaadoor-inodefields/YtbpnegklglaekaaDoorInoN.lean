/-
  What Fields of layer 10, and the document's, return, for every inode and field: no statement is proved here.
-/
import Derived.Test.YtbpnegklglaekaaDoorInoJ
import Derived.Test.YtbpnegklglaekaaDoorInoK
import Derived.Test.YtbpnegklglaekaaDoorInoH
namespace Go.Proofs.YtbpnegklglaekaaDoor
open Go.ChangeShapes Go.WideShapes Go.ChangeAt Go.RowKit
set_option linter.unusedVariables false

theorem yields_tab {ops : Array Oper} {o : Oper} {a : Act} {S : World → Prop} (hw : Region.wanted o (yielded ops a.tmps) = true) (x : Operand) (ho : o.op = .load 68 x) (f : Nat) (hf : f ≤ 9) (hx : a.eval x = .pointer (some ⟨0, f * 2, none⟩)) (hS : ∀ w, S w → Tb w) :
    YieldsIf Tryd.prog ops S o (.agg (spn (fAt f) (fSz f)).toArray) a := by
  obtain ⟨d, h1, h2⟩ := srtP.und
  exact yieldsIf_load_mid hw 68 x ho 0 (f * 2) hx (spn (fAt f) (fSz f)) _ (fun w h => (hS w h).range f hf) h1 h2 (by rw [srtP.size]; simp)
/-- 'make([]byte, n)'. -/
theorem at_mk8 {ops : Array Oper} {rest : List Oper} {o : Oper} {a : Act} {w : World} {Q : Exit → Act → World → Prop} (hw : Region.wanted o (yielded ops a.tmps) = true) (x : Operand) (ho : o.op = .makeSlice 32 x x) (n : Nat) (hx : a.eval x = .int .i64 (n : Int)) (hn : n ≤ 100000)
    (h : ∀ g w', w.heap.size ≤ g → g < w'.heap.size → Row w' g (List.replicate n 0) → Below w.heap.size w w' → wpList Tryd.prog ops Q rest (a.put o.dst (.slice (some ⟨g, 0, none⟩) n n)) w') : wpList Tryd.prog ops Q (o :: rest) a w := by
  obtain ⟨i, hi, hz, hs, hb⟩ := info_parts infoB1
  have hr := run_make (P := Tryd.prog) w 32 5 i _ (by kernel_rfl) hi hz .i64 .i64 n n (by omega) (Int.le_refl _) (by rw [hb]; omega) (by omega)
  simp only [Int.toNat_natCast, hs] at hr
  have e : madeCells (Value.int .u8 0).cells (n * 1) = (cells (List.replicate n 0)).toArray := by
    unfold madeCells cells
    apply Array.ext
    · simp
    · intro j h1 h2
      simp [Value.cells, Extern.Stop.cell]
      rw [Nat.mod_one]; rfl
  rw [e] at hr
  refine op_val hw _ _ ?_ (h w.heap.size (w.alloc (.cells (cells (List.replicate n 0)).toArray 5)) (Nat.le_refl _) (by simp) (Row.made _ _ _) ((Below.refl _ _).alloc (Nat.le_refl _) _))
  simp only [execOp, ho, hx, Sem.run_bind]
  exact congrArg (fun r => Result.andThen r _) hr
set_option maxRecDepth 100000 in
set_option maxHeartbeats 4000000 in
theorem fields_ok (x : Ino) (f : Nat) (w : World) (hf : f ≤ 9) (hT : Tb w) :
    Calls Tryd.prog 22 #[.agg x.cs.toArray, .int .i64 (f : Int)] w fun e w' => ∃ g, e = .returned (.slice (some ⟨g, 0, none⟩) (fSz f) (fSz f)) ∧ Row w' g (fPart x f) ∧ Below w.heap.size w w' := by
  have H2 := isField_any (f : Int)
  rw [decide_eq_true (show isF f from ⟨by omega, by omega⟩)] at H2
  have hle := f_le f hf
  have hd : f < 10 := by omega
  go_enter Tryd.func22, Tryd.ntmps22
  go_wp2_with (first
    | (refine at_boxI (by rfl) _ (by rfl) x (by rfl) ?_; intro g1 W a1 z1 r1 b1)
    | (go_at_call 34; refine (H2 _).mono ?_; rintro e u ⟨rfl, rfl⟩))
  have hB := b1.size
  have hg1 := r1.lt
  have hTW := hT.later b1
  have k0 : ∀ u, Stp (fun y => W.heap.size ≤ y) W u → Cs u g1 x.cs := fun u hu => r1.step hu (by omega)
  have kT : ∀ u, Stp (fun y => W.heap.size ≤ y) W u → Tb u := fun u hu => hTW.step hu (by omega)
  refine wp_region_held_drew (S := fun u => Stp (fun y => W.heap.size ≤ y) W u) (by kernel_rfl) (Stp.refl _ _).drew (fun hHeld => ?_)
  rename_i K1 hK1
  have tail : ∀ (g5 g6 : Nat) (v8 : World), Cs v8 g5 (spn (fAt f) (fSz f)) → Row v8 g6 (iL x) → Stp (fun y => W.heap.size ≤ y) W v8 →
      K1 ⟨#[.agg x.cs.toArray, .int .i64 (f : Int), .pointer (some ⟨g1, 0, none⟩), undef, .slice none 0 0, .pointer (some ⟨g5, 0, none⟩), .pointer (some ⟨g6, 0, none⟩), undef, .int .i64 (f : Int), .bool true, .bool false, .int .i64 (f : Int), .pointer (some ⟨0, f * 2, none⟩), .agg (spn (fAt f) (fSz f)).toArray, .agg x.cs.toArray, .agg (cells (iL x)).toArray, undef, undef, undef, undef, undef, undef, undef, undef, undef], []⟩ v8 := by
    intro g5 g6 v8 y5 y6 S8
    refine hK1 _ _ ?_
    have c1 := y5.cell 1 _ rfl
    have hsub := fun w => run_subL ar18 w g6 (fAt f) (by omega)
    have hx := iL_len x
    go_wp2_with (first
      | (refine at_mk8 (by rfl) _ (by rfl) (fSz f) (by rfl) (by omega) ?_; intro gn w9 a9 z9 r9 b9; have c0 := (y5.later b9).cell 0 _ rfl; have y69 := y6.later b9)
      | (refine at_copyP rfl _ _ (by rfl) gn 0 (fSz f) (fSz f) g6 (fAt f) (18 - fAt f) (18 - fAt f) (fSz f) (by rfl) (by rfl) _ (iL x) r9 y69 (Nat.min_eq_right (by omega)).symm (by simp) (by omega) ?_; intro w10 r10 s10))
    go_returns
    have S9 : Stp (fun y => w.heap.size ≤ y) w w10 := (((Stp.of_below b1 _).next S8 (fun y hy => .inl (Nat.le_trans hB hy))).next (Stp.of_below b9 (fun _ => False)) (fun _ h => h.elim)).next s10 (fun y hy => .inl (by subst hy; have := S8.size; omega))
    refine ⟨gn, rfl, ?_, S9.below (Nat.le_refl _) (fun _ h => h)⟩
    rw [splice_all _ _ (by simp; omega)] at r10
    exact r10
  clear hK1
  refine wpAnyH_take (i := 0) (oi := { dst := some 11, op := Op.move (Operand.tmp 1), type := 46, pos := _, after := #[], guard := none }) (v := .int .i64 (f : Int)) rfl (by kernel_rfl) (by kernel_rfl) (by kernel_rfl) (fun _ _ _ h => h) (Or.inl ⟨by rfl, ?_⟩) hHeld ?_
  · intro u hu
    go_simp
  try simp only [Act.put, List.setIfInBounds_toArray, List.set_cons_zero, List.set_cons_succ]
  refine wpAnyH_take (i := 1) (oi := { dst := some 12, op := Op.indexAddr 69 (Operand.global 0) (Operand.tmp 11), type := 0, pos := _, after := #[{ on := 0, ground := Ground.data }], guard := none }) (v := .pointer (some ⟨0, f * 2, none⟩)) rfl (by kernel_rfl) (by kernel_rfl) (by kernel_rfl) (fun _ _ _ h => h) (Or.inl ⟨by rfl, ?_⟩) hHeld ?_
  · intro u hu
    (go_simp; intro hq; omega)
  try simp only [Act.put, List.setIfInBounds_toArray, List.set_cons_zero, List.set_cons_succ]
  refine wpAnyH_take (i := 2) (oi := { dst := some 13, op := Op.load 68 (Operand.tmp 12), type := 68, pos := _, after := #[{ on := 1, ground := Ground.data }], guard := none }) (v := .agg (spn (fAt f) (fSz f)).toArray) rfl (by kernel_rfl) (by kernel_rfl) (by kernel_rfl) (fun _ _ _ h => h)
    (yields_tab (by rfl) (.tmp 12) rfl f hf (by rfl) kT) hHeld ?_
  try simp only [Act.put, List.setIfInBounds_toArray, List.set_cons_zero, List.set_cons_succ]
  refine wpAnyH_take (i := 3) (oi := { dst := some 14, op := Op.load 26 (Operand.tmp 2), type := 26, pos := _, after := #[], guard := none }) (v := .agg x.cs.toArray) rfl (by kernel_rfl) (by kernel_rfl) (by kernel_rfl) (fun _ _ _ h => h)
    (yields_I (by rfl) (.tmp 2) rfl g1 (by rfl) x k0) hHeld ?_
  try simp only [Act.put, List.setIfInBounds_toArray, List.set_cons_zero, List.set_cons_succ]
  refine wpAnyH_ready (rs := [4, 5, 6]) (by kernel_rfl) (by simp) ?_
  refine (AllReadyH.cons (o := { dst := some 15, op := Op.call { callee := Callee.value (Operand.func 8), args := #[Operand.tmp 14], argTypes := #[26] }, type := 27, pos := _, after := #[{ on := 3, ground := Ground.data }], guard := none }) rfl (fun K hK => ?_) (AllReadyH.cons (o := { dst := some 5, op := Op.alloc 68, type := 0, pos := _, after := #[], guard := none }) rfl (fun K hK => ?_) (AllReadyH.cons (o := { dst := some 6, op := Op.alloc 27, type := 0, pos := _, after := #[], guard := none }) rfl (fun K hK => ?_) AllReadyH.nil)))
  · skip
    go_simp
    refine (iput_any x _).mono ?_
    rintro e v4 ⟨rfl, b4⟩
    try go_wp2_with fail
    try (have y5 := y5.later b4)
    try (have y6 := y6.later b4)
    refine hK.out _ _ (hHeld.next (Stp.of_below b4 (fun _ => False)) (fun _ h => h.elim)) (fun hHeld => ?_)
    clear hK K
    try simp only [Act.put, List.setIfInBounds_toArray, List.set_cons_zero, List.set_cons_succ]
    refine wpAnyH_ready (rs := [5, 6]) (by kernel_rfl) (by simp) ?_
    refine (AllReadyH.cons (o := { dst := some 5, op := Op.alloc 68, type := 0, pos := _, after := #[], guard := none }) rfl (fun K hK => ?_) (AllReadyH.cons (o := { dst := some 6, op := Op.alloc 27, type := 0, pos := _, after := #[], guard := none }) rfl (fun K hK => ?_) AllReadyH.nil))
    · skip
      refine step_newC 68 2 (spn 0 0) srtP rfl rfl ?_
      intro g5 v5 a5 z5 y5 b5
      have m5 : W.heap.size ≤ g5 := Nat.le_trans hHeld.size a5
      try (have n56 : ¬ g6 = g5 := by have := y6.lt; omega)
      try (have y6 := y6.later b5)
      refine hK.out _ _ (hHeld.next (Stp.of_below b5 (fun _ => False)) (fun _ h => h.elim)) (fun hHeld => ?_)
      clear hK K
      try simp only [Act.put, List.setIfInBounds_toArray, List.set_cons_zero, List.set_cons_succ]
      refine wpAnyH_ready (rs := [6]) (by kernel_rfl) (by simp) ?_
      refine (AllReadyH.cons (o := { dst := some 6, op := Op.alloc 27, type := 0, pos := _, after := #[], guard := none }) rfl (fun K hK => ?_) AllReadyH.nil)
      refine step_new 27 18 ar18 rfl rfl ?_
      intro g6 v6 a6 z6 y6 b6
      have m6 : W.heap.size ≤ g6 := Nat.le_trans hHeld.size a6
      try (have n56 : ¬ g6 = g5 := by have := y5.lt; omega)
      try (have y5 := y5.later b6)
      refine hK.out _ _ (hHeld.next (Stp.of_below b6 (fun _ => False)) (fun _ h => h.elim)) (fun hHeld => ?_)
      clear hK K
      try simp only [Act.put, List.setIfInBounds_toArray, List.set_cons_zero, List.set_cons_succ]
      refine wpAnyH_ready (rs := [7]) (by kernel_rfl) (by simp) ?_
      refine (AllReadyH.cons (o := { dst := none, op := Op.store 68 (Operand.tmp 5) (Operand.tmp 13), type := 0, pos := _, after := #[{ on := 5, ground := Ground.data }, { on := 2, ground := Ground.data }, { on := 4, ground := Ground.chain }, { on := 0, ground := Ground.phase }, { on := 1, ground := Ground.phase }, { on := 2, ground := Ground.phase }, { on := 3, ground := Ground.textOnly Departure.lateStores }, { on := 4, ground := Ground.textOnly Departure.lateStoresUnsure }, { on := 5, ground := Ground.phase }, { on := 6, ground := Ground.phase }], guard := none }) rfl (fun K hK => ?_) AllReadyH.nil)
      refine step_putC 68 2 (spn 0 0) srtP rfl (.tmp 5) (.tmp 13) rfl g5 (by rfl) (spn (fAt f) (fSz f)) (by rfl) rfl (spn_one _ _) _ y5 rfl ?_
      intro v7 y7 s7
      have y67 := y6.step s7 n56
      refine hK.out _ _ (hHeld.next s7 (fun y hy => .inl (by subst hy; exact m5))) (fun hHeld => ?_)
      clear hK K
      try simp only [Act.put]
      refine wpAnyH_ready (rs := [8]) (by kernel_rfl) (by simp) ?_
      refine (AllReadyH.cons (o := { dst := none, op := Op.store 27 (Operand.tmp 6) (Operand.tmp 15), type := 0, pos := _, after := #[{ on := 6, ground := Ground.data }, { on := 4, ground := Ground.data }, { on := 7, ground := Ground.chain }, { on := 0, ground := Ground.phase }, { on := 1, ground := Ground.phase }, { on := 2, ground := Ground.phase }, { on := 3, ground := Ground.phase }, { on := 4, ground := Ground.phase }, { on := 5, ground := Ground.phase }, { on := 6, ground := Ground.phase }, { on := 7, ground := Ground.phase }], guard := none }) rfl (fun K hK => ?_) AllReadyH.nil)
      refine step_put 27 18 ar18 rfl (.tmp 6) (.tmp 15) rfl g6 (by rfl) (iL x) (by rfl) (iL_len x) _ y67 (by simp) ?_
      intro v8 y8 s8
      have y78 := y7.step s8 (fun e => n56 e.symm)
      refine hK.out _ _ (hHeld.next s8 (fun y hy => .inl (by subst hy; exact m6))) (fun hHeld => ?_)
      clear hK K
      try simp only [Act.put]
      refine wpAnyH_done (by kernel_rfl) ?_ _
      exact tail g5 g6 v8 y78 y8 hHeld
    · skip
      refine step_new 27 18 ar18 rfl rfl ?_
      intro g6 v6 a6 z6 y6 b6
      have m6 : W.heap.size ≤ g6 := Nat.le_trans hHeld.size a6
      try (have n56 : ¬ g6 = g5 := by have := y5.lt; omega)
      try (have y5 := y5.later b6)
      refine hK.out _ _ (hHeld.next (Stp.of_below b6 (fun _ => False)) (fun _ h => h.elim)) (fun hHeld => ?_)
      clear hK K
      try simp only [Act.put, List.setIfInBounds_toArray, List.set_cons_zero, List.set_cons_succ]
      refine wpAnyH_ready (rs := [5]) (by kernel_rfl) (by simp) ?_
      refine (AllReadyH.cons (o := { dst := some 5, op := Op.alloc 68, type := 0, pos := _, after := #[], guard := none }) rfl (fun K hK => ?_) AllReadyH.nil)
      refine step_newC 68 2 (spn 0 0) srtP rfl rfl ?_
      intro g5 v5 a5 z5 y5 b5
      have m5 : W.heap.size ≤ g5 := Nat.le_trans hHeld.size a5
      try (have n56 : ¬ g6 = g5 := by have := y6.lt; omega)
      try (have y6 := y6.later b5)
      refine hK.out _ _ (hHeld.next (Stp.of_below b5 (fun _ => False)) (fun _ h => h.elim)) (fun hHeld => ?_)
      clear hK K
      try simp only [Act.put, List.setIfInBounds_toArray, List.set_cons_zero, List.set_cons_succ]
      refine wpAnyH_ready (rs := [7]) (by kernel_rfl) (by simp) ?_
      refine (AllReadyH.cons (o := { dst := none, op := Op.store 68 (Operand.tmp 5) (Operand.tmp 13), type := 0, pos := _, after := #[{ on := 5, ground := Ground.data }, { on := 2, ground := Ground.data }, { on := 4, ground := Ground.chain }, { on := 0, ground := Ground.phase }, { on := 1, ground := Ground.phase }, { on := 2, ground := Ground.phase }, { on := 3, ground := Ground.textOnly Departure.lateStores }, { on := 4, ground := Ground.textOnly Departure.lateStoresUnsure }, { on := 5, ground := Ground.phase }, { on := 6, ground := Ground.phase }], guard := none }) rfl (fun K hK => ?_) AllReadyH.nil)
      refine step_putC 68 2 (spn 0 0) srtP rfl (.tmp 5) (.tmp 13) rfl g5 (by rfl) (spn (fAt f) (fSz f)) (by rfl) rfl (spn_one _ _) _ y5 rfl ?_
      intro v7 y7 s7
      have y67 := y6.step s7 n56
      refine hK.out _ _ (hHeld.next s7 (fun y hy => .inl (by subst hy; exact m5))) (fun hHeld => ?_)
      clear hK K
      try simp only [Act.put]
      refine wpAnyH_ready (rs := [8]) (by kernel_rfl) (by simp) ?_
      refine (AllReadyH.cons (o := { dst := none, op := Op.store 27 (Operand.tmp 6) (Operand.tmp 15), type := 0, pos := _, after := #[{ on := 6, ground := Ground.data }, { on := 4, ground := Ground.data }, { on := 7, ground := Ground.chain }, { on := 0, ground := Ground.phase }, { on := 1, ground := Ground.phase }, { on := 2, ground := Ground.phase }, { on := 3, ground := Ground.phase }, { on := 4, ground := Ground.phase }, { on := 5, ground := Ground.phase }, { on := 6, ground := Ground.phase }, { on := 7, ground := Ground.phase }], guard := none }) rfl (fun K hK => ?_) AllReadyH.nil)
      refine step_put 27 18 ar18 rfl (.tmp 6) (.tmp 15) rfl g6 (by rfl) (iL x) (by rfl) (iL_len x) _ y67 (by simp) ?_
      intro v8 y8 s8
      have y78 := y7.step s8 (fun e => n56 e.symm)
      refine hK.out _ _ (hHeld.next s8 (fun y hy => .inl (by subst hy; exact m6))) (fun hHeld => ?_)
      clear hK K
      try simp only [Act.put]
      refine wpAnyH_done (by kernel_rfl) ?_ _
      exact tail g5 g6 v8 y78 y8 hHeld
  · skip
    refine step_newC 68 2 (spn 0 0) srtP rfl rfl ?_
    intro g5 v5 a5 z5 y5 b5
    have m5 : W.heap.size ≤ g5 := Nat.le_trans hHeld.size a5
    try (have n56 : ¬ g6 = g5 := by have := y6.lt; omega)
    try (have y6 := y6.later b5)
    refine hK.out _ _ (hHeld.next (Stp.of_below b5 (fun _ => False)) (fun _ h => h.elim)) (fun hHeld => ?_)
    clear hK K
    try simp only [Act.put, List.setIfInBounds_toArray, List.set_cons_zero, List.set_cons_succ]
    refine wpAnyH_ready (rs := [4, 6]) (by kernel_rfl) (by simp) ?_
    refine (AllReadyH.cons (o := { dst := some 15, op := Op.call { callee := Callee.value (Operand.func 8), args := #[Operand.tmp 14], argTypes := #[26] }, type := 27, pos := _, after := #[{ on := 3, ground := Ground.data }], guard := none }) rfl (fun K hK => ?_) (AllReadyH.cons (o := { dst := some 6, op := Op.alloc 27, type := 0, pos := _, after := #[], guard := none }) rfl (fun K hK => ?_) AllReadyH.nil))
    · skip
      go_simp
      refine (iput_any x _).mono ?_
      rintro e v4 ⟨rfl, b4⟩
      try go_wp2_with fail
      try (have y5 := y5.later b4)
      try (have y6 := y6.later b4)
      refine hK.out _ _ (hHeld.next (Stp.of_below b4 (fun _ => False)) (fun _ h => h.elim)) (fun hHeld => ?_)
      clear hK K
      try simp only [Act.put, List.setIfInBounds_toArray, List.set_cons_zero, List.set_cons_succ]
      refine wpAnyH_ready (rs := [6]) (by kernel_rfl) (by simp) ?_
      refine (AllReadyH.cons (o := { dst := some 6, op := Op.alloc 27, type := 0, pos := _, after := #[], guard := none }) rfl (fun K hK => ?_) AllReadyH.nil)
      refine step_new 27 18 ar18 rfl rfl ?_
      intro g6 v6 a6 z6 y6 b6
      have m6 : W.heap.size ≤ g6 := Nat.le_trans hHeld.size a6
      try (have n56 : ¬ g6 = g5 := by have := y5.lt; omega)
      try (have y5 := y5.later b6)
      refine hK.out _ _ (hHeld.next (Stp.of_below b6 (fun _ => False)) (fun _ h => h.elim)) (fun hHeld => ?_)
      clear hK K
      try simp only [Act.put, List.setIfInBounds_toArray, List.set_cons_zero, List.set_cons_succ]
      refine wpAnyH_ready (rs := [7]) (by kernel_rfl) (by simp) ?_
      refine (AllReadyH.cons (o := { dst := none, op := Op.store 68 (Operand.tmp 5) (Operand.tmp 13), type := 0, pos := _, after := #[{ on := 5, ground := Ground.data }, { on := 2, ground := Ground.data }, { on := 4, ground := Ground.chain }, { on := 0, ground := Ground.phase }, { on := 1, ground := Ground.phase }, { on := 2, ground := Ground.phase }, { on := 3, ground := Ground.textOnly Departure.lateStores }, { on := 4, ground := Ground.textOnly Departure.lateStoresUnsure }, { on := 5, ground := Ground.phase }, { on := 6, ground := Ground.phase }], guard := none }) rfl (fun K hK => ?_) AllReadyH.nil)
      refine step_putC 68 2 (spn 0 0) srtP rfl (.tmp 5) (.tmp 13) rfl g5 (by rfl) (spn (fAt f) (fSz f)) (by rfl) rfl (spn_one _ _) _ y5 rfl ?_
      intro v7 y7 s7
      have y67 := y6.step s7 n56
      refine hK.out _ _ (hHeld.next s7 (fun y hy => .inl (by subst hy; exact m5))) (fun hHeld => ?_)
      clear hK K
      try simp only [Act.put]
      refine wpAnyH_ready (rs := [8]) (by kernel_rfl) (by simp) ?_
      refine (AllReadyH.cons (o := { dst := none, op := Op.store 27 (Operand.tmp 6) (Operand.tmp 15), type := 0, pos := _, after := #[{ on := 6, ground := Ground.data }, { on := 4, ground := Ground.data }, { on := 7, ground := Ground.chain }, { on := 0, ground := Ground.phase }, { on := 1, ground := Ground.phase }, { on := 2, ground := Ground.phase }, { on := 3, ground := Ground.phase }, { on := 4, ground := Ground.phase }, { on := 5, ground := Ground.phase }, { on := 6, ground := Ground.phase }, { on := 7, ground := Ground.phase }], guard := none }) rfl (fun K hK => ?_) AllReadyH.nil)
      refine step_put 27 18 ar18 rfl (.tmp 6) (.tmp 15) rfl g6 (by rfl) (iL x) (by rfl) (iL_len x) _ y67 (by simp) ?_
      intro v8 y8 s8
      have y78 := y7.step s8 (fun e => n56 e.symm)
      refine hK.out _ _ (hHeld.next s8 (fun y hy => .inl (by subst hy; exact m6))) (fun hHeld => ?_)
      clear hK K
      try simp only [Act.put]
      refine wpAnyH_done (by kernel_rfl) ?_ _
      exact tail g5 g6 v8 y78 y8 hHeld
    · skip
      refine step_new 27 18 ar18 rfl rfl ?_
      intro g6 v6 a6 z6 y6 b6
      have m6 : W.heap.size ≤ g6 := Nat.le_trans hHeld.size a6
      try (have n56 : ¬ g6 = g5 := by have := y5.lt; omega)
      try (have y5 := y5.later b6)
      refine hK.out _ _ (hHeld.next (Stp.of_below b6 (fun _ => False)) (fun _ h => h.elim)) (fun hHeld => ?_)
      clear hK K
      try simp only [Act.put, List.setIfInBounds_toArray, List.set_cons_zero, List.set_cons_succ]
      refine wpAnyH_ready (rs := [4]) (by kernel_rfl) (by simp) ?_
      refine (AllReadyH.cons (o := { dst := some 15, op := Op.call { callee := Callee.value (Operand.func 8), args := #[Operand.tmp 14], argTypes := #[26] }, type := 27, pos := _, after := #[{ on := 3, ground := Ground.data }], guard := none }) rfl (fun K hK => ?_) AllReadyH.nil)
      go_simp
      refine (iput_any x _).mono ?_
      rintro e v4 ⟨rfl, b4⟩
      try go_wp2_with fail
      try (have y5 := y5.later b4)
      try (have y6 := y6.later b4)
      refine hK.out _ _ (hHeld.next (Stp.of_below b4 (fun _ => False)) (fun _ h => h.elim)) (fun hHeld => ?_)
      clear hK K
      try simp only [Act.put, List.setIfInBounds_toArray, List.set_cons_zero, List.set_cons_succ]
      refine wpAnyH_ready (rs := [7]) (by kernel_rfl) (by simp) ?_
      refine (AllReadyH.cons (o := { dst := none, op := Op.store 68 (Operand.tmp 5) (Operand.tmp 13), type := 0, pos := _, after := #[{ on := 5, ground := Ground.data }, { on := 2, ground := Ground.data }, { on := 4, ground := Ground.chain }, { on := 0, ground := Ground.phase }, { on := 1, ground := Ground.phase }, { on := 2, ground := Ground.phase }, { on := 3, ground := Ground.textOnly Departure.lateStores }, { on := 4, ground := Ground.textOnly Departure.lateStoresUnsure }, { on := 5, ground := Ground.phase }, { on := 6, ground := Ground.phase }], guard := none }) rfl (fun K hK => ?_) AllReadyH.nil)
      refine step_putC 68 2 (spn 0 0) srtP rfl (.tmp 5) (.tmp 13) rfl g5 (by rfl) (spn (fAt f) (fSz f)) (by rfl) rfl (spn_one _ _) _ y5 rfl ?_
      intro v7 y7 s7
      have y67 := y6.step s7 n56
      refine hK.out _ _ (hHeld.next s7 (fun y hy => .inl (by subst hy; exact m5))) (fun hHeld => ?_)
      clear hK K
      try simp only [Act.put]
      refine wpAnyH_ready (rs := [8]) (by kernel_rfl) (by simp) ?_
      refine (AllReadyH.cons (o := { dst := none, op := Op.store 27 (Operand.tmp 6) (Operand.tmp 15), type := 0, pos := _, after := #[{ on := 6, ground := Ground.data }, { on := 4, ground := Ground.data }, { on := 7, ground := Ground.chain }, { on := 0, ground := Ground.phase }, { on := 1, ground := Ground.phase }, { on := 2, ground := Ground.phase }, { on := 3, ground := Ground.phase }, { on := 4, ground := Ground.phase }, { on := 5, ground := Ground.phase }, { on := 6, ground := Ground.phase }, { on := 7, ground := Ground.phase }], guard := none }) rfl (fun K hK => ?_) AllReadyH.nil)
      refine step_put 27 18 ar18 rfl (.tmp 6) (.tmp 15) rfl g6 (by rfl) (iL x) (by rfl) (iL_len x) _ y67 (by simp) ?_
      intro v8 y8 s8
      have y78 := y7.step s8 (fun e => n56 e.symm)
      refine hK.out _ _ (hHeld.next s8 (fun y hy => .inl (by subst hy; exact m6))) (fun hHeld => ?_)
      clear hK K
      try simp only [Act.put]
      refine wpAnyH_done (by kernel_rfl) ?_ _
      exact tail g5 g6 v8 y78 y8 hHeld
  · skip
    refine step_new 27 18 ar18 rfl rfl ?_
    intro g6 v6 a6 z6 y6 b6
    have m6 : W.heap.size ≤ g6 := Nat.le_trans hHeld.size a6
    try (have n56 : ¬ g6 = g5 := by have := y5.lt; omega)
    try (have y5 := y5.later b6)
    refine hK.out _ _ (hHeld.next (Stp.of_below b6 (fun _ => False)) (fun _ h => h.elim)) (fun hHeld => ?_)
    clear hK K
    try simp only [Act.put, List.setIfInBounds_toArray, List.set_cons_zero, List.set_cons_succ]
    refine wpAnyH_ready (rs := [4, 5]) (by kernel_rfl) (by simp) ?_
    refine (AllReadyH.cons (o := { dst := some 15, op := Op.call { callee := Callee.value (Operand.func 8), args := #[Operand.tmp 14], argTypes := #[26] }, type := 27, pos := _, after := #[{ on := 3, ground := Ground.data }], guard := none }) rfl (fun K hK => ?_) (AllReadyH.cons (o := { dst := some 5, op := Op.alloc 68, type := 0, pos := _, after := #[], guard := none }) rfl (fun K hK => ?_) AllReadyH.nil))
    · skip
      go_simp
      refine (iput_any x _).mono ?_
      rintro e v4 ⟨rfl, b4⟩
      try go_wp2_with fail
      try (have y5 := y5.later b4)
      try (have y6 := y6.later b4)
      refine hK.out _ _ (hHeld.next (Stp.of_below b4 (fun _ => False)) (fun _ h => h.elim)) (fun hHeld => ?_)
      clear hK K
      try simp only [Act.put, List.setIfInBounds_toArray, List.set_cons_zero, List.set_cons_succ]
      refine wpAnyH_ready (rs := [5]) (by kernel_rfl) (by simp) ?_
      refine (AllReadyH.cons (o := { dst := some 5, op := Op.alloc 68, type := 0, pos := _, after := #[], guard := none }) rfl (fun K hK => ?_) AllReadyH.nil)
      refine step_newC 68 2 (spn 0 0) srtP rfl rfl ?_
      intro g5 v5 a5 z5 y5 b5
      have m5 : W.heap.size ≤ g5 := Nat.le_trans hHeld.size a5
      try (have n56 : ¬ g6 = g5 := by have := y6.lt; omega)
      try (have y6 := y6.later b5)
      refine hK.out _ _ (hHeld.next (Stp.of_below b5 (fun _ => False)) (fun _ h => h.elim)) (fun hHeld => ?_)
      clear hK K
      try simp only [Act.put, List.setIfInBounds_toArray, List.set_cons_zero, List.set_cons_succ]
      refine wpAnyH_ready (rs := [7]) (by kernel_rfl) (by simp) ?_
      refine (AllReadyH.cons (o := { dst := none, op := Op.store 68 (Operand.tmp 5) (Operand.tmp 13), type := 0, pos := _, after := #[{ on := 5, ground := Ground.data }, { on := 2, ground := Ground.data }, { on := 4, ground := Ground.chain }, { on := 0, ground := Ground.phase }, { on := 1, ground := Ground.phase }, { on := 2, ground := Ground.phase }, { on := 3, ground := Ground.textOnly Departure.lateStores }, { on := 4, ground := Ground.textOnly Departure.lateStoresUnsure }, { on := 5, ground := Ground.phase }, { on := 6, ground := Ground.phase }], guard := none }) rfl (fun K hK => ?_) AllReadyH.nil)
      refine step_putC 68 2 (spn 0 0) srtP rfl (.tmp 5) (.tmp 13) rfl g5 (by rfl) (spn (fAt f) (fSz f)) (by rfl) rfl (spn_one _ _) _ y5 rfl ?_
      intro v7 y7 s7
      have y67 := y6.step s7 n56
      refine hK.out _ _ (hHeld.next s7 (fun y hy => .inl (by subst hy; exact m5))) (fun hHeld => ?_)
      clear hK K
      try simp only [Act.put]
      refine wpAnyH_ready (rs := [8]) (by kernel_rfl) (by simp) ?_
      refine (AllReadyH.cons (o := { dst := none, op := Op.store 27 (Operand.tmp 6) (Operand.tmp 15), type := 0, pos := _, after := #[{ on := 6, ground := Ground.data }, { on := 4, ground := Ground.data }, { on := 7, ground := Ground.chain }, { on := 0, ground := Ground.phase }, { on := 1, ground := Ground.phase }, { on := 2, ground := Ground.phase }, { on := 3, ground := Ground.phase }, { on := 4, ground := Ground.phase }, { on := 5, ground := Ground.phase }, { on := 6, ground := Ground.phase }, { on := 7, ground := Ground.phase }], guard := none }) rfl (fun K hK => ?_) AllReadyH.nil)
      refine step_put 27 18 ar18 rfl (.tmp 6) (.tmp 15) rfl g6 (by rfl) (iL x) (by rfl) (iL_len x) _ y67 (by simp) ?_
      intro v8 y8 s8
      have y78 := y7.step s8 (fun e => n56 e.symm)
      refine hK.out _ _ (hHeld.next s8 (fun y hy => .inl (by subst hy; exact m6))) (fun hHeld => ?_)
      clear hK K
      try simp only [Act.put]
      refine wpAnyH_done (by kernel_rfl) ?_ _
      exact tail g5 g6 v8 y78 y8 hHeld
    · skip
      refine step_newC 68 2 (spn 0 0) srtP rfl rfl ?_
      intro g5 v5 a5 z5 y5 b5
      have m5 : W.heap.size ≤ g5 := Nat.le_trans hHeld.size a5
      try (have n56 : ¬ g6 = g5 := by have := y6.lt; omega)
      try (have y6 := y6.later b5)
      refine hK.out _ _ (hHeld.next (Stp.of_below b5 (fun _ => False)) (fun _ h => h.elim)) (fun hHeld => ?_)
      clear hK K
      try simp only [Act.put, List.setIfInBounds_toArray, List.set_cons_zero, List.set_cons_succ]
      refine wpAnyH_ready (rs := [4]) (by kernel_rfl) (by simp) ?_
      refine (AllReadyH.cons (o := { dst := some 15, op := Op.call { callee := Callee.value (Operand.func 8), args := #[Operand.tmp 14], argTypes := #[26] }, type := 27, pos := _, after := #[{ on := 3, ground := Ground.data }], guard := none }) rfl (fun K hK => ?_) AllReadyH.nil)
      go_simp
      refine (iput_any x _).mono ?_
      rintro e v4 ⟨rfl, b4⟩
      try go_wp2_with fail
      try (have y5 := y5.later b4)
      try (have y6 := y6.later b4)
      refine hK.out _ _ (hHeld.next (Stp.of_below b4 (fun _ => False)) (fun _ h => h.elim)) (fun hHeld => ?_)
      clear hK K
      try simp only [Act.put, List.setIfInBounds_toArray, List.set_cons_zero, List.set_cons_succ]
      refine wpAnyH_ready (rs := [7]) (by kernel_rfl) (by simp) ?_
      refine (AllReadyH.cons (o := { dst := none, op := Op.store 68 (Operand.tmp 5) (Operand.tmp 13), type := 0, pos := _, after := #[{ on := 5, ground := Ground.data }, { on := 2, ground := Ground.data }, { on := 4, ground := Ground.chain }, { on := 0, ground := Ground.phase }, { on := 1, ground := Ground.phase }, { on := 2, ground := Ground.phase }, { on := 3, ground := Ground.textOnly Departure.lateStores }, { on := 4, ground := Ground.textOnly Departure.lateStoresUnsure }, { on := 5, ground := Ground.phase }, { on := 6, ground := Ground.phase }], guard := none }) rfl (fun K hK => ?_) AllReadyH.nil)
      refine step_putC 68 2 (spn 0 0) srtP rfl (.tmp 5) (.tmp 13) rfl g5 (by rfl) (spn (fAt f) (fSz f)) (by rfl) rfl (spn_one _ _) _ y5 rfl ?_
      intro v7 y7 s7
      have y67 := y6.step s7 n56
      refine hK.out _ _ (hHeld.next s7 (fun y hy => .inl (by subst hy; exact m5))) (fun hHeld => ?_)
      clear hK K
      try simp only [Act.put]
      refine wpAnyH_ready (rs := [8]) (by kernel_rfl) (by simp) ?_
      refine (AllReadyH.cons (o := { dst := none, op := Op.store 27 (Operand.tmp 6) (Operand.tmp 15), type := 0, pos := _, after := #[{ on := 6, ground := Ground.data }, { on := 4, ground := Ground.data }, { on := 7, ground := Ground.chain }, { on := 0, ground := Ground.phase }, { on := 1, ground := Ground.phase }, { on := 2, ground := Ground.phase }, { on := 3, ground := Ground.phase }, { on := 4, ground := Ground.phase }, { on := 5, ground := Ground.phase }, { on := 6, ground := Ground.phase }, { on := 7, ground := Ground.phase }], guard := none }) rfl (fun K hK => ?_) AllReadyH.nil)
      refine step_put 27 18 ar18 rfl (.tmp 6) (.tmp 15) rfl g6 (by rfl) (iL x) (by rfl) (iL_len x) _ y67 (by simp) ?_
      intro v8 y8 s8
      have y78 := y7.step s8 (fun e => n56 e.symm)
      refine hK.out _ _ (hHeld.next s8 (fun y hy => .inl (by subst hy; exact m6))) (fun hHeld => ?_)
      clear hK K
      try simp only [Act.put]
      refine wpAnyH_done (by kernel_rfl) ?_ _
      exact tail g5 g6 v8 y78 y8 hHeld
theorem Own.bsAt {B : Nat} {w : World} {g cap : Nat} {l : List UInt8} (h : Own B w g cap l) (o n : Nat) (hn : o + n ≤ l.length) : Bs w (some ⟨g, o, none⟩) n (cap - o) (ints ((l.drop o).take n)) := by
  have h1 := h.bs.le
  have h2 := h.bs.cap
  refine ⟨by rw [ints_len]; simp; omega, by omega, by omega, (fun h => by cases h), ints_byte _, fun h0 => ⟨g, o, rfl, fun i hi => ?_⟩⟩
  rw [h.cell (o + i) (by omega), ints_getD]
  rw [List.getD_eq_getElem?_getD, List.getD_eq_getElem?_getD, List.getElem?_take, if_pos hi, List.getElem?_drop]
set_option maxRecDepth 100000 in
theorem fields_any (x : Ino) (f : Int) (w : World) (hT : Tb w) :
    Calls Tryd.prog 22 #[.agg x.cs.toArray, .int .i64 f] w fun e w' => ∃ a c, e = .returned (.slice a (fN f) c) ∧ Bs w' a (fN f) c (ints (fB x f)) ∧ Below w.heap.size w w' := by
  unfold fN fB
  by_cases h : isF f
  · rw [if_pos h, if_pos h]
    obtain ⟨h0, h9⟩ := h
    obtain ⟨f', rfl⟩ := Int.eq_ofNat_of_zero_le h0
    refine (fields_ok x f' w (by omega) hT).mono ?_
    rintro e w' ⟨g, rfl, r, b⟩
    have hl := fPart_len x f' (by omega)
    have hz := f_le f' (by omega)
    have y := r.bs0 (fSz f') (fSz f') (by omega) (Nat.le_refl _) (by unfold maxLen; omega)
    rw [List.take_of_length_le (by omega)] at y
    exact ⟨_, _, rfl, y, b⟩
  · rw [if_neg h, if_neg h]
    have H2 := isField_any f
    rw [decide_eq_false h] at H2
    clear h
    go_enter Tryd.func22, Tryd.ntmps22
    go_wp2_with (first
      | (refine at_boxI (by rfl) _ (by rfl) x (by rfl) ?_; intro g1 W a1 z1 r1 b1)
      | (go_at_call 34; refine (H2 _).mono ?_; rintro e u ⟨rfl, rfl⟩))
    go_returns
    exact ⟨none, 0, rfl, Bs.nilSlice _, b1⟩
set_option maxRecDepth 100000 in
theorem rfields_any (x : Ino) (f : Int) (w : World) :
    Calls Tryd.prog 23 #[.agg x.cs.toArray, .int .i64 f] w fun e w' => ∃ a c, e = .returned (.slice a (fN f) c) ∧ Bs w' a (fN f) c (ints (fB x f)) ∧ Below w.heap.size w w' := by
  unfold fN fB
  by_cases h : isF f
  · rw [if_pos h, if_pos h]
    have H := fun w => rfield_yes f w h
    have hle := f_le f.toNat (by have := h.2; omega)
    have hp : Hid (fPart x f.toNat = ((iL x).drop (fAt f.toNat)).take (fSz f.toNat)) := rfl
    generalize fPart x f.toNat = P at *
    generalize fAt f.toNat = A at *
    generalize fSz f.toNat = Z at *
    clear h
    go_enter Tryd.func23, Tryd.ntmps23
    go_wp2_with (first
      | (refine at_boxI (by rfl) _ (by rfl) x (by rfl) ?_; intro g1 w1 a1 z1 r1 b1)
      | (go_at_call 35; refine (H _).mono ?_; rintro e w2 ⟨rfl, b2⟩; have r2 := r1.later b2)
      | (refine at_getI (by rfl) _ (by rfl) g1 (by rfl) x r2 ?_)
      | (go_at_call 12; refine (riput_any x _).mono ?_; rintro e w4 ⟨gd, cd, rfl, o4, b4⟩; have hcd : 18 ≤ cd := o4.bs.le))
    go_returns
    refine ⟨some ⟨gd, A, none⟩, cd - A, ?_, ?_, bnext (bnext b1 b2 (Nat.le_refl _)) b4 (Nat.le_refl _)⟩
    · show Ending.returned (.slice (some ⟨gd, A, none⟩) (A + Z - A) (cd - A)) = _
      rw [Nat.add_sub_cancel_left]
    · rw [hp.out]
      exact o4.bsAt A Z (by rw [iL_len]; omega)
  · rw [if_neg h, if_neg h]
    have H := fun w => rfield_no f w h
    clear h
    go_enter Tryd.func23, Tryd.ntmps23
    go_wp2_with (first
      | (refine at_boxI (by rfl) _ (by rfl) x (by rfl) ?_; intro g1 W a1 z1 r1 b1)
      | (go_at_call 35; refine (H _).mono ?_; rintro e w2 ⟨rfl, b2⟩))
    go_returns
    exact ⟨none, 0, rfl, Bs.nilSlice _, bnext b1 b2 (Nat.le_refl _)⟩
end Go.Proofs.YtbpnegklglaekaaDoor
