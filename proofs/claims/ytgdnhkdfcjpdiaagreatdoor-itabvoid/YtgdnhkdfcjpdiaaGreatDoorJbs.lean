/-
  Texts of my own, joined: no statement is proved here.
-/
import Derived.BigQuiet
import Derived.Test.YtgdnhkdfcjpdiaaGreatDoorJbr
set_option linter.unusedSimpArgs false
set_option linter.unusedVariables false
namespace Go.Proofs.YtgdnhkdfcjpdiaaGreatDoor
open Go.ChangeShapes Go.WideShapes Go.ChangeAt Go.RowKit
set_option maxRecDepth 100000
theorem yields_tab {ops : Array Oper} {o : Oper} {a : Act} {S : World → Prop} (hw : Region.wanted o (yielded ops a.tmps) = true) (x : Operand) (ho : o.op = .load 160 x) (f : Nat) (hf : f ≤ 9) (hx : a.eval x = .pointer (some ⟨0, f * 2, none⟩)) (hS : ∀ w, S w → Tb w) :
    YieldsIf Tryz.prog ops S o (.agg (spn (fAt f) (fSz f)).toArray) a := by
  obtain ⟨d, h1, h2⟩ := srtPI.und
  exact yieldsIf_load_mid hw 160 x ho 0 (f * 2) hx (spn (fAt f) (fSz f)) _ (fun w h => (hS w h).range f hf) h1 h2 (by rw [srtPI.size]; simp)
theorem at_mk8 {ops : Array Oper} {rest : List Oper} {o : Oper} {a : Act} {w : World} {Q : Exit → Act → World → Prop} (hw : Region.wanted o (yielded ops a.tmps) = true) (x : Operand) (ho : o.op = .makeSlice 105 x x) (n : Nat) (hx : a.eval x = .int .i64 (n : Int)) (hn : n ≤ 100000)
    (h : ∀ g w', w.heap.size ≤ g → g < w'.heap.size → Row w' g (List.replicate n 0) → Below w.heap.size w w' → wpList Tryz.prog ops Q rest (a.put o.dst (.slice (some ⟨g, 0, none⟩) n n)) w') : wpList Tryz.prog ops Q (o :: rest) a w := by
  obtain ⟨i, hi, hz, hs, hb⟩ := info_parts infoB1
  have hr := run_make (P := Tryz.prog) w 105 5 i _ (by kernel_rfl) hi hz .i64 .i64 n n (by omega) (Int.le_refl _) (by rw [hb]; omega) (by omega)
  simp only [Int.toNat_natCast, hs] at hr
  have e : madeCells (Value.int .u8 0).cells (n * 1) = (cells (List.replicate n 0)).toArray := by
    unfold madeCells cells
    apply Array.ext
    · simp
    · intro j h1 h2
      simp [Value.cells, Extern.Stop.cell]
      rw [Nat.mod_one]; rfl
  rw [e] at hr
  refine op_val hw _ _ ?_ (h w.heap.size (w.alloc (.cells (cells (List.replicate n 0)).toArray 5)) (Nat.le_refl _) (by simp) (Row.made _ _ _) ((Below.refl _ _).alloc (Nat.le_refl _) _))
  simp only [execOp, ho, hx, Sem.run_bind]
  exact congrArg (fun r => Result.andThen r _) hr
set_option maxRecDepth 100000 in
set_option maxHeartbeats 4000000 in
theorem fields_ok (x : Ino) (f : Nat) (w : World) (hf : f ≤ 9) (hT : Tb w) :
    Calls Tryz.prog 43 #[.agg x.cs.toArray, .int .i64 (f : Int)] w fun e w' => ∃ g, e = .returned (.slice (some ⟨g, 0, none⟩) (fSz f) (fSz f)) ∧ Row w' g (fPart x f) ∧ Below w.heap.size w w' ∧ w.heap.size ≤ g := by
  have H2 := isField_any (f : Int)
  rw [decide_eq_true (show isF f from ⟨by omega, by omega⟩)] at H2
  have hle := f_le f hf
  have hd : f < 10 := by omega
  go_enter Tryz.func43, Tryz.ntmps43
  go_wp2_with (first
    | (refine at_boxI (by rfl) _ (by rfl) x (by rfl) ?_; intro g1 W a1 z1 r1 b1)
    | (go_at_call 69; refine (H2 _).mono ?_; rintro e u ⟨rfl, rfl⟩))
  have hB := b1.size
  have hg1 := r1.lt
  have hTW := hT.later b1
  have k0 : ∀ u, Stp (fun y => W.heap.size ≤ y) W u → Cs u g1 x.cs := fun u hu => r1.step hu (by omega)
  have kT : ∀ u, Stp (fun y => W.heap.size ≤ y) W u → Tb u := fun u hu => hTW.step hu (by omega)
  refine wp_region_held_drew (S := fun u => Stp (fun y => W.heap.size ≤ y) W u) (by kernel_rfl) (Stp.refl _ _).drew (fun hHeld => ?_)
  rename_i K1 hK1
  have tail : ∀ (g5 g6 : Nat) (v8 : World), Cs v8 g5 (spn (fAt f) (fSz f)) → Row v8 g6 (iL x) → Stp (fun y => W.heap.size ≤ y) W v8 →
      K1 ⟨#[.agg x.cs.toArray, .int .i64 (f : Int), .pointer (some ⟨g1, 0, none⟩), undef, .slice none 0 0, .pointer (some ⟨g5, 0, none⟩), .pointer (some ⟨g6, 0, none⟩), undef, .int .i64 (f : Int), .bool true, .bool false, .int .i64 (f : Int), .pointer (some ⟨0, f * 2, none⟩), .agg (spn (fAt f) (fSz f)).toArray, .agg x.cs.toArray, .agg (cells (iL x)).toArray, undef, undef, undef, undef, undef, undef, undef, undef, undef], []⟩ v8 := by
    intro g5 g6 v8 y5 y6 S8
    refine hK1 _ _ ?_
    have c1 := y5.cell 1 _ rfl
    have hsub := fun w => run_subL ar18 w g6 (fAt f) (by omega)
    have hx := iL_len x
    go_wp2_with (first
      | (refine at_mk8 (by rfl) _ (by rfl) (fSz f) (by rfl) (by omega) ?_; intro gn w9 a9 z9 r9 b9; have c0 := (y5.later b9).cell 0 _ rfl; have y69 := y6.later b9)
      | (refine at_copyP rfl _ _ (by rfl) gn 0 (fSz f) (fSz f) g6 (fAt f) (18 - fAt f) (18 - fAt f) (fSz f) (by rfl) (by rfl) _ (iL x) r9 y69 (Nat.min_eq_right (by omega)).symm (by simp) (by omega) ?_; intro w10 r10 s10))
    go_returns
    have S9 : Stp (fun y => w.heap.size ≤ y) w w10 := (((Stp.of_below b1 _).next S8 (fun y hy => .inl (Nat.le_trans hB hy))).next (Stp.of_below b9 (fun _ => False)) (fun _ h => h.elim)).next s10 (fun y hy => .inl (by subst hy; have := S8.size; omega))
    refine ⟨gn, rfl, ?_, S9.below (Nat.le_refl _) (fun _ h => h), by have := S8.size; omega⟩
    rw [splice_all _ _ (by simp; omega)] at r10
    exact r10
  clear hK1
  refine tl 0 (.int .i64 (f : Int)) rfl ?_
  try simp only [z]
  refine tl 1 (.pointer (some ⟨0, f * 2, none⟩)) rfl ?_ (fun u hu => by (go_simp; intro hq; omega))
  try simp only [z]
  refine tm 2 (.agg (spn (fAt f) (fSz f)).toArray) rfl
    (yields_tab (by rfl) (.tmp 12) rfl f hf (by rfl) kT) ?_
  try simp only [z]
  refine tm 3 (.agg x.cs.toArray) rfl
    (yields_I (by rfl) (.tmp 2) rfl g1 (by rfl) x k0) ?_
  try simp only [z]
  refine wpAnyH_ready (rs := [4, 5, 6]) (by kernel_rfl) (by simp) ?_
  refine (AllReadyH.cons (o := ⟨some 15, .call { callee := Callee.value (.func 73), args := #[.tmp 14], argTypes := #[26] }, 104, _, #[⟨3, .data⟩], none⟩) rfl (fun K hK => ?_) (AllReadyH.cons (o := ⟨some 5, .alloc 160, 0, _, #[], none⟩) rfl (fun K hK => ?_) (AllReadyH.cons (o := ⟨some 6, .alloc 104, 0, _, #[], none⟩) rfl (fun K hK => ?_) AllReadyH.nil)))
  · skip
    go_simp
    refine (iput_any x _).mono ?_
    rintro e v4 ⟨rfl, b4⟩
    try go_wp2_with fail
    try (have y5 := y5.later b4)
    try (have y6 := y6.later b4)
    refine hK.out _ _ (hHeld.next (Stp.of_below b4 (fun _ => False)) (fun _ h => h.elim)) (fun hHeld => ?_)
    clear hK K
    try simp only [z]
    refine wpAnyH_ready (rs := [5, 6]) (by kernel_rfl) (by simp) ?_
    refine (AllReadyH.cons (o := ⟨some 5, .alloc 160, 0, _, #[], none⟩) rfl (fun K hK => ?_) (AllReadyH.cons (o := ⟨some 6, .alloc 104, 0, _, #[], none⟩) rfl (fun K hK => ?_) AllReadyH.nil))
    · skip
      refine step_newC 160 2 (spn 0 0) srtPI rfl rfl ?_
      intro g5 v5 a5 z5 y5 b5
      have m5 : W.heap.size ≤ g5 := Nat.le_trans hHeld.size a5
      try (have n56 : ¬ g6 = g5 := by have := y6.lt; omega)
      try (have y6 := y6.later b5)
      refine hK.out _ _ (hHeld.next (Stp.of_below b5 (fun _ => False)) (fun _ h => h.elim)) (fun hHeld => ?_)
      clear hK K
      try simp only [z]
      refine rd 6 rfl (fun K hK => ?_)
      refine step_new 104 18 ar18 rfl rfl ?_
      intro g6 v6 a6 z6 y6 b6
      have m6 : W.heap.size ≤ g6 := Nat.le_trans hHeld.size a6
      try (have n56 : ¬ g6 = g5 := by have := y5.lt; omega)
      try (have y5 := y5.later b6)
      refine hK.out _ _ (hHeld.next (Stp.of_below b6 (fun _ => False)) (fun _ h => h.elim)) (fun hHeld => ?_)
      clear hK K
      try simp only [z]
      refine rd 7 rfl (fun K hK => ?_)
      refine step_putC 160 2 (spn 0 0) srtPI rfl (.tmp 5) (.tmp 13) rfl g5 (by rfl) (spn (fAt f) (fSz f)) (by rfl) rfl (spn_one _ _) _ y5 rfl ?_
      intro v7 y7 s7
      have y67 := y6.step s7 n56
      refine hK.out _ _ (hHeld.next s7 (fun y hy => .inl (by subst hy; exact m5))) (fun hHeld => ?_)
      clear hK K
      try simp only [Act.put]
      refine rd 8 rfl (fun K hK => ?_)
      refine step_put 104 18 ar18 rfl (.tmp 6) (.tmp 15) rfl g6 (by rfl) (iL x) (by rfl) (iL_len x) _ y67 (by simp) ?_
      intro v8 y8 s8
      have y78 := y7.step s8 (fun e => n56 e.symm)
      refine hK.out _ _ (hHeld.next s8 (fun y hy => .inl (by subst hy; exact m6))) (fun hHeld => ?_)
      clear hK K
      try simp only [Act.put]
      refine wpAnyH_done (by kernel_rfl) ?_ _
      exact tail g5 g6 v8 y78 y8 hHeld
    · skip
      refine step_new 104 18 ar18 rfl rfl ?_
      intro g6 v6 a6 z6 y6 b6
      have m6 : W.heap.size ≤ g6 := Nat.le_trans hHeld.size a6
      try (have n56 : ¬ g6 = g5 := by have := y5.lt; omega)
      try (have y5 := y5.later b6)
      refine hK.out _ _ (hHeld.next (Stp.of_below b6 (fun _ => False)) (fun _ h => h.elim)) (fun hHeld => ?_)
      clear hK K
      try simp only [z]
      refine rd 5 rfl (fun K hK => ?_)
      refine step_newC 160 2 (spn 0 0) srtPI rfl rfl ?_
      intro g5 v5 a5 z5 y5 b5
      have m5 : W.heap.size ≤ g5 := Nat.le_trans hHeld.size a5
      try (have n56 : ¬ g6 = g5 := by have := y6.lt; omega)
      try (have y6 := y6.later b5)
      refine hK.out _ _ (hHeld.next (Stp.of_below b5 (fun _ => False)) (fun _ h => h.elim)) (fun hHeld => ?_)
      clear hK K
      try simp only [z]
      refine rd 7 rfl (fun K hK => ?_)
      refine step_putC 160 2 (spn 0 0) srtPI rfl (.tmp 5) (.tmp 13) rfl g5 (by rfl) (spn (fAt f) (fSz f)) (by rfl) rfl (spn_one _ _) _ y5 rfl ?_
      intro v7 y7 s7
      have y67 := y6.step s7 n56
      refine hK.out _ _ (hHeld.next s7 (fun y hy => .inl (by subst hy; exact m5))) (fun hHeld => ?_)
      clear hK K
      try simp only [Act.put]
      refine rd 8 rfl (fun K hK => ?_)
      refine step_put 104 18 ar18 rfl (.tmp 6) (.tmp 15) rfl g6 (by rfl) (iL x) (by rfl) (iL_len x) _ y67 (by simp) ?_
      intro v8 y8 s8
      have y78 := y7.step s8 (fun e => n56 e.symm)
      refine hK.out _ _ (hHeld.next s8 (fun y hy => .inl (by subst hy; exact m6))) (fun hHeld => ?_)
      clear hK K
      try simp only [Act.put]
      refine wpAnyH_done (by kernel_rfl) ?_ _
      exact tail g5 g6 v8 y78 y8 hHeld
  · skip
    refine step_newC 160 2 (spn 0 0) srtPI rfl rfl ?_
    intro g5 v5 a5 z5 y5 b5
    have m5 : W.heap.size ≤ g5 := Nat.le_trans hHeld.size a5
    try (have n56 : ¬ g6 = g5 := by have := y6.lt; omega)
    try (have y6 := y6.later b5)
    refine hK.out _ _ (hHeld.next (Stp.of_below b5 (fun _ => False)) (fun _ h => h.elim)) (fun hHeld => ?_)
    clear hK K
    try simp only [z]
    refine wpAnyH_ready (rs := [4, 6]) (by kernel_rfl) (by simp) ?_
    refine (AllReadyH.cons (o := ⟨some 15, .call { callee := Callee.value (.func 73), args := #[.tmp 14], argTypes := #[26] }, 104, _, #[⟨3, .data⟩], none⟩) rfl (fun K hK => ?_) (AllReadyH.cons (o := ⟨some 6, .alloc 104, 0, _, #[], none⟩) rfl (fun K hK => ?_) AllReadyH.nil))
    · skip
      go_simp
      refine (iput_any x _).mono ?_
      rintro e v4 ⟨rfl, b4⟩
      try go_wp2_with fail
      try (have y5 := y5.later b4)
      try (have y6 := y6.later b4)
      refine hK.out _ _ (hHeld.next (Stp.of_below b4 (fun _ => False)) (fun _ h => h.elim)) (fun hHeld => ?_)
      clear hK K
      try simp only [z]
      refine rd 6 rfl (fun K hK => ?_)
      refine step_new 104 18 ar18 rfl rfl ?_
      intro g6 v6 a6 z6 y6 b6
      have m6 : W.heap.size ≤ g6 := Nat.le_trans hHeld.size a6
      try (have n56 : ¬ g6 = g5 := by have := y5.lt; omega)
      try (have y5 := y5.later b6)
      refine hK.out _ _ (hHeld.next (Stp.of_below b6 (fun _ => False)) (fun _ h => h.elim)) (fun hHeld => ?_)
      clear hK K
      try simp only [z]
      refine rd 7 rfl (fun K hK => ?_)
      refine step_putC 160 2 (spn 0 0) srtPI rfl (.tmp 5) (.tmp 13) rfl g5 (by rfl) (spn (fAt f) (fSz f)) (by rfl) rfl (spn_one _ _) _ y5 rfl ?_
      intro v7 y7 s7
      have y67 := y6.step s7 n56
      refine hK.out _ _ (hHeld.next s7 (fun y hy => .inl (by subst hy; exact m5))) (fun hHeld => ?_)
      clear hK K
      try simp only [Act.put]
      refine rd 8 rfl (fun K hK => ?_)
      refine step_put 104 18 ar18 rfl (.tmp 6) (.tmp 15) rfl g6 (by rfl) (iL x) (by rfl) (iL_len x) _ y67 (by simp) ?_
      intro v8 y8 s8
      have y78 := y7.step s8 (fun e => n56 e.symm)
      refine hK.out _ _ (hHeld.next s8 (fun y hy => .inl (by subst hy; exact m6))) (fun hHeld => ?_)
      clear hK K
      try simp only [Act.put]
      refine wpAnyH_done (by kernel_rfl) ?_ _
      exact tail g5 g6 v8 y78 y8 hHeld
    · skip
      refine step_new 104 18 ar18 rfl rfl ?_
      intro g6 v6 a6 z6 y6 b6
      have m6 : W.heap.size ≤ g6 := Nat.le_trans hHeld.size a6
      try (have n56 : ¬ g6 = g5 := by have := y5.lt; omega)
      try (have y5 := y5.later b6)
      refine hK.out _ _ (hHeld.next (Stp.of_below b6 (fun _ => False)) (fun _ h => h.elim)) (fun hHeld => ?_)
      clear hK K
      try simp only [z]
      refine rd 4 rfl (fun K hK => ?_)
      go_simp
      refine (iput_any x _).mono ?_
      rintro e v4 ⟨rfl, b4⟩
      try go_wp2_with fail
      try (have y5 := y5.later b4)
      try (have y6 := y6.later b4)
      refine hK.out _ _ (hHeld.next (Stp.of_below b4 (fun _ => False)) (fun _ h => h.elim)) (fun hHeld => ?_)
      clear hK K
      try simp only [z]
      refine rd 7 rfl (fun K hK => ?_)
      refine step_putC 160 2 (spn 0 0) srtPI rfl (.tmp 5) (.tmp 13) rfl g5 (by rfl) (spn (fAt f) (fSz f)) (by rfl) rfl (spn_one _ _) _ y5 rfl ?_
      intro v7 y7 s7
      have y67 := y6.step s7 n56
      refine hK.out _ _ (hHeld.next s7 (fun y hy => .inl (by subst hy; exact m5))) (fun hHeld => ?_)
      clear hK K
      try simp only [Act.put]
      refine rd 8 rfl (fun K hK => ?_)
      refine step_put 104 18 ar18 rfl (.tmp 6) (.tmp 15) rfl g6 (by rfl) (iL x) (by rfl) (iL_len x) _ y67 (by simp) ?_
      intro v8 y8 s8
      have y78 := y7.step s8 (fun e => n56 e.symm)
      refine hK.out _ _ (hHeld.next s8 (fun y hy => .inl (by subst hy; exact m6))) (fun hHeld => ?_)
      clear hK K
      try simp only [Act.put]
      refine wpAnyH_done (by kernel_rfl) ?_ _
      exact tail g5 g6 v8 y78 y8 hHeld
  · skip
    refine step_new 104 18 ar18 rfl rfl ?_
    intro g6 v6 a6 z6 y6 b6
    have m6 : W.heap.size ≤ g6 := Nat.le_trans hHeld.size a6
    try (have n56 : ¬ g6 = g5 := by have := y5.lt; omega)
    try (have y5 := y5.later b6)
    refine hK.out _ _ (hHeld.next (Stp.of_below b6 (fun _ => False)) (fun _ h => h.elim)) (fun hHeld => ?_)
    clear hK K
    try simp only [z]
    refine wpAnyH_ready (rs := [4, 5]) (by kernel_rfl) (by simp) ?_
    refine (AllReadyH.cons (o := ⟨some 15, .call { callee := Callee.value (.func 73), args := #[.tmp 14], argTypes := #[26] }, 104, _, #[⟨3, .data⟩], none⟩) rfl (fun K hK => ?_) (AllReadyH.cons (o := ⟨some 5, .alloc 160, 0, _, #[], none⟩) rfl (fun K hK => ?_) AllReadyH.nil))
    · skip
      go_simp
      refine (iput_any x _).mono ?_
      rintro e v4 ⟨rfl, b4⟩
      try go_wp2_with fail
      try (have y5 := y5.later b4)
      try (have y6 := y6.later b4)
      refine hK.out _ _ (hHeld.next (Stp.of_below b4 (fun _ => False)) (fun _ h => h.elim)) (fun hHeld => ?_)
      clear hK K
      try simp only [z]
      refine rd 5 rfl (fun K hK => ?_)
      refine step_newC 160 2 (spn 0 0) srtPI rfl rfl ?_
      intro g5 v5 a5 z5 y5 b5
      have m5 : W.heap.size ≤ g5 := Nat.le_trans hHeld.size a5
      try (have n56 : ¬ g6 = g5 := by have := y6.lt; omega)
      try (have y6 := y6.later b5)
      refine hK.out _ _ (hHeld.next (Stp.of_below b5 (fun _ => False)) (fun _ h => h.elim)) (fun hHeld => ?_)
      clear hK K
      try simp only [z]
      refine rd 7 rfl (fun K hK => ?_)
      refine step_putC 160 2 (spn 0 0) srtPI rfl (.tmp 5) (.tmp 13) rfl g5 (by rfl) (spn (fAt f) (fSz f)) (by rfl) rfl (spn_one _ _) _ y5 rfl ?_
      intro v7 y7 s7
      have y67 := y6.step s7 n56
      refine hK.out _ _ (hHeld.next s7 (fun y hy => .inl (by subst hy; exact m5))) (fun hHeld => ?_)
      clear hK K
      try simp only [Act.put]
      refine rd 8 rfl (fun K hK => ?_)
      refine step_put 104 18 ar18 rfl (.tmp 6) (.tmp 15) rfl g6 (by rfl) (iL x) (by rfl) (iL_len x) _ y67 (by simp) ?_
      intro v8 y8 s8
      have y78 := y7.step s8 (fun e => n56 e.symm)
      refine hK.out _ _ (hHeld.next s8 (fun y hy => .inl (by subst hy; exact m6))) (fun hHeld => ?_)
      clear hK K
      try simp only [Act.put]
      refine wpAnyH_done (by kernel_rfl) ?_ _
      exact tail g5 g6 v8 y78 y8 hHeld
    · skip
      refine step_newC 160 2 (spn 0 0) srtPI rfl rfl ?_
      intro g5 v5 a5 z5 y5 b5
      have m5 : W.heap.size ≤ g5 := Nat.le_trans hHeld.size a5
      try (have n56 : ¬ g6 = g5 := by have := y6.lt; omega)
      try (have y6 := y6.later b5)
      refine hK.out _ _ (hHeld.next (Stp.of_below b5 (fun _ => False)) (fun _ h => h.elim)) (fun hHeld => ?_)
      clear hK K
      try simp only [z]
      refine rd 4 rfl (fun K hK => ?_)
      go_simp
      refine (iput_any x _).mono ?_
      rintro e v4 ⟨rfl, b4⟩
      try go_wp2_with fail
      try (have y5 := y5.later b4)
      try (have y6 := y6.later b4)
      refine hK.out _ _ (hHeld.next (Stp.of_below b4 (fun _ => False)) (fun _ h => h.elim)) (fun hHeld => ?_)
      clear hK K
      try simp only [z]
      refine rd 7 rfl (fun K hK => ?_)
      refine step_putC 160 2 (spn 0 0) srtPI rfl (.tmp 5) (.tmp 13) rfl g5 (by rfl) (spn (fAt f) (fSz f)) (by rfl) rfl (spn_one _ _) _ y5 rfl ?_
      intro v7 y7 s7
      have y67 := y6.step s7 n56
      refine hK.out _ _ (hHeld.next s7 (fun y hy => .inl (by subst hy; exact m5))) (fun hHeld => ?_)
      clear hK K
      try simp only [Act.put]
      refine rd 8 rfl (fun K hK => ?_)
      refine step_put 104 18 ar18 rfl (.tmp 6) (.tmp 15) rfl g6 (by rfl) (iL x) (by rfl) (iL_len x) _ y67 (by simp) ?_
      intro v8 y8 s8
      have y78 := y7.step s8 (fun e => n56 e.symm)
      refine hK.out _ _ (hHeld.next s8 (fun y hy => .inl (by subst hy; exact m6))) (fun hHeld => ?_)
      clear hK K
      try simp only [Act.put]
      refine wpAnyH_done (by kernel_rfl) ?_ _
      exact tail g5 g6 v8 y78 y8 hHeld
set_option maxRecDepth 100000 in
theorem fields_new (x : Ino) (f : Int) (w : World) (hT : Tb w) (h : isF f) :
    Calls Tryz.prog 43 #[.agg x.cs.toArray, .int .i64 f] w fun e w' => ∃ s : Sv, e = .returned (.slice s.a s.n s.c) ∧ BsS w' s (ints (fB x f)) ∧ InE (fun y => w.heap.size ≤ y) s ∧ Below w.heap.size w w' := by
  unfold fB
  rw [if_pos h]
  obtain ⟨h0, h9⟩ := h
  obtain ⟨f', rfl⟩ := Int.eq_ofNat_of_zero_le h0
  refine (fields_ok x f' w (by omega) hT).mono ?_
  rintro e w' ⟨g, rfl, r, b, hg⟩
  have hl := fPart_len x f' (by omega)
  have hz := f_le f' (by omega)
  have y := r.bs0 (fSz f') (fSz f') (by omega) (Nat.le_refl _) (by unfold maxLen; omega)
  rw [List.take_of_length_le (by omega)] at y
  exact ⟨⟨some ⟨g, 0, none⟩, fSz f', fSz f'⟩, rfl, y, (fun ad e _ => by injection e with e; subst e; exact hg), b⟩
set_option maxRecDepth 100000
theorem srtSlt : Srt 57 4 [.int .i64 0, .int .i64 0, .int .i64 0, .int .i64 0] :=
  ⟨⟨_, Tryz.underlying57, rfl⟩, by kernel_rfl, fun w => (zero_of_info (v := .agg #[.int .i64 0, .int .i64 0, .int .i64 0, .int .i64 0]) (n := 4) (by kernel_rfl)).1 w, rfl, by intro v hv; simp at hv; subst hv; rfl⟩
abbrev sltC (s : Gm) (n : Int) : List Value := [.int .i64 (s.sec n), .int .i64 (s.slt n), .int .i64 (s.grp n), .int .i64 (s.idx n)]
theorem sltC_one (s : Gm) (n : Int) : ∀ v ∈ sltC s n, v.oneCell' = true := by intro v hv; simp at hv; rcases hv with rfl | rfl | rfl | rfl <;> rfl
theorem slt_b (s : Gm) (n : Int) : isSl (s.slt n) := by unfold Gm.slt; constructor <;> omega
def VZ.inE (V : VZ) (n : Int) : Int := if V.s.ierr n = 0 then V.ldE (V.s.sec n) 4 else V.s.ierr n
def VZ.inX (V : VZ) (n : Int) : Ino := if V.s.ierr n = 0 then (if V.ldE (V.s.sec n) 4 = 0 then aI (V.ldB (V.s.sec n) 4) (V.s.slt n) else Ino.zero) else Ino.zero
def VZ.inV (V : VZ) (n : Int) : VZ := if V.s.ierr n = 0 then V.look (V.s.sec n) else V
theorem sec_wf (s : Gm) (n : Int) : wfi (s.sec n) := by
  by_cases h : s.hasI n
  · obtain ⟨g0, g1, x0, x1, -⟩ := Gm.inoF h
    have e : s.sec n = 2 + s.grp n * s.span + 2 + s.idx n / 3 := if_pos h
    obtain ⟨p0, p1⟩ := Gm.prodB h.1 g0 (by omega)
    have := h.1.2.2.2.1
    rw [e]; exact wfi_of (by omega)
  · have e : s.sec n = 0 := if_neg h
    rw [e]; exact wfi_of (by omega)
section
variable {u : World} {A : VA} {V : VZ} {T : Nat → Prop} {t k : Nat}
theorem VOk.inV (h : VOk t k V) (n : Int) : VOk (t + 1) k (V.inV n) := by
  unfold VZ.inV
  split
  · exact h.look _
  · exact h.mono (by omega) (Nat.le_refl _)
set_option maxHeartbeats 8000000 in
theorem iload_any (h : Vo u A V T) (ok : VOk t k V) (ht : t ≤ 8990) (n : Int) :
    Calls Tryz.prog 5 #[.pointer (some ⟨A.v, 0, none⟩), .int .i64 n] u fun e w' => e = .returned (.tuple #[.agg (V.inX n).cs.toArray, .int .i64 (V.inE n)]) ∧ VG A (V.inV n) T u w' := by
  have hG := fun w' (b : Below u.heap.size u w') => (h.later b).geom
  have hI := fun w' => inode_any V.s n w'
  have hL := fun w' (b : Below u.heap.size u w') => vload_any (h.later b) ok ht (V.s.sec n) 4 (sec_wf _ _)
  have hlt := h.lt
  have h4 := sltC_one V.s n
  have hsl := slt_b V.s n
  unfold VZ.inE VZ.inX VZ.inV
  unfold sltC at h4
  generalize V.s.sec n = ps at *
  generalize V.s.slt n = sl at *
  generalize V.s.grp n = gn at *
  generalize V.s.idx n = xn at *
  have hAt := fun p w' => iat_any p sl w'
  rw [show slE sl = 0 from if_pos hsl] at hAt
  obtain ⟨e0, he0⟩ : ∃ e0, Hid (V.s.ierr n = e0) := ⟨_, rfl⟩
  rw [he0.out] at hI ⊢
  clear he0 hsl
  have fin : ∀ {w3 w4 w5 w6 w8 : World} {gr : Nat}, Below u.heap.size u w3 → u.heap.size ≤ gr → gr < w3.heap.size → VG A (V.look ps) T w3 w5 → Below w5.heap.size w5 w6 → Stp (fun y => y = gr) w6 w8 → VG A (V.look ps) T u w8 := fun {w3 w4 w5 w6 w8 gr} b3 a1 z1 k5 b6 s8 => VG.own hlt b3 a1 z1 k5 b6 s8
  by_cases h0 : e0 = 0
  · subst h0
    rw [if_pos rfl, if_pos rfl, if_pos rfl]
    generalize V.ldB ps 4 = L0 at *
    generalize V.ldE ps 4 = e1 at *
    have hL0 := L0.len
    by_cases h1 : e1 = 0
    · subst h1
      rw [if_pos rfl]
      go_enter Tryz.func5, Tryz.ntmps5
      go_wp2_with (first
        | (refine at_newI (by rfl) (by rfl) ?_; intro gr w1 a1 z1 r1 b1)
        | (go_at_call 13; refine (hG _ b1).mono ?_; rintro e w2 ⟨rfl, b2⟩; clear hG)
        | (go_at_call 12; refine (hI _).mono ?_; rintro e w3 ⟨rfl, b3⟩; clear hI)
        | (refine at_newC 57 4 _ srtSlt (by rfl) (by rfl) ?_; intro gs w4 a4 z4 r4 b4)
        | (refine at_putC 57 4 _ srtSlt (by rfl) _ _ (by rfl) gs (by rfl) [.int .i64 ps, .int .i64 sl, .int .i64 gn, .int .i64 xn] (by rfl) rfl h4 _ r4 (by rfl) ?_; intro w5 r5 s5
           have k2 := b2.size
           have k3 := b3.size
           have k4 := b4.size
           have k1 := b1.size
           have B5 : Below u.heap.size u w5 := ((Stp.of_below (bnext (bnext (bnext b1 b2 (Nat.le_refl _)) b3 (Nat.le_refl _)) b4 (Nat.le_refl _)) (fun _ => False)).next s5 (fun x e => .inr (by omega))).below (Nat.le_refl _) (fun x e => e.elim)
           have rr5 := ((r1.later b2).later b3).later b4 |>.step s5 (fun e => by omega)
           have c0 := r5.cell 0 _ rfl)
        | (go_at_call 14; refine (hL _ B5).mono ?_; rintro e w6 ⟨rfl, k6⟩; clear hL c0
           have q5 := s5.size
           have rr6 := rr5.step k6.stp (fun e => by have := hlt _ e; omega)
           have rs6 := r5.step k6.stp (fun e => by have := hlt _ e; omega))
        | (refine at_new 62 54 arrL (by rfl) (by rfl) ?_; intro gp w7 a7 z7 r7 b7)
        | (refine at_put 62 54 arrL (by rfl) _ _ (by rfl) gp (by rfl) L0.l (by rfl) hL0 _ r7 (by simp) ?_; intro w8 r8 s8
           have B8 : Below w6.heap.size w6 w8 := ((Stp.of_below b7 (fun _ => False)).next s8 (fun x e => .inr (by omega))).below (Nat.le_refl _) (fun x e => e.elim)
           have c1 := (rs6.later B8).cell 1 _ rfl)
        | (refine at_get 62 54 arrL (by rfl) _ (by rfl) gp (by rfl) _ r8 hL0 ?_)
        | (go_at_call 15; refine (hAt _ _).mono ?_; rintro e w9 ⟨rfl, b9⟩; clear hAt c1)
        | (refine at_putI (by rfl) _ _ (by rfl) gr (by rfl) _ (by rfl) Ino.zero ((rr6.later B8).later b9) ?_; intro w10 r10 s10))
      exact bodyPost_ret (retCt srtI Tryz.results5 rfl rfl r10 rfl) rfl ⟨rfl, fin (w4 := w5) B5 a1 (by omega) k6 (bnext B8 b9 (Nat.le_refl _)) s10⟩
    · have d1 : ¬ e1 = 0 := h1
      rw [if_neg h1]
      clear h1 hAt
      go_enter Tryz.func5, Tryz.ntmps5
      go_wp2_with (first
        | (refine at_newI (by rfl) (by rfl) ?_; intro gr w1 a1 z1 r1 b1)
        | (go_at_call 13; refine (hG _ b1).mono ?_; rintro e w2 ⟨rfl, b2⟩; clear hG)
        | (go_at_call 12; refine (hI _).mono ?_; rintro e w3 ⟨rfl, b3⟩; clear hI)
        | (refine at_newC 57 4 _ srtSlt (by rfl) (by rfl) ?_; intro gs w4 a4 z4 r4 b4)
        | (refine at_putC 57 4 _ srtSlt (by rfl) _ _ (by rfl) gs (by rfl) [.int .i64 ps, .int .i64 sl, .int .i64 gn, .int .i64 xn] (by rfl) rfl h4 _ r4 (by rfl) ?_; intro w5 r5 s5
           have k2 := b2.size
           have k3 := b3.size
           have k4 := b4.size
           have k1 := b1.size
           have B5 : Below u.heap.size u w5 := ((Stp.of_below (bnext (bnext (bnext b1 b2 (Nat.le_refl _)) b3 (Nat.le_refl _)) b4 (Nat.le_refl _)) (fun _ => False)).next s5 (fun x e => .inr (by omega))).below (Nat.le_refl _) (fun x e => e.elim)
           have rr5 := ((r1.later b2).later b3).later b4 |>.step s5 (fun e => by omega)
           have c0 := r5.cell 0 _ rfl)
        | (go_at_call 14; refine (hL _ B5).mono ?_; rintro e w6 ⟨rfl, k6⟩; clear hL c0
           have q5 := s5.size
           have rr6 := rr5.step k6.stp (fun e => by have := hlt _ e; omega))
        | (refine at_new 62 54 arrL (by rfl) (by rfl) ?_; intro gp w7 a7 z7 r7 b7)
        | (refine at_put 62 54 arrL (by rfl) _ _ (by rfl) gp (by rfl) L0.l (by rfl) hL0 _ r7 (by simp) ?_; intro w8 r8 s8
           have B8 : Below w6.heap.size w6 w8 := ((Stp.of_below b7 (fun _ => False)).next s8 (fun x e => .inr (by omega))).below (Nat.le_refl _) (fun x e => e.elim))
        | (refine at_bld0 (by rfl) (by rfl) ?_)
        | (refine at_putI (by rfl) _ _ (by rfl) gr (by rfl) Ino.zero (by rfl) Ino.zero (rr6.later B8) ?_; intro w10 r10 s10))
      exact bodyPost_ret (retCt srtI Tryz.results5 rfl rfl r10 rfl) rfl ⟨rfl, fin (w4 := w5) B5 a1 (by omega) k6 B8 s10⟩
  · have d0 : ¬ e0 = 0 := h0
    rw [if_neg h0, if_neg h0, if_neg h0]
    clear hL h0 fin hAt
    go_enter Tryz.func5, Tryz.ntmps5
    go_wp2_with (first
      | (refine at_newI (by rfl) (by rfl) ?_; intro gr w1 a1 z1 r1 b1)
      | (go_at_call 13; refine (hG _ b1).mono ?_; rintro e w2 ⟨rfl, b2⟩; clear hG)
      | (go_at_call 12; refine (hI _).mono ?_; rintro e w3 ⟨rfl, b3⟩; clear hI)
      | (refine at_newC 57 4 _ srtSlt (by rfl) (by rfl) ?_; intro gs w4 a4 z4 r4 b4)
      | (refine at_putC 57 4 _ srtSlt (by rfl) _ _ (by rfl) gs (by rfl) [.int .i64 ps, .int .i64 sl, .int .i64 gn, .int .i64 xn] (by rfl) rfl h4 _ r4 (by rfl) ?_; intro w5 r5 s5
         have k2 := b2.size
         have k3 := b3.size
         have k4 := b4.size
         have k1 := b1.size
         have B5 : Below u.heap.size u w5 := ((Stp.of_below (bnext (bnext (bnext b1 b2 (Nat.le_refl _)) b3 (Nat.le_refl _)) b4 (Nat.le_refl _)) (fun _ => False)).next s5 (fun x e => .inr (by omega))).below (Nat.le_refl _) (fun x e => e.elim)
         have rr5 := ((r1.later b2).later b3).later b4 |>.step s5 (fun e => by omega))
      | (refine at_bld0 (by rfl) (by rfl) ?_)
      | (refine at_putI (by rfl) _ _ (by rfl) gr (by rfl) Ino.zero (by rfl) Ino.zero rr5 ?_; intro w10 r10 s10))
    have q5 := s5.size
    exact bodyPost_ret (retCt srtI Tryz.results5 rfl rfl r10 rfl) rfl ⟨rfl, VG.own hlt B5 a1 (by omega) (VG.refl (h.later B5)) (Below.refl _ _) s10⟩
end
end Go.Proofs.YtgdnhkdfcjpdiaaGreatDoor
