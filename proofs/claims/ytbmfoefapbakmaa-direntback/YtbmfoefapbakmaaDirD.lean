/-
  What the document's Put of layer 12 returns, for every entry: no statement is proved here.
-/
import Derived.Test.YtbmfoefapbakmaaDirC
namespace Go.Proofs.Ytbmfoefapbakmaa
open Go.ChangeShapes Go.WideShapes Go.ChangeAt Go.RowKit
set_option linter.unusedVariables false

theorem OwnLow {B B' : Nat} {w : World} {g cap : Nat} {l : List UInt8} (h : Own B w g cap l) (hB : B' ≤ B) : Own B' w g cap l := by
  refine ⟨h.1, ?_⟩
  rcases h.2 with h2 | ⟨g', c', cur, e1, e2, e3⟩
  · exact .inl h2
  · exact .inr ⟨g', c', cur, e1, Nat.le_trans hB e2, e3⟩
theorem rput16_d {B : Nat} (x : UInt16) (w : World) (hB : B ≤ w.heap.size) :
    Calls Try.prog 30 #[.int .u16 (x.toNat : Int)] w fun e w' => ∃ g, e = .returned (.slice (some ⟨g, 0, none⟩) 2 2) ∧ Own B w' g 2 (lo2 x.toNat) ∧ Below w.heap.size w w' := by
  have hx := x.toNat_lt
  refine (rput16_any (x.toNat : Int) w (by omega) (by omega)).mono ?_
  rintro e w' ⟨rfl, rfl⟩
  exact ⟨_, rfl, Own.of w (lo2 x.toNat) _ (cells_lo2 (by omega)) hB (by rw [show (lo2 x.toNat).length = 2 from rfl]; omega), (Below.refl _ _).alloc (Nat.le_refl _) _⟩
theorem build_one (c : UInt8) (w : World) : (Instr.buildSlice 28 1 #[(0, .int .u8 (c.toNat : Int))]).run Try.prog w = .ok (.slice (some ⟨w.heap.size, 0, none⟩) 1 1) (w.alloc (.cells (cells [c]).toArray 5)) := by kernel_rfl
theorem make13 (w : World) : (Instr.makeSlice 28 (.int .i64 13) (.int .i64 13)).run Try.prog w = .ok (.slice (some ⟨w.heap.size, 0, none⟩) 13 13) (w.alloc (.cells (cells z13).toArray 5)) := by kernel_rfl
section
variable {ops : Array Oper} {o : Oper} {a : Act} {w : World} {K : Act → World → Prop} {Q : Exit → Act → World → Prop} {E : Prop}
theorem step_one (hgd : o.guard = none) (x : Operand) (ho : o.op = .buildSlice 28 1 #[(0, x)]) (c : UInt8) (hx : a.eval x = .int .u8 (c.toNat : Int))
    (h : ∀ g w', w.heap.size ≤ g → Row w' g [c] → Below w.heap.size w w' → K (a.put o.dst (.slice (some ⟨g, 0, none⟩) 1 1)) w') : if Region.wanted o (yielded ops a.tmps) = true then Oper.wp Try.prog o a w K Q else E := by
  have hw : Region.wanted o (yielded ops a.tmps) = true := by simp [Region.wanted, hgd]
  rw [if_pos hw]
  have hr : (execOp a.eval o).run Try.prog w = .ok (.value (.slice (some ⟨w.heap.size, 0, none⟩) 1 1)) (w.alloc (.cells (cells [c]).toArray 5)) := by
    simp [execOp, ho, hx, build_one]
  unfold Oper.wp
  rw [hr]
  exact h w.heap.size _ (Nat.le_refl _) (Row.made _ _ _) ((Below.refl _ _).alloc (Nat.le_refl _) _)
theorem step_mk13 {B : Nat} (hgd : o.guard = none) (ho : o.op = .makeSlice 28 (.const (.int .i64 13)) (.const (.int .i64 13))) (hB : B ≤ w.heap.size)
    (h : ∀ g w', w.heap.size ≤ g → Own B w' g 13 z13 → Below w.heap.size w w' → K (a.put o.dst (.slice (some ⟨g, 0, none⟩) 13 13)) w') : if Region.wanted o (yielded ops a.tmps) = true then Oper.wp Try.prog o a w K Q else E := by
  have hw : Region.wanted o (yielded ops a.tmps) = true := by simp [Region.wanted, hgd]
  rw [if_pos hw]
  have hr : (execOp a.eval o).run Try.prog w = .ok (.value (.slice (some ⟨w.heap.size, 0, none⟩) 13 13)) (w.alloc (.cells (cells z13).toArray 5)) := by
    simp [execOp, ho, Act.eval, make13]
  unfold Oper.wp
  rw [hr]
  exact h w.heap.size _ (Nat.le_refl _) (Own.of w z13 (cells z13) rfl hB (by decide)) ((Below.refl _ _).alloc (Nat.le_refl _) _)
end
section
variable {ops : Array Oper} {rest : List Oper} {o : Oper} {a : Act} {w : World} {Q : Exit → Act → World → Prop}
theorem at_one (hw : Region.wanted o (yielded ops a.tmps) = true) (x : Operand) (ho : o.op = .buildSlice 28 1 #[(0, x)]) (c : UInt8) (hx : a.eval x = .int .u8 (c.toNat : Int))
    (h : ∀ g w', w.heap.size ≤ g → Row w' g [c] → Below w.heap.size w w' → wpList Try.prog ops Q rest (a.put o.dst (.slice (some ⟨g, 0, none⟩) 1 1)) w') : wpList Try.prog ops Q (o :: rest) a w := by
  refine op_val hw _ _ ?_ (h w.heap.size _ (Nat.le_refl _) (Row.made w [c] 5) ((Below.refl _ _).alloc (Nat.le_refl _) _))
  simp [execOp, ho, hx, build_one]
theorem at_mk13 {B : Nat} (hw : Region.wanted o (yielded ops a.tmps) = true) (ho : o.op = .makeSlice 28 (.const (.int .i64 13)) (.const (.int .i64 13))) (hB : B ≤ w.heap.size)
    (h : ∀ g w', w.heap.size ≤ g → Own B w' g 13 z13 → Below w.heap.size w w' → wpList Try.prog ops Q rest (a.put o.dst (.slice (some ⟨g, 0, none⟩) 13 13)) w') : wpList Try.prog ops Q (o :: rest) a w := by
  refine op_val hw _ _ ?_ (h w.heap.size _ (Nat.le_refl _) (Own.of w z13 (cells z13) rfl hB (by decide)) ((Below.refl _ _).alloc (Nat.le_refl _) _))
  simp [execOp, ho, Act.eval, make13]
/-- '[]byte(s)'. -/
theorem at_bytes (hw : Region.wanted o (yielded ops a.tmps) = true) (x : Operand) (ho : o.op = .convert 9 28 x) (s : List UInt8) (hx : a.eval x = .string (str s))
    (h : ∀ g c w', w.heap.size ≤ g → w'.rangeAt g 0 (cells s) → Below w.heap.size w w' → wpList Try.prog ops Q rest (a.put o.dst (.slice (some ⟨g, 0, none⟩) s.length c)) w') : wpList Try.prog ops Q (o :: rest) a w := by
  have hr := run_bytes_of_string (P := Try.prog) w 9 28 5 (str s) (by kernel_rfl) (by kernel_rfl) (by kernel_rfl)
  rw [str_size] at hr
  generalize grownCap w s.length 0 5 = c at hr
  obtain ⟨fz, hfz⟩ : ∃ fz, ((bytesRow (str s) c).size, (bytesRow (str s) c).size + 1) = fz := ⟨_, rfl⟩
  rw [hfz] at hr
  refine op_val hw _ _ ?_ (h w.heap.size c (w.drew.alloc (.cells (bytesRow (str s) c) 5 fz)) (Nat.le_refl _) ?_ ((Below.refl _ _).drew.alloc (Nat.le_refl _) _))
  · simp [execOp, ho, hx, hr]
  intro j v hv
  have hj := (List.getElem?_eq_some_iff.1 hv).1
  rw [List.length_map] at hj
  have hh : (w.drew.alloc (.cells (bytesRow (str s) c) 5 fz)).heap[w.heap.size]? = some (.cells (bytesRow (str s) c) 5 fz) := heap_alloc_new w.drew _
  rw [cell_of_row _ w.heap.size (0 + j) _ 5 fz hh, Nat.zero_add, ← hv]
  unfold bytesRow
  rw [Array.getElem?_append_left (by unfold str; simp; exact hj)]
  unfold str
  simp [cells]
  rfl
end
def slN : Value → Nat
  | .slice _ n _ => n
  | _ => 0
set_option maxRecDepth 100000 in
set_option maxHeartbeats 4000000 in
theorem rdput_any (x : Ent) (w : World) : Calls Try.prog 9 #[.agg x.cs.toArray] w fun e w' => ∃ g c, e = .returned (.tuple #[.slice (some ⟨g, 0, none⟩) 13 c, .int .i64 (dE x)]) ∧ Own w.heap.size w' g c (dB x) ∧ Below w.heap.size w w' := by
  have H2 := rcheck_any x.s
  by_cases h0 : x.n < 1
  · have h1 : ¬ isI x.n := fun h => by have := h.1; omega
    have hd : dE x = 2 := by unfold dE; rw [if_neg h1]
    have hD : dB x = z13 := by unfold dB; rw [hd, if_neg (by decide)]
    rw [hd, hD]
    clear hD hd h1
    go_enter Try.func9, Try.ntmps9
    go_wp2_with (first
      | (refine at_boxE (by rfl) _ (by rfl) x (by rfl) ?_; intro g1 w1 a1 z1 r1 b1; obtain ⟨q0, q1⟩ := r1.ent)
      | (refine at_mk13 (B := w.heap.size) (by rfl) (by rfl) b1.size ?_; intro g2 w2 a2 r2 b2))
    go_returns
    exact ⟨g2, 13, rfl, r2, bnext b1 b2 (Nat.le_refl _)⟩
  by_cases h3 : 65535 < x.n
  · have h1 : ¬ isI x.n := fun h => by have := h.2; omega
    have hd : dE x = 2 := by unfold dE; rw [if_neg h1]
    have hD : dB x = z13 := by unfold dB; rw [hd, if_neg (by decide)]
    rw [hd, hD]
    clear hD hd h1
    go_enter Try.func9, Try.ntmps9
    go_wp2_with (first
      | (refine at_boxE (by rfl) _ (by rfl) x (by rfl) ?_; intro g1 w1 a1 z1 r1 b1; obtain ⟨q0, q1⟩ := r1.ent)
      | (refine at_mk13 (B := w.heap.size) (by rfl) (by rfl) b1.size ?_; intro g2 w2 a2 r2 b2))
    go_returns
    exact ⟨g2, 13, rfl, r2, bnext b1 b2 (Nat.le_refl _)⟩
  have h1 : isI x.n := ⟨by omega, by omega⟩
  have hd : dE x = nE x.s := by unfold dE; rw [if_pos h1]
  by_cases h2 : nm x.s = true
  · have hn : nE x.s = 0 := by unfold nE; rw [if_pos h2]
    have hl := (nm_is h2).1.2.1
    have hD : Hid (dB x = dL x) := by show _ = _; unfold dB; rw [hd, hn, if_pos rfl]
    rw [hd, hn, hD.out]
    rw [hn] at H2
    obtain ⟨k, hk⟩ : ∃ k : Nat, x.n = k := ⟨x.n.toNat, by omega⟩
    have hk2 : k < 65536 := by omega
    have hw1 : IntKind.u16.wrap x.n = ((UInt16.ofNat k).toNat : Int) := by
      rw [UInt16.toNat_ofNat', hk, IntKind.wrap_u16]; omega
    have hw2 : IntKind.u8.wrap (x.s.length : Int) = ((UInt8.ofNat x.s.length).toNat : Int) := by
      rw [u8_to (by omega), IntKind.wrap_u8]; omega
    have hz := str_size x.s
    have ey : (UInt16.ofNat k).toNat = k := by rw [UInt16.toNat_ofNat']; omega
    have hLay : Hid (lo2 (UInt16.ofNat k).toNat ++ [UInt8.ofNat x.s.length] ++ x.s ++ List.replicate (10 - x.s.length) 0 = dL x) := by
      show _ = _; unfold dL; rw [ey, hk]; rfl
    clear ey hk hk2 h1 h2 hd hn hD
    generalize UInt16.ofNat k = y at *
    generalize UInt8.ofNat x.s.length = c at *
    generalize dL x = D at *
    go_enter Try.func9, Try.ntmps9
    go_wp2_with (first
      | (refine at_boxE (by rfl) _ (by rfl) x (by rfl) ?_; intro g1 W a1 z1 r1 b1; obtain ⟨q0, q1⟩ := r1.ent)
      | (go_at_call 12; refine (H2 _).mono ?_; rintro e u ⟨rfl, rfl⟩))
    have hB := b1.size
    have hg1 := r1.lt
    have k0 : ∀ u, Stp (fun y => W.heap.size ≤ y) W u → Cs u g1 x.cs := fun u hu => r1.step hu (by omega)
    have hl2 : (lo2 y.toNat).length = 2 := rfl
    clear q0 q1
    refine wp_region_held_drew (S := fun u => Stp (fun y => W.heap.size ≤ y) W u) (by kernel_rfl) (Stp.refl _ _).drew (fun hHeld => ?_)
    rename_i K1 hK1
    have tail : ∀ (g4 g7 g8 c8 : Nat) (v8 : World), Own W.heap.size v8 g8 c8 (lo2 y.toNat ++ [c]) → Stp (fun y => W.heap.size ≤ y) W v8 →
        K1 ⟨#[.agg x.cs.toArray, .pointer (some ⟨g1, 0, none⟩), .slice none 0 0, .int .i64 0, .int .i64 0, .slice (some ⟨g8, 0, none⟩) 3 c8, .pointer (some ⟨g1, 0, none⟩), .int .i64 x.n, .bool false, .bool false, .pointer (some ⟨g1, 0, none⟩), .int .i64 x.n, .bool false, .bool false, undef,
          .pointer (some ⟨g1, 1, none⟩), .string (str x.s), .int .i64 0, .int .i64 0, .bool false, undef, undef, .pointer (some ⟨g1, 0, none⟩), .int .i64 x.n, .int .u16 (y.toNat : Int), .slice (some ⟨g4, 0, none⟩) 2 2, .pointer (some ⟨g1, 1, none⟩), .string (str x.s), .int .i64 (x.s.length : Int), .int .u8 (c.toNat : Int), .slice (some ⟨g7, 0, none⟩) 1 1, .slice (some ⟨g8, 0, none⟩) 3 c8,
          undef, undef, undef, undef, undef, undef, undef, undef, undef, undef, undef, undef], []⟩ v8 := by
      intro g4 g7 g8 c8 v8 o8 S8
      refine hK1 _ _ ?_
      have y8 := k0 _ S8
      obtain ⟨_, q1⟩ := y8.ent
      have hl3 : (lo2 y.toNat ++ [c]).length = 3 := rfl
      go_wp2_with (first
        | (refine at_bytes (by rfl) _ (by rfl) x.s (by rfl) ?_; intro g9 c9 w9 a9 r9 b9; have o9 := o8.later b9; have S9 := S8.next (Stp.of_below b9 (fun _ => False)) (fun _ h => h.elim))
        | (refine at_app rfl _ _ (by rfl) 3 (by rfl) o9 hl3 ⟨g9, 0, none⟩ x.s.length c9 x.s (by rfl) rfl (3 + x.s.length) rfl (fun j u hj => by rw [Addr.add_mid]; exact r9 j u hj) (by omega) S9.size ?_; intro g10 c10 w10 o10 s10
           have S10 := S9.trans s10
           clear o8 o9 S8 S9 r9 b9 s10 y8 q1))
      go_loopw [5] (fun sv wr => ∃ g c' m : Nat, sv = .slice (some ⟨g, 0, none⟩) (3 + x.s.length + m) c' ∧ x.s.length + m ≤ 10 ∧ Own W.heap.size wr g c' (lo2 y.toNat ++ [c] ++ x.s ++ List.replicate m 0) ∧ Stp (fun y => W.heap.size ≤ y) W wr) (fun sv _ => 13 - slN sv)
      case atStart => exact ⟨g10, c10, 0, rfl, by omega, by simpa using o10, S10⟩
      case round =>
        obtain ⟨g, c', m, rfl, hm, o11, S11⟩ := hrel
        clear S10 o10
        have hlen : (lo2 y.toNat ++ [c] ++ x.s ++ List.replicate m 0).length = 3 + x.s.length + m := by simp [lo2]; omega
        by_cases hlt : x.s.length + m < 10
        · have hlt' : ((3 + x.s.length + m : Nat) : Int) < 13 := by omega
          have e1 : lo2 y.toNat ++ [c] ++ x.s ++ List.replicate m 0 ++ [0] = lo2 y.toNat ++ [c] ++ x.s ++ List.replicate (m + 1) 0 := by
            rw [List.append_assoc _ (List.replicate m 0) [0], ← List.replicate_succ']
          have hE : Hid (lo2 y.toNat ++ [c] ++ x.s ++ List.replicate m 0 ++ [0] = lo2 y.toNat ++ [c] ++ x.s ++ List.replicate (m + 1) 0) := e1
          clear e1
          go_wp2_with (first
            | (refine at_one (by rfl) _ (by rfl) 0 (by rfl) ?_; intro n12 w12 a12 y12 b12; have o12 := o11.later b12; have S12 := S11.next (Stp.of_below b12 (fun _ => False)) (fun _ h => h.elim))
            | (refine at_app rfl _ _ (by rfl) (3 + x.s.length + m) (by rfl) o12 hlen ⟨n12, 0, none⟩ 1 1 [0] (by rfl) rfl (3 + x.s.length + (m + 1)) (by omega) (fun j u hj => by rw [Addr.add_mid]; exact y12.range j u hj) (by rw [hlen]; simp; omega) S12.size ?_; intro g13 c13 w13 o13 s13))
          rw [hE.out] at o13
          go_roundw
          case rel => exact ⟨g13, c13, m + 1, rfl, by omega, o13, S12.trans s13⟩
          case measure => simp [slN]; omega
        · obtain rfl : m = 10 - x.s.length := by omega
          rw [hLay.out] at o11
          have e13 : 3 + x.s.length + (10 - x.s.length) = 13 := by omega
          rw [e13]
          go_wp2
          go_returns
          exact ⟨g, c', rfl, OwnLow o11 hB, ((Stp.of_below b1 (fun y => w.heap.size ≤ y)).next S11 (fun y hy => .inl (Nat.le_trans hB hy))).below (Nat.le_refl _) (fun _ h => h)⟩
    clear hK1
    refine wpAnyH_take (i := 0) (oi := { dst := some 22, op := Op.fieldAddr 23 (Operand.tmp 1) 0, type := 0, pos := _, after := #[], guard := none }) (v := .pointer (some ⟨g1, 0, none⟩)) rfl (by kernel_rfl) (by kernel_rfl) (by kernel_rfl) (fun _ _ _ h => h) (Or.inl ⟨by rfl, ?_⟩) hHeld ?_
    · intro u hu
      go_simp
    try simp only [Act.put, List.setIfInBounds_toArray, List.set_cons_zero, List.set_cons_succ]
    refine wpAnyH_take (i := 1) (oi := { dst := some 23, op := Op.load 3 (Operand.tmp 22), type := 3, pos := _, after := #[{ on := 0, ground := Ground.data }], guard := none }) (v := .int .i64 x.n) rfl (by kernel_rfl) (by kernel_rfl) (by kernel_rfl) (fun _ _ _ h => h) (Or.inl ⟨by rfl, ?_⟩) hHeld ?_
    · intro u hu
      (have y := (k0 u hu).cell 0 _ rfl; go_simp)
    try simp only [Act.put, List.setIfInBounds_toArray, List.set_cons_zero, List.set_cons_succ]
    refine wpAnyH_take (i := 2) (oi := { dst := some 24, op := Op.convert 3 56 (Operand.tmp 23), type := 56, pos := _, after := #[{ on := 1, ground := Ground.data }], guard := none }) (v := .int .u16 (y.toNat : Int)) rfl (by kernel_rfl) (by kernel_rfl) (by kernel_rfl) (fun _ _ _ h => h) (Or.inl ⟨by rfl, ?_⟩) hHeld ?_
    · intro u hu
      go_simp
    try simp only [Act.put, List.setIfInBounds_toArray, List.set_cons_zero, List.set_cons_succ]
    refine wpAnyH_take (i := 4) (oi := { dst := some 26, op := Op.fieldAddr 23 (Operand.tmp 1) 1, type := 0, pos := _, after := #[], guard := none }) (v := .pointer (some ⟨g1, 1, none⟩)) rfl (by kernel_rfl) (by kernel_rfl) (by kernel_rfl) (fun _ _ _ h => h) (Or.inl ⟨by rfl, ?_⟩) hHeld ?_
    · intro u hu
      go_simp
    try simp only [Act.put, List.setIfInBounds_toArray, List.set_cons_zero, List.set_cons_succ]
    refine wpAnyH_take (i := 5) (oi := { dst := some 27, op := Op.load 9 (Operand.tmp 26), type := 9, pos := _, after := #[{ on := 4, ground := Ground.data }], guard := none }) (v := .string (str x.s)) rfl (by kernel_rfl) (by kernel_rfl) (by kernel_rfl) (fun _ _ _ h => h) (Or.inl ⟨by rfl, ?_⟩) hHeld ?_
    · intro u hu
      (have y := (k0 u hu).cell 1 _ rfl; go_simp)
    try simp only [Act.put, List.setIfInBounds_toArray, List.set_cons_zero, List.set_cons_succ]
    refine wpAnyH_take (i := 6) (oi := { dst := some 28, op := Op.call { callee := Callee.builtin Builtin.len, args := #[Operand.tmp 27], argTypes := #[9] }, type := 3, pos := _, after := #[{ on := 5, ground := Ground.data }], guard := none }) (v := .int .i64 (x.s.length : Int)) rfl (by kernel_rfl) (by kernel_rfl) (by kernel_rfl) (fun _ _ _ h => h) (Or.inl ⟨by rfl, ?_⟩) hHeld ?_
    · intro u hu
      go_simp
    try simp only [Act.put, List.setIfInBounds_toArray, List.set_cons_zero, List.set_cons_succ]
    refine wpAnyH_take (i := 7) (oi := { dst := some 29, op := Op.convert 3 5 (Operand.tmp 28), type := 5, pos := _, after := #[{ on := 6, ground := Ground.data }], guard := none }) (v := .int .u8 (c.toNat : Int)) rfl (by kernel_rfl) (by kernel_rfl) (by kernel_rfl) (fun _ _ _ h => h) (Or.inl ⟨by rfl, ?_⟩) hHeld ?_
    · intro u hu
      go_simp
    try simp only [Act.put, List.setIfInBounds_toArray, List.set_cons_zero, List.set_cons_succ]
    refine wpAnyH_ready (rs := [3, 8]) (by kernel_rfl) (by simp) ?_
    refine (AllReadyH.cons (o := { dst := some 25, op := Op.call { callee := Callee.value (Operand.func 30), args := #[Operand.tmp 24], argTypes := #[56] }, type := 28, pos := _, after := #[{ on := 2, ground := Ground.data }], guard := none }) rfl (fun K hK => ?_) (AllReadyH.cons (o := { dst := some 30, op := Op.buildSlice 28 1 #[(0, Operand.tmp 29)], type := 28, pos := _, after := #[{ on := 7, ground := Ground.data }], guard := none }) rfl (fun K hK => ?_) AllReadyH.nil))
    · skip
      go_simp
      refine (rput16_d y _ hHeld.size).mono ?_
      rintro e v3 ⟨n3, rfl, o3, b3⟩
      try go_wp2_with fail
      try (have y8 := y8.later b3)
      refine hK.out _ _ (hHeld.next (Stp.of_below b3 (fun _ => False)) (fun _ h => h.elim)) (fun hHeld => ?_)
      clear hK K
      try simp only [Act.put, List.setIfInBounds_toArray, List.set_cons_zero, List.set_cons_succ]
      refine wpAnyH_ready (rs := [8]) (by kernel_rfl) (by simp) ?_
      refine (AllReadyH.cons (o := { dst := some 30, op := Op.buildSlice 28 1 #[(0, Operand.tmp 29)], type := 28, pos := _, after := #[{ on := 7, ground := Ground.data }], guard := none }) rfl (fun K hK => ?_) AllReadyH.nil)
      refine step_one rfl (.tmp 29) rfl c (by rfl) ?_
      intro n8 v8 a8 y8 b8
      try (have o3 := o3.later b8)
      refine hK.out _ _ (hHeld.next (Stp.of_below b8 (fun _ => False)) (fun _ h => h.elim)) (fun hHeld => ?_)
      clear hK K
      try simp only [Act.put, List.setIfInBounds_toArray, List.set_cons_zero, List.set_cons_succ]
      refine wpAnyH_ready (rs := [9]) (by kernel_rfl) (by simp) ?_
      refine (AllReadyH.cons (o := { dst := some 31, op := Op.call { callee := Callee.builtin Builtin.append, args := #[Operand.tmp 25, Operand.tmp 30], argTypes := #[28, 28] }, type := 28, pos := _, after := #[{ on := 3, ground := Ground.data }, { on := 8, ground := Ground.data }, { on := 3, ground := Ground.chain }], guard := none }) rfl (fun K hK => ?_) AllReadyH.nil)
      refine step_app rfl (.tmp 25) (.tmp 30) rfl 2 (by rfl) o3 hl2 ⟨n8, 0, none⟩ 1 1 [c] (by rfl) rfl 3 rfl (fun j u hj => by rw [Addr.add_mid]; exact y8.range j u hj) (by rw [hl2]; exact (show 3 ≤ 1000000 by decide)) hHeld.size ?_
      intro g9 c9 v9 o9 s9
      refine hK.out _ _ (hHeld.next s9 (fun _ h => .inl h)) (fun hHeld => ?_)
      clear hK K
      try simp only [Act.put, List.setIfInBounds_toArray, List.set_cons_zero, List.set_cons_succ]
      refine wpAnyH_take (i := 10) (oi := { dst := some 5, op := Op.assign (Operand.tmp 31), type := 28, pos := _, after := #[{ on := 9, ground := Ground.data }, { on := 9, ground := Ground.chain }, { on := 0, ground := Ground.phase }, { on := 1, ground := Ground.phase }, { on := 2, ground := Ground.phase }, { on := 3, ground := Ground.phase }, { on := 4, ground := Ground.phase }, { on := 5, ground := Ground.phase }, { on := 6, ground := Ground.phase }, { on := 7, ground := Ground.phase }, { on := 8, ground := Ground.phase }, { on := 9, ground := Ground.phase }], guard := none }) (v := .slice (some ⟨g9, 0, none⟩) 3 c9) rfl (by kernel_rfl) (by kernel_rfl) (by kernel_rfl) (fun _ _ _ h => h) (Or.inl ⟨by rfl, ?_⟩) hHeld ?_
      · intro u hu
        go_simp
      try simp only [Act.put, List.setIfInBounds_toArray, List.set_cons_zero, List.set_cons_succ]
      refine wpAnyH_done (by kernel_rfl) ?_ _
      exact tail n3 n8 g9 c9 v9 o9 hHeld
    · skip
      refine step_one rfl (.tmp 29) rfl c (by rfl) ?_
      intro n8 v8 a8 y8 b8
      try (have o3 := o3.later b8)
      refine hK.out _ _ (hHeld.next (Stp.of_below b8 (fun _ => False)) (fun _ h => h.elim)) (fun hHeld => ?_)
      clear hK K
      try simp only [Act.put, List.setIfInBounds_toArray, List.set_cons_zero, List.set_cons_succ]
      refine wpAnyH_ready (rs := [3]) (by kernel_rfl) (by simp) ?_
      refine (AllReadyH.cons (o := { dst := some 25, op := Op.call { callee := Callee.value (Operand.func 30), args := #[Operand.tmp 24], argTypes := #[56] }, type := 28, pos := _, after := #[{ on := 2, ground := Ground.data }], guard := none }) rfl (fun K hK => ?_) AllReadyH.nil)
      go_simp
      refine (rput16_d y _ hHeld.size).mono ?_
      rintro e v3 ⟨n3, rfl, o3, b3⟩
      try go_wp2_with fail
      try (have y8 := y8.later b3)
      refine hK.out _ _ (hHeld.next (Stp.of_below b3 (fun _ => False)) (fun _ h => h.elim)) (fun hHeld => ?_)
      clear hK K
      try simp only [Act.put, List.setIfInBounds_toArray, List.set_cons_zero, List.set_cons_succ]
      refine wpAnyH_ready (rs := [9]) (by kernel_rfl) (by simp) ?_
      refine (AllReadyH.cons (o := { dst := some 31, op := Op.call { callee := Callee.builtin Builtin.append, args := #[Operand.tmp 25, Operand.tmp 30], argTypes := #[28, 28] }, type := 28, pos := _, after := #[{ on := 3, ground := Ground.data }, { on := 8, ground := Ground.data }, { on := 3, ground := Ground.chain }], guard := none }) rfl (fun K hK => ?_) AllReadyH.nil)
      refine step_app rfl (.tmp 25) (.tmp 30) rfl 2 (by rfl) o3 hl2 ⟨n8, 0, none⟩ 1 1 [c] (by rfl) rfl 3 rfl (fun j u hj => by rw [Addr.add_mid]; exact y8.range j u hj) (by rw [hl2]; exact (show 3 ≤ 1000000 by decide)) hHeld.size ?_
      intro g9 c9 v9 o9 s9
      refine hK.out _ _ (hHeld.next s9 (fun _ h => .inl h)) (fun hHeld => ?_)
      clear hK K
      try simp only [Act.put, List.setIfInBounds_toArray, List.set_cons_zero, List.set_cons_succ]
      refine wpAnyH_take (i := 10) (oi := { dst := some 5, op := Op.assign (Operand.tmp 31), type := 28, pos := _, after := #[{ on := 9, ground := Ground.data }, { on := 9, ground := Ground.chain }, { on := 0, ground := Ground.phase }, { on := 1, ground := Ground.phase }, { on := 2, ground := Ground.phase }, { on := 3, ground := Ground.phase }, { on := 4, ground := Ground.phase }, { on := 5, ground := Ground.phase }, { on := 6, ground := Ground.phase }, { on := 7, ground := Ground.phase }, { on := 8, ground := Ground.phase }, { on := 9, ground := Ground.phase }], guard := none }) (v := .slice (some ⟨g9, 0, none⟩) 3 c9) rfl (by kernel_rfl) (by kernel_rfl) (by kernel_rfl) (fun _ _ _ h => h) (Or.inl ⟨by rfl, ?_⟩) hHeld ?_
      · intro u hu
        go_simp
      try simp only [Act.put, List.setIfInBounds_toArray, List.set_cons_zero, List.set_cons_succ]
      refine wpAnyH_done (by kernel_rfl) ?_ _
      exact tail n3 n8 g9 c9 v9 o9 hHeld
  · have hn : nE x.s = 45 := by unfold nE; rw [if_neg h2]
    have hD : dB x = z13 := by unfold dB; rw [hd, hn, if_neg (by decide)]
    rw [hd, hn, hD]
    rw [hn] at H2
    clear hD hd hn h1 h2
    go_enter Try.func9, Try.ntmps9
    go_wp2_with (first
      | (refine at_boxE (by rfl) _ (by rfl) x (by rfl) ?_; intro g1 w1 a1 z1 r1 b1; obtain ⟨q0, q1⟩ := r1.ent)
      | (go_at_call 12; refine (H2 _).mono ?_; rintro e u ⟨rfl, rfl⟩)
      | (refine at_mk13 (B := w.heap.size) (by rfl) (by rfl) b1.size ?_; intro g2 w2 a2 r2 b2))
    go_returns
    exact ⟨g2, 13, rfl, r2, bnext b1 b2 (Nat.le_refl _)⟩
end Go.Proofs.Ytbmfoefapbakmaa
