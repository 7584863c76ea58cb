/-
  What Sectors of the document's graph returns: no statement is proved here.
-/
import Derived.Test.YtigchhogclofiaaGreatRgJ
import Derived.Test.YtigchhogclofiaaGreatGsA
namespace Go.Proofs.YtigchhogclofiaaGreat
open Go.ChangeShapes Go.WideShapes Go.ChangeAt Go.RowKit
set_option linter.unusedVariables false
set_option linter.unusedSimpArgs false

/-- Where a number belongs. -/
theorem insU_at (x : Int) : ∀ (A B : List Int), (∀ y ∈ A, y < x) → (∀ y, B.head? = some y → x ≤ y) → insU (A ++ B) x = if B.head? = some x then A ++ B else A ++ x :: B
  | [], [], _, _ => by simp [insU]
  | [], b :: t, _, h => by
    have hb := h b rfl
    rw [List.nil_append, insU, if_neg (by omega)]
    by_cases e : b = x
    · rw [if_pos e, if_pos (by simp [e])]
    · rw [if_neg e, if_neg (by simp [e])]; rfl
  | a :: t, B, hA, h => by
    rw [List.cons_append, insU, if_pos (hA a (by simp)), insU_at x t B (fun y hy => hA y (by simp [hy])) h]
    split <;> rfl
/-- Whether x is put in at j. -/
def insQ (out : List Int) (j : Nat) (x : Int) : Bool := decide (¬ out[j]? = some x)
theorem insU_cut {out : List Int} {j : Nat} {x : Int} (h1 : ∀ y ∈ out.take j, y < x) (h2 : ∀ y, out[j]? = some y → x ≤ y) : insU out x = if insQ out j x = true then out.take j ++ x :: out.drop j else out := by
  have hh : (out.drop j).head? = out[j]? := List.head?_drop
  have := insU_at x (out.take j) (out.drop j) h1 (fun y hy => h2 y (by rw [← hh]; exact hy))
  rw [List.take_append_drop, hh] at this
  rw [this]
  unfold insQ
  by_cases e : out[j]? = some x <;> simp [e]
/-- The sectors of the first k. -/
def scK (l : List Pt) (k : Nat) : List Int := secs (l.take k)
theorem scK_step {l : List Pt} {k : Nat} {p : Pt} (h : l[k]? = some p) : scK l (k + 1) = if p.wr then scK l k else insU (scK l k) p.at' := by
  unfold scK secs
  rw [flt_step h]
  cases p.wr <;> simp [List.foldl_append]
theorem insU_len (x : Int) : ∀ l : List Int, (insU l x).length ≤ l.length + 1
  | [] => by simp [insU]
  | a :: t => by
    unfold insU
    have := insU_len x t
    split
    · simp; exact this
    · split <;> simp
theorem scK_len (l : List Pt) : ∀ k, (scK l k).length ≤ k
  | 0 => by simp [scK, secs]
  | k + 1 => by
    cases h : l[k]? with
    | none =>
      have e : scK l (k + 1) = scK l k := by unfold scK; rw [List.take_add_one, h]; simp
      rw [e]; have := scK_len l k; omega
    | some p =>
      rw [scK_step h]
      have := scK_len l k
      have := insU_len p.at' (scK l k)
      split <;> omega
theorem step_bs0I {ops : Array Oper} {o : Oper} {a : Act} {w : World} {K : Act → World → Prop} {Q : Exit → Act → World → Prop} {R : Prop} (hgd : o.guard = none) (ho : o.op = .buildSlice 28 0 #[])
    (h : ∀ g w', w.heap.size ≤ g → OwV w' (.slice (some ⟨g, 0, none⟩) 0 0) [] → Below w.heap.size w w' → K (a.put o.dst (.slice (some ⟨g, 0, none⟩) 0 0)) w') : if Region.wanted o (yielded ops a.tmps) = true then Oper.wp Tryz.prog o a w K Q else R := by
  have hw : Region.wanted o (yielded ops a.tmps) = true := by simp [Region.wanted, hgd]
  rw [if_pos hw]
  have h0 : (Instr.buildSlice 28 0 #[]).run Tryz.prog w = .ok (.slice (some ⟨w.heap.size, 0, none⟩) 0 0) (w.alloc (.cells #[] 3)) := by kernel_rfl
  have hr : (execOp a.eval o).run Tryz.prog w = .ok (.value (.slice (some ⟨w.heap.size, 0, none⟩) 0 0)) (w.alloc (.cells #[] 3)) := by simp [execOp, ho, h0]
  unfold Oper.wp
  rw [hr]
  exact h w.heap.size _ (Nat.le_refl _) (World.ownsRow_made w #[] 0 (Nat.zero_le _) (Nat.zero_le _) rfl) ((Below.refl _ w).alloc (Nat.le_refl _) _)
theorem step_bs1I {ops : Array Oper} {o : Oper} {a : Act} {w : World} {K : Act → World → Prop} {Q : Exit → Act → World → Prop} {R : Prop} (hgd : o.guard = none) (x : Operand) (ho : o.op = .buildSlice 28 1 #[(0, x)]) (y : Int) (hx : a.eval x = .int .i64 y)
    (h : ∀ g w', w.heap.size ≤ g → Cs w' g [.int .i64 y] → Below w.heap.size w w' → K (a.put o.dst (.slice (some ⟨g, 0, none⟩) 1 1)) w') : if Region.wanted o (yielded ops a.tmps) = true then Oper.wp Tryz.prog o a w K Q else R :=
  step_bsI hgd x ho y hx (h w.heap.size _ (Nat.le_refl _) (Cs.made w [.int .i64 y] _ (by simp [Value.oneCell'])) ((Below.refl _ w).alloc (Nat.le_refl _) _))
theorem ov_12 {w w' : World} {B m : Nat} {v v' : Value} {l l' : List Int} (hA : Apd w B 3 1 v l.length m (l.map (Value.int .i64) ++ l'.map (Value.int .i64)) v' w') (hm : m = l'.length) : OwV w' v' (l ++ l') := by
  unfold OwV
  have := hA.1
  rw [hm, ← List.map_append, ← List.length_append] at this
  exact this
/-- Sectors so far. -/
structure ScI (w wr : World) (gb cap : Nat) (out : List Int) : Prop where
  ow : OwV wr (.slice (some ⟨gb, 0, none⟩) out.length cap) out
  nw : w.heap.size ≤ gb
  b : Below w.heap.size w wr
theorem ScI.later {w wr w' : World} {gb cap : Nat} {out : List Int} (h : ScI w wr gb cap out) (k : Below wr.heap.size wr w') : ScI w w' gb cap out := ⟨h.ow.later k, h.nw, bnext h.b k (Nat.le_refl _)⟩
theorem ScI.row {w wr : World} {gb cap : Nat} {out : List Int} (h : ScI w wr gb cap out) : ∃ cur, Rw1 wr gb cap out cur := by
  rcases h.ow.row with ⟨e, _⟩ | ⟨g', cap', cur, e, hw⟩
  · cases e
  · injection e with e1 e2 e3
    injection e1 with e1; injection e1 with e1
    subst e1; subst e3
    exact ⟨cur, hw⟩
set_option maxRecDepth 100000 in
set_option maxHeartbeats 4000000 in
theorem rsectors_any {w : World} {g : Nat} {Z : GZ} {a : Option Addr} {c : Nat} {L : List Pe} {R : Nat → Prop} (H : Rf w g Z a c L R) :
    Calls Tryz.prog 36 #[.pointer (some ⟨g, 0, none⟩)] w fun e w' => ∃ v, e = .returned v ∧ OwV w' v (secs Z.l) ∧ New w.heap.size v ∧ Below w.heap.size w w' := by
  have hfew := H.few
  have hcap : L.length ≤ maxLen := by obtain ⟨_, _, _, h, _⟩ := H.row.shape; exact h
  have hlen' : Hid (L.length = Z.l.length) := H.len
  go_enter Tryz.func36, Tryz.ntmps36
  go_wp2_with fail
  have i0 : ScI w (w.alloc (.cells #[] 3)) w.heap.size 0 (scK Z.l 0) := ⟨World.ownsRow_made w #[] 0 (Nat.zero_le _) (Nat.zero_le _) rfl, Nat.le_refl _, (Below.refl _ w).alloc (Nat.le_refl _) _⟩
  go_loopw [3, 4] (fun u v wr => ∃ (i gb cap : Nat) (out : List Int), i ≤ L.length ∧ out = scK Z.l i ∧ u = .slice (some ⟨gb, 0, none⟩) out.length cap ∧ v = .int .i64 (i : Int) ∧ ScI w wr gb cap out) (fun _ v _ => L.length - (intOf v).toNat)
  case atStart => exact ⟨0, _, _, _, Nat.zero_le _, rfl, rfl, rfl, i0⟩
  case round =>
    clear i0
    obtain ⟨i, gb, cap, out, hi, hout, rfl, rfl, I⟩ := hrel
    have hout' : Hid (out = scK Z.l i) := hout
    have hol : out.length ≤ i := by rw [hout]; exact scK_len _ _
    clear hout
    have H4 := H.later I.b
    obtain ⟨z0, z1⟩ := H4.cells
    have a8 : (0 : Int) ≤ (i : Int) := by omega
    by_cases hil : i < L.length
    · obtain ⟨b, t, rfl, e2, hr⟩ := H4.row.el i hil
      have c1 := (Pe.at9 hr).2.1
      have c8 := (Pe.at9 hr).2.2.2.2.2.2.2.2
      have a9 : (i : Int) < (L.length : Int) := by omega
      have hst := scK_step (H4.get e2)
      have hst' : Hid (scK Z.l (i + 1) = if t.p.wr then scK Z.l i else insU (scK Z.l i) t.p.at') := hst
      clear hst hr
      cases hw : t.p.wr with
      | true =>
        rw [hw] at c8
        clear c1
        go_wp2_with fail
        go_roundw
        case rel => exact ⟨i + 1, gb, cap, out, by omega, by rw [hst'.out, hw, if_pos rfl]; exact hout'.out, rfl, by go_num, I⟩
        case measure => simp [intOf]; omega
      | false =>
        rw [hw] at c8
        have hst2 : Hid (scK Z.l (i + 1) = insU out t.p.at') := (by rw [hst'.out, hw, if_neg (by simp), ← hout'.out] : scK Z.l (i + 1) = insU out t.p.at')
        generalize t.p.at' = x at *
        obtain ⟨cur, hrow⟩ := I.row
        have ocap : out.length ≤ cap := hrow.le
        have cmax : cap ≤ maxLen := hrow.cm
        have omax : out.length ≤ maxLen := Nat.le_trans ocap cmax
        go_upto_block 2 with fail
        clear c8
        go_cut [5] from 7 to 82 (fun v wx => ∃ j : Nat, j ≤ out.length ∧ v = .int .i64 (j : Int) ∧ (∀ y ∈ out.take j, y < x) ∧ (∀ y, out[j]? = some y → x ≤ y) ∧ Below wr.heap.size wr wx)
        case first =>
          have B0 : Below wr.heap.size wr wr := Below.refl _ _
          generalize hWr : wr = wr0 at *
          go_wp2_with fail
          go_loopw [5] (fun v wx => ∃ j : Nat, j ≤ out.length ∧ v = .int .i64 (j : Int) ∧ (∀ y ∈ out.take j, y < x) ∧ Below wr0.heap.size wr0 wx) (fun v _ => out.length - (intOf v).toNat)
          case atStart => exact ⟨0, Nat.zero_le _, rfl, (fun y hy => absurd hy (by simp)), B0⟩
          case round =>
            obtain ⟨j, hj, rfl, hno, Bj⟩ := hrel
            have q8 : (0 : Int) ≤ (j : Int) := by omega
            have z1j := (Stp.of_below Bj (fun _ => False)).cell z1 id
            have c1j := (Stp.of_below Bj (fun _ => False)).cell c1 id
            by_cases hjl : j < out.length
            · have q9 : (j : Int) < (out.length : Int) := by omega
              have cy0 := (Stp.of_below Bj (fun _ => False)).cell (hrow.cell j hjl) id
              have hgy : out[j]? = some (out.getD j 0) := by rw [List.getElem?_eq_getElem hjl, List.getD_eq_getElem?_getD, List.getElem?_eq_getElem hjl]; rfl
              generalize out.getD j 0 = y at *
              have cy := cy0
              have z1 := z1j
              have c1 := c1j
              by_cases hyx : y < x
              · have hno2 : ∀ y' ∈ out.take (j + 1), y' < x := fun y' hy' => by
                  rw [List.take_add_one, hgy] at hy'
                  rcases List.mem_append.1 hy' with h | h
                  · exact hno y' h
                  · have : y' = y := by simpa using h
                    omega
                go_wp2_with fail
                refine wp_region_held_drew (S := fun u => Below wr.heap.size wr u) (by kernel_rfl) (Below.refl _ _).drew (fun hHeld => ?_)
                refine wpAnyH_take (i := 0) (oi := { dst := some 24, op := Op.move (Operand.tmp 5), type := 3, pos := _, after := #[], guard := none }) (v := .int .i64 (j : Int)) rfl (by kernel_rfl) (by kernel_rfl) (by kernel_rfl) (fun _ _ _ h => h) (Or.inl ⟨by rfl, ?_⟩) hHeld ?_
                · intro u hu
                  go_simp
                try simp only [Act.put, List.setIfInBounds_toArray, List.set_cons_zero, List.set_cons_succ]
                refine wpAnyH_take (i := 1) (oi := { dst := some 25, op := Op.move (Operand.tmp 3), type := 28, pos := _, after := #[], guard := none }) (v := .slice (some ⟨gb, 0, none⟩) out.length cap) rfl (by kernel_rfl) (by kernel_rfl) (by kernel_rfl) (fun _ _ _ h => h) (Or.inl ⟨by rfl, ?_⟩) hHeld ?_
                · intro u hu
                  go_simp
                try simp only [Act.put, List.setIfInBounds_toArray, List.set_cons_zero, List.set_cons_succ]
                refine wpAnyH_take (i := 2) (oi := { dst := some 26, op := Op.call { callee := Callee.builtin Builtin.len, args := #[Operand.tmp 25], argTypes := #[28] }, type := 3, pos := _, after := #[{ on := 1, ground := Ground.data }], guard := none }) (v := .int .i64 (out.length : Int)) rfl (by kernel_rfl) (by kernel_rfl) (by kernel_rfl) (fun _ _ _ h => h) (Or.inl ⟨by rfl, ?_⟩) hHeld ?_
                · intro u hu
                  go_simp
                try simp only [Act.put, List.setIfInBounds_toArray, List.set_cons_zero, List.set_cons_succ]
                refine wpAnyH_take (i := 3) (oi := { dst := some 27, op := Op.binOp BinOp.lss 3 (Operand.tmp 24) (Operand.tmp 26) 3, type := 4, pos := _, after := #[{ on := 0, ground := Ground.data }, { on := 2, ground := Ground.data }], guard := none }) (v := .bool true) rfl (by kernel_rfl) (by kernel_rfl) (by kernel_rfl) (fun _ _ _ h => h) (Or.inl ⟨by rfl, ?_⟩) hHeld ?_
                · intro u hu
                  go_simp
                try simp only [Act.put, List.setIfInBounds_toArray, List.set_cons_zero, List.set_cons_succ]
                refine wpAnyH_take (i := 4) (oi := { dst := some 28, op := Op.move (Operand.tmp 27), type := 4, pos := _, after := #[{ on := 3, ground := Ground.data }], guard := none }) (v := .bool true) rfl (by kernel_rfl) (by kernel_rfl) (by kernel_rfl) (fun _ _ _ h => h) (Or.inl ⟨by rfl, ?_⟩) hHeld ?_
                · intro u hu
                  go_simp
                try simp only [Act.put, List.setIfInBounds_toArray, List.set_cons_zero, List.set_cons_succ]
                refine wpAnyH_take (i := 5) (oi := { dst := some 29, op := Op.move (Operand.tmp 3), type := 28, pos := _, after := #[{ on := 4, ground := Ground.guard }], guard := some (4, true) }) (v := .slice (some ⟨gb, 0, none⟩) out.length cap) rfl (by kernel_rfl) (by kernel_rfl) (by kernel_rfl) (fun _ _ _ h => h) (Or.inl ⟨by rfl, ?_⟩) hHeld ?_
                · intro u hu
                  go_simp
                try simp only [Act.put, List.setIfInBounds_toArray, List.set_cons_zero, List.set_cons_succ]
                refine wpAnyH_take (i := 6) (oi := { dst := some 30, op := Op.move (Operand.tmp 5), type := 3, pos := _, after := #[{ on := 4, ground := Ground.guard }], guard := some (4, true) }) (v := .int .i64 (j : Int)) rfl (by kernel_rfl) (by kernel_rfl) (by kernel_rfl) (fun _ _ _ h => h) (Or.inl ⟨by rfl, ?_⟩) hHeld ?_
                · intro u hu
                  go_simp
                try simp only [Act.put, List.setIfInBounds_toArray, List.set_cons_zero, List.set_cons_succ]
                refine wpAnyH_take (i := 7) (oi := { dst := some 31, op := Op.indexAddr 28 (Operand.tmp 29) (Operand.tmp 30), type := 0, pos := _, after := #[{ on := 5, ground := Ground.data }, { on := 6, ground := Ground.data }, { on := 4, ground := Ground.guard }], guard := some (4, true) }) (v := .pointer (some ⟨gb, j, none⟩)) rfl (by kernel_rfl) (by kernel_rfl) (by kernel_rfl) (fun _ _ _ h => h) (Or.inl ⟨by rfl, ?_⟩) hHeld ?_
                · intro u hu
                  go_simp
                try simp only [Act.put, List.setIfInBounds_toArray, List.set_cons_zero, List.set_cons_succ]
                refine wpAnyH_take (i := 8) (oi := { dst := some 32, op := Op.load 3 (Operand.tmp 31), type := 3, pos := _, after := #[{ on := 7, ground := Ground.data }, { on := 4, ground := Ground.guard }], guard := some (4, true) }) (v := .int .i64 y) rfl (by kernel_rfl) (by kernel_rfl) (by kernel_rfl) (fun _ _ _ h => h) (Or.inl ⟨by rfl, ?_⟩) hHeld ?_
                · intro u hu
                  have x1 := (Stp.of_below hu (fun _ => False)).cell cy id; go_simp
                try simp only [Act.put, List.setIfInBounds_toArray, List.set_cons_zero, List.set_cons_succ]
                refine wpAnyH_take (i := 9) (oi := { dst := some 33, op := Op.move (Operand.tmp 0), type := 25, pos := _, after := #[{ on := 4, ground := Ground.guard }], guard := some (4, true) }) (v := .pointer (some ⟨g, 0, none⟩)) rfl (by kernel_rfl) (by kernel_rfl) (by kernel_rfl) (fun _ _ _ h => h) (Or.inl ⟨by rfl, ?_⟩) hHeld ?_
                · intro u hu
                  go_simp
                try simp only [Act.put, List.setIfInBounds_toArray, List.set_cons_zero, List.set_cons_succ]
                refine wpAnyH_take (i := 10) (oi := { dst := some 34, op := Op.nilCheck (Operand.tmp 33), type := 0, pos := _, after := #[{ on := 9, ground := Ground.data }, { on := 4, ground := Ground.guard }], guard := some (4, true) }) (v := .pointer (some ⟨g, 0, none⟩)) rfl (by kernel_rfl) (by kernel_rfl) (by kernel_rfl) (fun _ _ _ h => h) (Or.inl ⟨by rfl, ?_⟩) hHeld ?_
                · intro u hu
                  go_simp
                try simp only [Act.put, List.setIfInBounds_toArray, List.set_cons_zero, List.set_cons_succ]
                refine wpAnyH_take (i := 11) (oi := { dst := some 35, op := Op.fieldAddr 48 (Operand.tmp 34) 1, type := 0, pos := _, after := #[{ on := 10, ground := Ground.data }, { on := 4, ground := Ground.guard }], guard := some (4, true) }) (v := .pointer (some ⟨g, 1, none⟩)) rfl (by kernel_rfl) (by kernel_rfl) (by kernel_rfl) (fun _ _ _ h => h) (Or.inl ⟨by rfl, ?_⟩) hHeld ?_
                · intro u hu
                  go_simp
                try simp only [Act.put, List.setIfInBounds_toArray, List.set_cons_zero, List.set_cons_succ]
                refine wpAnyH_take (i := 12) (oi := { dst := some 36, op := Op.load 46 (Operand.tmp 35), type := 46, pos := _, after := #[{ on := 11, ground := Ground.data }, { on := 4, ground := Ground.guard }], guard := some (4, true) }) (v := .slice (some ⟨b, 0, none⟩) L.length c) rfl (by kernel_rfl) (by kernel_rfl) (by kernel_rfl) (fun _ _ _ h => h) (Or.inl ⟨by rfl, ?_⟩) hHeld ?_
                · intro u hu
                  have x1 := (Stp.of_below hu (fun _ => False)).cell z1 id; go_simp
                try simp only [Act.put, List.setIfInBounds_toArray, List.set_cons_zero, List.set_cons_succ]
                refine wpAnyH_take (i := 13) (oi := { dst := some 37, op := Op.move (Operand.tmp 4), type := 3, pos := _, after := #[{ on := 4, ground := Ground.guard }], guard := some (4, true) }) (v := .int .i64 (i : Int)) rfl (by kernel_rfl) (by kernel_rfl) (by kernel_rfl) (fun _ _ _ h => h) (Or.inl ⟨by rfl, ?_⟩) hHeld ?_
                · intro u hu
                  go_simp
                try simp only [Act.put, List.setIfInBounds_toArray, List.set_cons_zero, List.set_cons_succ]
                refine wpAnyH_take (i := 14) (oi := { dst := some 38, op := Op.indexAddr 46 (Operand.tmp 36) (Operand.tmp 37), type := 0, pos := _, after := #[{ on := 12, ground := Ground.data }, { on := 13, ground := Ground.data }, { on := 4, ground := Ground.guard }], guard := some (4, true) }) (v := .pointer (some ⟨b, i * 9, none⟩)) rfl (by kernel_rfl) (by kernel_rfl) (by kernel_rfl) (fun _ _ _ h => h) (Or.inl ⟨by rfl, ?_⟩) hHeld ?_
                · intro u hu
                  go_simp
                try simp only [Act.put, List.setIfInBounds_toArray, List.set_cons_zero, List.set_cons_succ]
                refine wpAnyH_take (i := 15) (oi := { dst := some 39, op := Op.fieldAddr 30 (Operand.tmp 38) 1, type := 0, pos := _, after := #[{ on := 14, ground := Ground.data }, { on := 4, ground := Ground.guard }], guard := some (4, true) }) (v := .pointer (some ⟨b, i * 9 + 1, none⟩)) rfl (by kernel_rfl) (by kernel_rfl) (by kernel_rfl) (fun _ _ _ h => h) (Or.inl ⟨by rfl, ?_⟩) hHeld ?_
                · intro u hu
                  go_simp
                try simp only [Act.put, List.setIfInBounds_toArray, List.set_cons_zero, List.set_cons_succ]
                refine wpAnyH_take (i := 16) (oi := { dst := some 40, op := Op.load 3 (Operand.tmp 39), type := 3, pos := _, after := #[{ on := 15, ground := Ground.data }, { on := 4, ground := Ground.guard }], guard := some (4, true) }) (v := .int .i64 x) rfl (by kernel_rfl) (by kernel_rfl) (by kernel_rfl) (fun _ _ _ h => h) (Or.inl ⟨by rfl, ?_⟩) hHeld ?_
                · intro u hu
                  have x1 := (Stp.of_below hu (fun _ => False)).cell c1 id; go_simp
                try simp only [Act.put, List.setIfInBounds_toArray, List.set_cons_zero, List.set_cons_succ]
                refine wpAnyH_take (i := 17) (oi := { dst := some 41, op := Op.binOp BinOp.lss 3 (Operand.tmp 32) (Operand.tmp 40) 3, type := 4, pos := _, after := #[{ on := 8, ground := Ground.data }, { on := 16, ground := Ground.data }, { on := 4, ground := Ground.guard }], guard := some (4, true) }) (v := .bool true) rfl (by kernel_rfl) (by kernel_rfl) (by kernel_rfl) (fun _ _ _ h => h) (Or.inl ⟨by rfl, ?_⟩) hHeld ?_
                · intro u hu
                  go_simp
                try simp only [Act.put, List.setIfInBounds_toArray, List.set_cons_zero, List.set_cons_succ]
                refine wpAnyH_take (i := 18) (oi := { dst := some 42, op := Op.pick (Operand.tmp 28) (Operand.tmp 41) (Operand.const (Value.bool false)), type := 4, pos := _, after := #[{ on := 4, ground := Ground.data }, { on := 17, ground := Ground.data }], guard := none }) (v := .bool true) rfl (by kernel_rfl) (by kernel_rfl) (by kernel_rfl) (fun _ _ _ h => h) (Or.inl ⟨by rfl, ?_⟩) hHeld ?_
                · intro u hu
                  go_simp
                try simp only [Act.put, List.setIfInBounds_toArray, List.set_cons_zero, List.set_cons_succ]
                refine wpAnyH_done (by kernel_rfl) ?_ _
                have B9 := bnext Bj hHeld (Nat.le_refl _)
                go_wp2_with fail
                go_roundw
                case rel => exact ⟨j + 1, by omega, by go_num, hno2, B9⟩
                case measure => simp [intOf]; omega
              · go_wp2_with fail
                refine wp_region_held_drew (S := fun u => Below wr.heap.size wr u) (by kernel_rfl) (Below.refl _ _).drew (fun hHeld => ?_)
                refine wpAnyH_take (i := 0) (oi := { dst := some 24, op := Op.move (Operand.tmp 5), type := 3, pos := _, after := #[], guard := none }) (v := .int .i64 (j : Int)) rfl (by kernel_rfl) (by kernel_rfl) (by kernel_rfl) (fun _ _ _ h => h) (Or.inl ⟨by rfl, ?_⟩) hHeld ?_
                · intro u hu
                  go_simp
                try simp only [Act.put, List.setIfInBounds_toArray, List.set_cons_zero, List.set_cons_succ]
                refine wpAnyH_take (i := 1) (oi := { dst := some 25, op := Op.move (Operand.tmp 3), type := 28, pos := _, after := #[], guard := none }) (v := .slice (some ⟨gb, 0, none⟩) out.length cap) rfl (by kernel_rfl) (by kernel_rfl) (by kernel_rfl) (fun _ _ _ h => h) (Or.inl ⟨by rfl, ?_⟩) hHeld ?_
                · intro u hu
                  go_simp
                try simp only [Act.put, List.setIfInBounds_toArray, List.set_cons_zero, List.set_cons_succ]
                refine wpAnyH_take (i := 2) (oi := { dst := some 26, op := Op.call { callee := Callee.builtin Builtin.len, args := #[Operand.tmp 25], argTypes := #[28] }, type := 3, pos := _, after := #[{ on := 1, ground := Ground.data }], guard := none }) (v := .int .i64 (out.length : Int)) rfl (by kernel_rfl) (by kernel_rfl) (by kernel_rfl) (fun _ _ _ h => h) (Or.inl ⟨by rfl, ?_⟩) hHeld ?_
                · intro u hu
                  go_simp
                try simp only [Act.put, List.setIfInBounds_toArray, List.set_cons_zero, List.set_cons_succ]
                refine wpAnyH_take (i := 3) (oi := { dst := some 27, op := Op.binOp BinOp.lss 3 (Operand.tmp 24) (Operand.tmp 26) 3, type := 4, pos := _, after := #[{ on := 0, ground := Ground.data }, { on := 2, ground := Ground.data }], guard := none }) (v := .bool true) rfl (by kernel_rfl) (by kernel_rfl) (by kernel_rfl) (fun _ _ _ h => h) (Or.inl ⟨by rfl, ?_⟩) hHeld ?_
                · intro u hu
                  go_simp
                try simp only [Act.put, List.setIfInBounds_toArray, List.set_cons_zero, List.set_cons_succ]
                refine wpAnyH_take (i := 4) (oi := { dst := some 28, op := Op.move (Operand.tmp 27), type := 4, pos := _, after := #[{ on := 3, ground := Ground.data }], guard := none }) (v := .bool true) rfl (by kernel_rfl) (by kernel_rfl) (by kernel_rfl) (fun _ _ _ h => h) (Or.inl ⟨by rfl, ?_⟩) hHeld ?_
                · intro u hu
                  go_simp
                try simp only [Act.put, List.setIfInBounds_toArray, List.set_cons_zero, List.set_cons_succ]
                refine wpAnyH_take (i := 5) (oi := { dst := some 29, op := Op.move (Operand.tmp 3), type := 28, pos := _, after := #[{ on := 4, ground := Ground.guard }], guard := some (4, true) }) (v := .slice (some ⟨gb, 0, none⟩) out.length cap) rfl (by kernel_rfl) (by kernel_rfl) (by kernel_rfl) (fun _ _ _ h => h) (Or.inl ⟨by rfl, ?_⟩) hHeld ?_
                · intro u hu
                  go_simp
                try simp only [Act.put, List.setIfInBounds_toArray, List.set_cons_zero, List.set_cons_succ]
                refine wpAnyH_take (i := 6) (oi := { dst := some 30, op := Op.move (Operand.tmp 5), type := 3, pos := _, after := #[{ on := 4, ground := Ground.guard }], guard := some (4, true) }) (v := .int .i64 (j : Int)) rfl (by kernel_rfl) (by kernel_rfl) (by kernel_rfl) (fun _ _ _ h => h) (Or.inl ⟨by rfl, ?_⟩) hHeld ?_
                · intro u hu
                  go_simp
                try simp only [Act.put, List.setIfInBounds_toArray, List.set_cons_zero, List.set_cons_succ]
                refine wpAnyH_take (i := 7) (oi := { dst := some 31, op := Op.indexAddr 28 (Operand.tmp 29) (Operand.tmp 30), type := 0, pos := _, after := #[{ on := 5, ground := Ground.data }, { on := 6, ground := Ground.data }, { on := 4, ground := Ground.guard }], guard := some (4, true) }) (v := .pointer (some ⟨gb, j, none⟩)) rfl (by kernel_rfl) (by kernel_rfl) (by kernel_rfl) (fun _ _ _ h => h) (Or.inl ⟨by rfl, ?_⟩) hHeld ?_
                · intro u hu
                  go_simp
                try simp only [Act.put, List.setIfInBounds_toArray, List.set_cons_zero, List.set_cons_succ]
                refine wpAnyH_take (i := 8) (oi := { dst := some 32, op := Op.load 3 (Operand.tmp 31), type := 3, pos := _, after := #[{ on := 7, ground := Ground.data }, { on := 4, ground := Ground.guard }], guard := some (4, true) }) (v := .int .i64 y) rfl (by kernel_rfl) (by kernel_rfl) (by kernel_rfl) (fun _ _ _ h => h) (Or.inl ⟨by rfl, ?_⟩) hHeld ?_
                · intro u hu
                  have x1 := (Stp.of_below hu (fun _ => False)).cell cy id; go_simp
                try simp only [Act.put, List.setIfInBounds_toArray, List.set_cons_zero, List.set_cons_succ]
                refine wpAnyH_take (i := 9) (oi := { dst := some 33, op := Op.move (Operand.tmp 0), type := 25, pos := _, after := #[{ on := 4, ground := Ground.guard }], guard := some (4, true) }) (v := .pointer (some ⟨g, 0, none⟩)) rfl (by kernel_rfl) (by kernel_rfl) (by kernel_rfl) (fun _ _ _ h => h) (Or.inl ⟨by rfl, ?_⟩) hHeld ?_
                · intro u hu
                  go_simp
                try simp only [Act.put, List.setIfInBounds_toArray, List.set_cons_zero, List.set_cons_succ]
                refine wpAnyH_take (i := 10) (oi := { dst := some 34, op := Op.nilCheck (Operand.tmp 33), type := 0, pos := _, after := #[{ on := 9, ground := Ground.data }, { on := 4, ground := Ground.guard }], guard := some (4, true) }) (v := .pointer (some ⟨g, 0, none⟩)) rfl (by kernel_rfl) (by kernel_rfl) (by kernel_rfl) (fun _ _ _ h => h) (Or.inl ⟨by rfl, ?_⟩) hHeld ?_
                · intro u hu
                  go_simp
                try simp only [Act.put, List.setIfInBounds_toArray, List.set_cons_zero, List.set_cons_succ]
                refine wpAnyH_take (i := 11) (oi := { dst := some 35, op := Op.fieldAddr 48 (Operand.tmp 34) 1, type := 0, pos := _, after := #[{ on := 10, ground := Ground.data }, { on := 4, ground := Ground.guard }], guard := some (4, true) }) (v := .pointer (some ⟨g, 1, none⟩)) rfl (by kernel_rfl) (by kernel_rfl) (by kernel_rfl) (fun _ _ _ h => h) (Or.inl ⟨by rfl, ?_⟩) hHeld ?_
                · intro u hu
                  go_simp
                try simp only [Act.put, List.setIfInBounds_toArray, List.set_cons_zero, List.set_cons_succ]
                refine wpAnyH_take (i := 12) (oi := { dst := some 36, op := Op.load 46 (Operand.tmp 35), type := 46, pos := _, after := #[{ on := 11, ground := Ground.data }, { on := 4, ground := Ground.guard }], guard := some (4, true) }) (v := .slice (some ⟨b, 0, none⟩) L.length c) rfl (by kernel_rfl) (by kernel_rfl) (by kernel_rfl) (fun _ _ _ h => h) (Or.inl ⟨by rfl, ?_⟩) hHeld ?_
                · intro u hu
                  have x1 := (Stp.of_below hu (fun _ => False)).cell z1 id; go_simp
                try simp only [Act.put, List.setIfInBounds_toArray, List.set_cons_zero, List.set_cons_succ]
                refine wpAnyH_take (i := 13) (oi := { dst := some 37, op := Op.move (Operand.tmp 4), type := 3, pos := _, after := #[{ on := 4, ground := Ground.guard }], guard := some (4, true) }) (v := .int .i64 (i : Int)) rfl (by kernel_rfl) (by kernel_rfl) (by kernel_rfl) (fun _ _ _ h => h) (Or.inl ⟨by rfl, ?_⟩) hHeld ?_
                · intro u hu
                  go_simp
                try simp only [Act.put, List.setIfInBounds_toArray, List.set_cons_zero, List.set_cons_succ]
                refine wpAnyH_take (i := 14) (oi := { dst := some 38, op := Op.indexAddr 46 (Operand.tmp 36) (Operand.tmp 37), type := 0, pos := _, after := #[{ on := 12, ground := Ground.data }, { on := 13, ground := Ground.data }, { on := 4, ground := Ground.guard }], guard := some (4, true) }) (v := .pointer (some ⟨b, i * 9, none⟩)) rfl (by kernel_rfl) (by kernel_rfl) (by kernel_rfl) (fun _ _ _ h => h) (Or.inl ⟨by rfl, ?_⟩) hHeld ?_
                · intro u hu
                  go_simp
                try simp only [Act.put, List.setIfInBounds_toArray, List.set_cons_zero, List.set_cons_succ]
                refine wpAnyH_take (i := 15) (oi := { dst := some 39, op := Op.fieldAddr 30 (Operand.tmp 38) 1, type := 0, pos := _, after := #[{ on := 14, ground := Ground.data }, { on := 4, ground := Ground.guard }], guard := some (4, true) }) (v := .pointer (some ⟨b, i * 9 + 1, none⟩)) rfl (by kernel_rfl) (by kernel_rfl) (by kernel_rfl) (fun _ _ _ h => h) (Or.inl ⟨by rfl, ?_⟩) hHeld ?_
                · intro u hu
                  go_simp
                try simp only [Act.put, List.setIfInBounds_toArray, List.set_cons_zero, List.set_cons_succ]
                refine wpAnyH_take (i := 16) (oi := { dst := some 40, op := Op.load 3 (Operand.tmp 39), type := 3, pos := _, after := #[{ on := 15, ground := Ground.data }, { on := 4, ground := Ground.guard }], guard := some (4, true) }) (v := .int .i64 x) rfl (by kernel_rfl) (by kernel_rfl) (by kernel_rfl) (fun _ _ _ h => h) (Or.inl ⟨by rfl, ?_⟩) hHeld ?_
                · intro u hu
                  have x1 := (Stp.of_below hu (fun _ => False)).cell c1 id; go_simp
                try simp only [Act.put, List.setIfInBounds_toArray, List.set_cons_zero, List.set_cons_succ]
                refine wpAnyH_take (i := 17) (oi := { dst := some 41, op := Op.binOp BinOp.lss 3 (Operand.tmp 32) (Operand.tmp 40) 3, type := 4, pos := _, after := #[{ on := 8, ground := Ground.data }, { on := 16, ground := Ground.data }, { on := 4, ground := Ground.guard }], guard := some (4, true) }) (v := .bool false) rfl (by kernel_rfl) (by kernel_rfl) (by kernel_rfl) (fun _ _ _ h => h) (Or.inl ⟨by rfl, ?_⟩) hHeld ?_
                · intro u hu
                  go_simp
                try simp only [Act.put, List.setIfInBounds_toArray, List.set_cons_zero, List.set_cons_succ]
                refine wpAnyH_take (i := 18) (oi := { dst := some 42, op := Op.pick (Operand.tmp 28) (Operand.tmp 41) (Operand.const (Value.bool false)), type := 4, pos := _, after := #[{ on := 4, ground := Ground.data }, { on := 17, ground := Ground.data }], guard := none }) (v := .bool false) rfl (by kernel_rfl) (by kernel_rfl) (by kernel_rfl) (fun _ _ _ h => h) (Or.inl ⟨by rfl, ?_⟩) hHeld ?_
                · intro u hu
                  go_simp
                try simp only [Act.put, List.setIfInBounds_toArray, List.set_cons_zero, List.set_cons_succ]
                refine wpAnyH_done (by kernel_rfl) ?_ _
                have B9 := bnext Bj hHeld (Nat.le_refl _)
                go_wp2_with fail
                go_meet
                exact ⟨j, hj, rfl, hno, (fun y' hy' => by rw [hgy] at hy'; injection hy' with hy'; omega), B9⟩
            · have q9 : ¬ (j : Int) < (out.length : Int) := by omega
              go_wp2_with fail
              refine wp_region_held_drew (S := fun u => Below wr.heap.size wr u) (by kernel_rfl) (Below.refl _ _).drew (fun hHeld => ?_)
              refine wpAnyH_take (i := 0) (oi := { dst := some 24, op := Op.move (Operand.tmp 5), type := 3, pos := _, after := #[], guard := none }) (v := .int .i64 (j : Int)) rfl (by kernel_rfl) (by kernel_rfl) (by kernel_rfl) (fun _ _ _ h => h) (Or.inl ⟨by rfl, ?_⟩) hHeld ?_
              · intro u hu
                go_simp
              try simp only [Act.put, List.setIfInBounds_toArray, List.set_cons_zero, List.set_cons_succ]
              refine wpAnyH_take (i := 1) (oi := { dst := some 25, op := Op.move (Operand.tmp 3), type := 28, pos := _, after := #[], guard := none }) (v := .slice (some ⟨gb, 0, none⟩) out.length cap) rfl (by kernel_rfl) (by kernel_rfl) (by kernel_rfl) (fun _ _ _ h => h) (Or.inl ⟨by rfl, ?_⟩) hHeld ?_
              · intro u hu
                go_simp
              try simp only [Act.put, List.setIfInBounds_toArray, List.set_cons_zero, List.set_cons_succ]
              refine wpAnyH_take (i := 2) (oi := { dst := some 26, op := Op.call { callee := Callee.builtin Builtin.len, args := #[Operand.tmp 25], argTypes := #[28] }, type := 3, pos := _, after := #[{ on := 1, ground := Ground.data }], guard := none }) (v := .int .i64 (out.length : Int)) rfl (by kernel_rfl) (by kernel_rfl) (by kernel_rfl) (fun _ _ _ h => h) (Or.inl ⟨by rfl, ?_⟩) hHeld ?_
              · intro u hu
                go_simp
              try simp only [Act.put, List.setIfInBounds_toArray, List.set_cons_zero, List.set_cons_succ]
              refine wpAnyH_take (i := 3) (oi := { dst := some 27, op := Op.binOp BinOp.lss 3 (Operand.tmp 24) (Operand.tmp 26) 3, type := 4, pos := _, after := #[{ on := 0, ground := Ground.data }, { on := 2, ground := Ground.data }], guard := none }) (v := .bool false) rfl (by kernel_rfl) (by kernel_rfl) (by kernel_rfl) (fun _ _ _ h => h) (Or.inl ⟨by rfl, ?_⟩) hHeld ?_
              · intro u hu
                go_simp
              try simp only [Act.put, List.setIfInBounds_toArray, List.set_cons_zero, List.set_cons_succ]
              refine wpAnyH_take (i := 4) (oi := { dst := some 28, op := Op.move (Operand.tmp 27), type := 4, pos := _, after := #[{ on := 3, ground := Ground.data }], guard := none }) (v := .bool false) rfl (by kernel_rfl) (by kernel_rfl) (by kernel_rfl) (fun _ _ _ h => h) (Or.inl ⟨by rfl, ?_⟩) hHeld ?_
              · intro u hu
                go_simp
              try simp only [Act.put, List.setIfInBounds_toArray, List.set_cons_zero, List.set_cons_succ]
              refine wpAnyH_take (i := 5) (oi := { dst := some 29, op := Op.move (Operand.tmp 3), type := 28, pos := _, after := #[{ on := 4, ground := Ground.guard }], guard := some (4, true) }) (v := undef) rfl (by kernel_rfl) (by kernel_rfl) (by kernel_rfl) (fun _ _ _ h => h)
                (Or.inr ⟨by rfl, rfl⟩) hHeld ?_
              try simp only [Act.put, List.setIfInBounds_toArray, List.set_cons_zero, List.set_cons_succ]
              refine wpAnyH_take (i := 6) (oi := { dst := some 30, op := Op.move (Operand.tmp 5), type := 3, pos := _, after := #[{ on := 4, ground := Ground.guard }], guard := some (4, true) }) (v := undef) rfl (by kernel_rfl) (by kernel_rfl) (by kernel_rfl) (fun _ _ _ h => h)
                (Or.inr ⟨by rfl, rfl⟩) hHeld ?_
              try simp only [Act.put, List.setIfInBounds_toArray, List.set_cons_zero, List.set_cons_succ]
              refine wpAnyH_take (i := 7) (oi := { dst := some 31, op := Op.indexAddr 28 (Operand.tmp 29) (Operand.tmp 30), type := 0, pos := _, after := #[{ on := 5, ground := Ground.data }, { on := 6, ground := Ground.data }, { on := 4, ground := Ground.guard }], guard := some (4, true) }) (v := undef) rfl (by kernel_rfl) (by kernel_rfl) (by kernel_rfl) (fun _ _ _ h => h)
                (Or.inr ⟨by rfl, rfl⟩) hHeld ?_
              try simp only [Act.put, List.setIfInBounds_toArray, List.set_cons_zero, List.set_cons_succ]
              refine wpAnyH_take (i := 8) (oi := { dst := some 32, op := Op.load 3 (Operand.tmp 31), type := 3, pos := _, after := #[{ on := 7, ground := Ground.data }, { on := 4, ground := Ground.guard }], guard := some (4, true) }) (v := undef) rfl (by kernel_rfl) (by kernel_rfl) (by kernel_rfl) (fun _ _ _ h => h)
                (Or.inr ⟨by rfl, rfl⟩) hHeld ?_
              try simp only [Act.put, List.setIfInBounds_toArray, List.set_cons_zero, List.set_cons_succ]
              refine wpAnyH_take (i := 9) (oi := { dst := some 33, op := Op.move (Operand.tmp 0), type := 25, pos := _, after := #[{ on := 4, ground := Ground.guard }], guard := some (4, true) }) (v := undef) rfl (by kernel_rfl) (by kernel_rfl) (by kernel_rfl) (fun _ _ _ h => h)
                (Or.inr ⟨by rfl, rfl⟩) hHeld ?_
              try simp only [Act.put, List.setIfInBounds_toArray, List.set_cons_zero, List.set_cons_succ]
              refine wpAnyH_take (i := 10) (oi := { dst := some 34, op := Op.nilCheck (Operand.tmp 33), type := 0, pos := _, after := #[{ on := 9, ground := Ground.data }, { on := 4, ground := Ground.guard }], guard := some (4, true) }) (v := undef) rfl (by kernel_rfl) (by kernel_rfl) (by kernel_rfl) (fun _ _ _ h => h)
                (Or.inr ⟨by rfl, rfl⟩) hHeld ?_
              try simp only [Act.put, List.setIfInBounds_toArray, List.set_cons_zero, List.set_cons_succ]
              refine wpAnyH_take (i := 11) (oi := { dst := some 35, op := Op.fieldAddr 48 (Operand.tmp 34) 1, type := 0, pos := _, after := #[{ on := 10, ground := Ground.data }, { on := 4, ground := Ground.guard }], guard := some (4, true) }) (v := undef) rfl (by kernel_rfl) (by kernel_rfl) (by kernel_rfl) (fun _ _ _ h => h)
                (Or.inr ⟨by rfl, rfl⟩) hHeld ?_
              try simp only [Act.put, List.setIfInBounds_toArray, List.set_cons_zero, List.set_cons_succ]
              refine wpAnyH_take (i := 12) (oi := { dst := some 36, op := Op.load 46 (Operand.tmp 35), type := 46, pos := _, after := #[{ on := 11, ground := Ground.data }, { on := 4, ground := Ground.guard }], guard := some (4, true) }) (v := undef) rfl (by kernel_rfl) (by kernel_rfl) (by kernel_rfl) (fun _ _ _ h => h)
                (Or.inr ⟨by rfl, rfl⟩) hHeld ?_
              try simp only [Act.put, List.setIfInBounds_toArray, List.set_cons_zero, List.set_cons_succ]
              refine wpAnyH_take (i := 13) (oi := { dst := some 37, op := Op.move (Operand.tmp 4), type := 3, pos := _, after := #[{ on := 4, ground := Ground.guard }], guard := some (4, true) }) (v := undef) rfl (by kernel_rfl) (by kernel_rfl) (by kernel_rfl) (fun _ _ _ h => h)
                (Or.inr ⟨by rfl, rfl⟩) hHeld ?_
              try simp only [Act.put, List.setIfInBounds_toArray, List.set_cons_zero, List.set_cons_succ]
              refine wpAnyH_take (i := 14) (oi := { dst := some 38, op := Op.indexAddr 46 (Operand.tmp 36) (Operand.tmp 37), type := 0, pos := _, after := #[{ on := 12, ground := Ground.data }, { on := 13, ground := Ground.data }, { on := 4, ground := Ground.guard }], guard := some (4, true) }) (v := undef) rfl (by kernel_rfl) (by kernel_rfl) (by kernel_rfl) (fun _ _ _ h => h)
                (Or.inr ⟨by rfl, rfl⟩) hHeld ?_
              try simp only [Act.put, List.setIfInBounds_toArray, List.set_cons_zero, List.set_cons_succ]
              refine wpAnyH_take (i := 15) (oi := { dst := some 39, op := Op.fieldAddr 30 (Operand.tmp 38) 1, type := 0, pos := _, after := #[{ on := 14, ground := Ground.data }, { on := 4, ground := Ground.guard }], guard := some (4, true) }) (v := undef) rfl (by kernel_rfl) (by kernel_rfl) (by kernel_rfl) (fun _ _ _ h => h)
                (Or.inr ⟨by rfl, rfl⟩) hHeld ?_
              try simp only [Act.put, List.setIfInBounds_toArray, List.set_cons_zero, List.set_cons_succ]
              refine wpAnyH_take (i := 16) (oi := { dst := some 40, op := Op.load 3 (Operand.tmp 39), type := 3, pos := _, after := #[{ on := 15, ground := Ground.data }, { on := 4, ground := Ground.guard }], guard := some (4, true) }) (v := undef) rfl (by kernel_rfl) (by kernel_rfl) (by kernel_rfl) (fun _ _ _ h => h)
                (Or.inr ⟨by rfl, rfl⟩) hHeld ?_
              try simp only [Act.put, List.setIfInBounds_toArray, List.set_cons_zero, List.set_cons_succ]
              refine wpAnyH_take (i := 17) (oi := { dst := some 41, op := Op.binOp BinOp.lss 3 (Operand.tmp 32) (Operand.tmp 40) 3, type := 4, pos := _, after := #[{ on := 8, ground := Ground.data }, { on := 16, ground := Ground.data }, { on := 4, ground := Ground.guard }], guard := some (4, true) }) (v := undef) rfl (by kernel_rfl) (by kernel_rfl) (by kernel_rfl) (fun _ _ _ h => h)
                (Or.inr ⟨by rfl, rfl⟩) hHeld ?_
              try simp only [Act.put, List.setIfInBounds_toArray, List.set_cons_zero, List.set_cons_succ]
              refine wpAnyH_take (i := 18) (oi := { dst := some 42, op := Op.pick (Operand.tmp 28) (Operand.tmp 41) (Operand.const (Value.bool false)), type := 4, pos := _, after := #[{ on := 4, ground := Ground.data }, { on := 17, ground := Ground.data }], guard := none }) (v := .bool false) rfl (by kernel_rfl) (by kernel_rfl) (by kernel_rfl) (fun _ _ _ h => h) (Or.inl ⟨by rfl, ?_⟩) hHeld ?_
              · intro u hu
                go_simp
              try simp only [Act.put, List.setIfInBounds_toArray, List.set_cons_zero, List.set_cons_succ]
              refine wpAnyH_done (by kernel_rfl) ?_ _
              have B9 := bnext Bj hHeld (Nat.le_refl _)
              go_wp2_with fail
              go_meet
              exact ⟨j, hj, rfl, hno, (fun y' hy' => by rw [List.getElem?_eq_none (by omega)] at hy'; cases hy'), B9⟩
        case rest =>
          obtain ⟨j, hj, rfl, hno, hge, Bj⟩ := hcut
          have hins : Hid (insU out x = if insQ out j x = true then out.take j ++ x :: out.drop j else out) := insU_cut hno hge
          have z1j := (Stp.of_below Bj (fun _ => False)).cell z1 id
          have c1j := (Stp.of_below Bj (fun _ => False)).cell c1 id
          have Ij := I.later Bj
          clear hno hge z1 c1 z0
          have q8 : (0 : Int) ≤ (j : Int) := by omega
          go_upto_region 9 with fail
          go_cut [63] from 7 to 82 (fun u wx => u = .bool (insQ out j x) ∧ Below wc.heap.size wc wx)
          case first =>
            have z1 := z1j
            have c1 := c1j
            by_cases hjl : j < out.length
            · have q9 : ¬ (j : Int) = (out.length : Int) := by omega
              have q7 : (j : Int) < (out.length : Int) := by omega
              have cy := (Stp.of_below Bj (fun _ => False)).cell (hrow.cell j hjl) id
              have hgy : out[j]? = some (out.getD j 0) := by rw [List.getElem?_eq_getElem hjl, List.getD_eq_getElem?_getD, List.getElem?_eq_getElem hjl]; rfl
              generalize out.getD j 0 = y at *
              refine wp_region_held_drew (S := fun u => Below wc.heap.size wc u) (by kernel_rfl) (Below.refl _ _).drew (fun hHeld => ?_)
              by_cases hyx : y = x
              · have hQ : Hid (insQ out j x = false) := (by unfold insQ; rw [hgy, hyx]; simp : insQ out j x = false)
                refine wpAnyH_take (i := 0) (oi := { dst := some 45, op := Op.move (Operand.tmp 5), type := 3, pos := _, after := #[], guard := none }) (v := .int .i64 (j : Int)) rfl (by kernel_rfl) (by kernel_rfl) (by kernel_rfl) (fun _ _ _ h => h) (Or.inl ⟨by rfl, ?_⟩) hHeld ?_
                · intro u hu
                  go_simp
                try simp only [Act.put, List.setIfInBounds_toArray, List.set_cons_zero, List.set_cons_succ]
                refine wpAnyH_take (i := 1) (oi := { dst := some 46, op := Op.move (Operand.tmp 3), type := 28, pos := _, after := #[], guard := none }) (v := .slice (some ⟨gb, 0, none⟩) out.length cap) rfl (by kernel_rfl) (by kernel_rfl) (by kernel_rfl) (fun _ _ _ h => h) (Or.inl ⟨by rfl, ?_⟩) hHeld ?_
                · intro u hu
                  go_simp
                try simp only [Act.put, List.setIfInBounds_toArray, List.set_cons_zero, List.set_cons_succ]
                refine wpAnyH_take (i := 2) (oi := { dst := some 47, op := Op.call { callee := Callee.builtin Builtin.len, args := #[Operand.tmp 46], argTypes := #[28] }, type := 3, pos := _, after := #[{ on := 1, ground := Ground.data }], guard := none }) (v := .int .i64 (out.length : Int)) rfl (by kernel_rfl) (by kernel_rfl) (by kernel_rfl) (fun _ _ _ h => h) (Or.inl ⟨by rfl, ?_⟩) hHeld ?_
                · intro u hu
                  go_simp
                try simp only [Act.put, List.setIfInBounds_toArray, List.set_cons_zero, List.set_cons_succ]
                refine wpAnyH_take (i := 3) (oi := { dst := some 48, op := Op.binOp BinOp.eql 3 (Operand.tmp 45) (Operand.tmp 47) 3, type := 4, pos := _, after := #[{ on := 0, ground := Ground.data }, { on := 2, ground := Ground.data }], guard := none }) (v := .bool false) rfl (by kernel_rfl) (by kernel_rfl) (by kernel_rfl) (fun _ _ _ h => h) (Or.inl ⟨by rfl, ?_⟩) hHeld ?_
                · intro u hu
                  go_simp
                try simp only [Act.put, List.setIfInBounds_toArray, List.set_cons_zero, List.set_cons_succ]
                refine wpAnyH_take (i := 4) (oi := { dst := some 49, op := Op.move (Operand.tmp 48), type := 4, pos := _, after := #[{ on := 3, ground := Ground.data }], guard := none }) (v := .bool false) rfl (by kernel_rfl) (by kernel_rfl) (by kernel_rfl) (fun _ _ _ h => h) (Or.inl ⟨by rfl, ?_⟩) hHeld ?_
                · intro u hu
                  go_simp
                try simp only [Act.put, List.setIfInBounds_toArray, List.set_cons_zero, List.set_cons_succ]
                refine wpAnyH_take (i := 5) (oi := { dst := some 50, op := Op.move (Operand.tmp 3), type := 28, pos := _, after := #[{ on := 4, ground := Ground.guard }], guard := some (4, false) }) (v := .slice (some ⟨gb, 0, none⟩) out.length cap) rfl (by kernel_rfl) (by kernel_rfl) (by kernel_rfl) (fun _ _ _ h => h) (Or.inl ⟨by rfl, ?_⟩) hHeld ?_
                · intro u hu
                  go_simp
                try simp only [Act.put, List.setIfInBounds_toArray, List.set_cons_zero, List.set_cons_succ]
                refine wpAnyH_take (i := 6) (oi := { dst := some 51, op := Op.move (Operand.tmp 5), type := 3, pos := _, after := #[{ on := 4, ground := Ground.guard }], guard := some (4, false) }) (v := .int .i64 (j : Int)) rfl (by kernel_rfl) (by kernel_rfl) (by kernel_rfl) (fun _ _ _ h => h) (Or.inl ⟨by rfl, ?_⟩) hHeld ?_
                · intro u hu
                  go_simp
                try simp only [Act.put, List.setIfInBounds_toArray, List.set_cons_zero, List.set_cons_succ]
                refine wpAnyH_take (i := 7) (oi := { dst := some 52, op := Op.indexAddr 28 (Operand.tmp 50) (Operand.tmp 51), type := 0, pos := _, after := #[{ on := 5, ground := Ground.data }, { on := 6, ground := Ground.data }, { on := 4, ground := Ground.guard }], guard := some (4, false) }) (v := .pointer (some ⟨gb, j, none⟩)) rfl (by kernel_rfl) (by kernel_rfl) (by kernel_rfl) (fun _ _ _ h => h) (Or.inl ⟨by rfl, ?_⟩) hHeld ?_
                · intro u hu
                  go_simp
                try simp only [Act.put, List.setIfInBounds_toArray, List.set_cons_zero, List.set_cons_succ]
                refine wpAnyH_take (i := 8) (oi := { dst := some 53, op := Op.load 3 (Operand.tmp 52), type := 3, pos := _, after := #[{ on := 7, ground := Ground.data }, { on := 4, ground := Ground.guard }], guard := some (4, false) }) (v := .int .i64 y) rfl (by kernel_rfl) (by kernel_rfl) (by kernel_rfl) (fun _ _ _ h => h) (Or.inl ⟨by rfl, ?_⟩) hHeld ?_
                · intro u hu
                  have x1 := (Stp.of_below hu (fun _ => False)).cell cy id; go_simp
                try simp only [Act.put, List.setIfInBounds_toArray, List.set_cons_zero, List.set_cons_succ]
                refine wpAnyH_take (i := 9) (oi := { dst := some 54, op := Op.move (Operand.tmp 0), type := 25, pos := _, after := #[{ on := 4, ground := Ground.guard }], guard := some (4, false) }) (v := .pointer (some ⟨g, 0, none⟩)) rfl (by kernel_rfl) (by kernel_rfl) (by kernel_rfl) (fun _ _ _ h => h) (Or.inl ⟨by rfl, ?_⟩) hHeld ?_
                · intro u hu
                  go_simp
                try simp only [Act.put, List.setIfInBounds_toArray, List.set_cons_zero, List.set_cons_succ]
                refine wpAnyH_take (i := 10) (oi := { dst := some 55, op := Op.nilCheck (Operand.tmp 54), type := 0, pos := _, after := #[{ on := 9, ground := Ground.data }, { on := 4, ground := Ground.guard }], guard := some (4, false) }) (v := .pointer (some ⟨g, 0, none⟩)) rfl (by kernel_rfl) (by kernel_rfl) (by kernel_rfl) (fun _ _ _ h => h) (Or.inl ⟨by rfl, ?_⟩) hHeld ?_
                · intro u hu
                  go_simp
                try simp only [Act.put, List.setIfInBounds_toArray, List.set_cons_zero, List.set_cons_succ]
                refine wpAnyH_take (i := 11) (oi := { dst := some 56, op := Op.fieldAddr 48 (Operand.tmp 55) 1, type := 0, pos := _, after := #[{ on := 10, ground := Ground.data }, { on := 4, ground := Ground.guard }], guard := some (4, false) }) (v := .pointer (some ⟨g, 1, none⟩)) rfl (by kernel_rfl) (by kernel_rfl) (by kernel_rfl) (fun _ _ _ h => h) (Or.inl ⟨by rfl, ?_⟩) hHeld ?_
                · intro u hu
                  go_simp
                try simp only [Act.put, List.setIfInBounds_toArray, List.set_cons_zero, List.set_cons_succ]
                refine wpAnyH_take (i := 12) (oi := { dst := some 57, op := Op.load 46 (Operand.tmp 56), type := 46, pos := _, after := #[{ on := 11, ground := Ground.data }, { on := 4, ground := Ground.guard }], guard := some (4, false) }) (v := .slice (some ⟨b, 0, none⟩) L.length c) rfl (by kernel_rfl) (by kernel_rfl) (by kernel_rfl) (fun _ _ _ h => h) (Or.inl ⟨by rfl, ?_⟩) hHeld ?_
                · intro u hu
                  have x1 := (Stp.of_below hu (fun _ => False)).cell z1 id; go_simp
                try simp only [Act.put, List.setIfInBounds_toArray, List.set_cons_zero, List.set_cons_succ]
                refine wpAnyH_take (i := 13) (oi := { dst := some 58, op := Op.move (Operand.tmp 4), type := 3, pos := _, after := #[{ on := 4, ground := Ground.guard }], guard := some (4, false) }) (v := .int .i64 (i : Int)) rfl (by kernel_rfl) (by kernel_rfl) (by kernel_rfl) (fun _ _ _ h => h) (Or.inl ⟨by rfl, ?_⟩) hHeld ?_
                · intro u hu
                  go_simp
                try simp only [Act.put, List.setIfInBounds_toArray, List.set_cons_zero, List.set_cons_succ]
                refine wpAnyH_take (i := 14) (oi := { dst := some 59, op := Op.indexAddr 46 (Operand.tmp 57) (Operand.tmp 58), type := 0, pos := _, after := #[{ on := 12, ground := Ground.data }, { on := 13, ground := Ground.data }, { on := 4, ground := Ground.guard }], guard := some (4, false) }) (v := .pointer (some ⟨b, i * 9, none⟩)) rfl (by kernel_rfl) (by kernel_rfl) (by kernel_rfl) (fun _ _ _ h => h) (Or.inl ⟨by rfl, ?_⟩) hHeld ?_
                · intro u hu
                  go_simp
                try simp only [Act.put, List.setIfInBounds_toArray, List.set_cons_zero, List.set_cons_succ]
                refine wpAnyH_take (i := 15) (oi := { dst := some 60, op := Op.fieldAddr 30 (Operand.tmp 59) 1, type := 0, pos := _, after := #[{ on := 14, ground := Ground.data }, { on := 4, ground := Ground.guard }], guard := some (4, false) }) (v := .pointer (some ⟨b, i * 9 + 1, none⟩)) rfl (by kernel_rfl) (by kernel_rfl) (by kernel_rfl) (fun _ _ _ h => h) (Or.inl ⟨by rfl, ?_⟩) hHeld ?_
                · intro u hu
                  go_simp
                try simp only [Act.put, List.setIfInBounds_toArray, List.set_cons_zero, List.set_cons_succ]
                refine wpAnyH_take (i := 16) (oi := { dst := some 61, op := Op.load 3 (Operand.tmp 60), type := 3, pos := _, after := #[{ on := 15, ground := Ground.data }, { on := 4, ground := Ground.guard }], guard := some (4, false) }) (v := .int .i64 x) rfl (by kernel_rfl) (by kernel_rfl) (by kernel_rfl) (fun _ _ _ h => h) (Or.inl ⟨by rfl, ?_⟩) hHeld ?_
                · intro u hu
                  have x1 := (Stp.of_below hu (fun _ => False)).cell c1 id; go_simp
                try simp only [Act.put, List.setIfInBounds_toArray, List.set_cons_zero, List.set_cons_succ]
                refine wpAnyH_take (i := 17) (oi := { dst := some 62, op := Op.binOp BinOp.neq 3 (Operand.tmp 53) (Operand.tmp 61) 3, type := 4, pos := _, after := #[{ on := 8, ground := Ground.data }, { on := 16, ground := Ground.data }, { on := 4, ground := Ground.guard }], guard := some (4, false) }) (v := .bool false) rfl (by kernel_rfl) (by kernel_rfl) (by kernel_rfl) (fun _ _ _ h => h) (Or.inl ⟨by rfl, ?_⟩) hHeld ?_
                · intro u hu
                  go_simp
                try simp only [Act.put, List.setIfInBounds_toArray, List.set_cons_zero, List.set_cons_succ]
                refine wpAnyH_take (i := 18) (oi := { dst := some 63, op := Op.pick (Operand.tmp 49) (Operand.const (Value.bool true)) (Operand.tmp 62), type := 4, pos := _, after := #[{ on := 4, ground := Ground.data }, { on := 17, ground := Ground.data }], guard := none }) (v := .bool false) rfl (by kernel_rfl) (by kernel_rfl) (by kernel_rfl) (fun _ _ _ h => h) (Or.inl ⟨by rfl, ?_⟩) hHeld ?_
                · intro u hu
                  go_simp
                try simp only [Act.put, List.setIfInBounds_toArray, List.set_cons_zero, List.set_cons_succ]
                refine wpAnyH_done (by kernel_rfl) ?_ _
                go_wp2_with fail
                go_meet
                exact ⟨by rw [hQ.out], hHeld⟩
              · have hQ : Hid (insQ out j x = true) := (by unfold insQ; rw [hgy]; simp [hyx] : insQ out j x = true)
                refine wpAnyH_take (i := 0) (oi := { dst := some 45, op := Op.move (Operand.tmp 5), type := 3, pos := _, after := #[], guard := none }) (v := .int .i64 (j : Int)) rfl (by kernel_rfl) (by kernel_rfl) (by kernel_rfl) (fun _ _ _ h => h) (Or.inl ⟨by rfl, ?_⟩) hHeld ?_
                · intro u hu
                  go_simp
                try simp only [Act.put, List.setIfInBounds_toArray, List.set_cons_zero, List.set_cons_succ]
                refine wpAnyH_take (i := 1) (oi := { dst := some 46, op := Op.move (Operand.tmp 3), type := 28, pos := _, after := #[], guard := none }) (v := .slice (some ⟨gb, 0, none⟩) out.length cap) rfl (by kernel_rfl) (by kernel_rfl) (by kernel_rfl) (fun _ _ _ h => h) (Or.inl ⟨by rfl, ?_⟩) hHeld ?_
                · intro u hu
                  go_simp
                try simp only [Act.put, List.setIfInBounds_toArray, List.set_cons_zero, List.set_cons_succ]
                refine wpAnyH_take (i := 2) (oi := { dst := some 47, op := Op.call { callee := Callee.builtin Builtin.len, args := #[Operand.tmp 46], argTypes := #[28] }, type := 3, pos := _, after := #[{ on := 1, ground := Ground.data }], guard := none }) (v := .int .i64 (out.length : Int)) rfl (by kernel_rfl) (by kernel_rfl) (by kernel_rfl) (fun _ _ _ h => h) (Or.inl ⟨by rfl, ?_⟩) hHeld ?_
                · intro u hu
                  go_simp
                try simp only [Act.put, List.setIfInBounds_toArray, List.set_cons_zero, List.set_cons_succ]
                refine wpAnyH_take (i := 3) (oi := { dst := some 48, op := Op.binOp BinOp.eql 3 (Operand.tmp 45) (Operand.tmp 47) 3, type := 4, pos := _, after := #[{ on := 0, ground := Ground.data }, { on := 2, ground := Ground.data }], guard := none }) (v := .bool false) rfl (by kernel_rfl) (by kernel_rfl) (by kernel_rfl) (fun _ _ _ h => h) (Or.inl ⟨by rfl, ?_⟩) hHeld ?_
                · intro u hu
                  go_simp
                try simp only [Act.put, List.setIfInBounds_toArray, List.set_cons_zero, List.set_cons_succ]
                refine wpAnyH_take (i := 4) (oi := { dst := some 49, op := Op.move (Operand.tmp 48), type := 4, pos := _, after := #[{ on := 3, ground := Ground.data }], guard := none }) (v := .bool false) rfl (by kernel_rfl) (by kernel_rfl) (by kernel_rfl) (fun _ _ _ h => h) (Or.inl ⟨by rfl, ?_⟩) hHeld ?_
                · intro u hu
                  go_simp
                try simp only [Act.put, List.setIfInBounds_toArray, List.set_cons_zero, List.set_cons_succ]
                refine wpAnyH_take (i := 5) (oi := { dst := some 50, op := Op.move (Operand.tmp 3), type := 28, pos := _, after := #[{ on := 4, ground := Ground.guard }], guard := some (4, false) }) (v := .slice (some ⟨gb, 0, none⟩) out.length cap) rfl (by kernel_rfl) (by kernel_rfl) (by kernel_rfl) (fun _ _ _ h => h) (Or.inl ⟨by rfl, ?_⟩) hHeld ?_
                · intro u hu
                  go_simp
                try simp only [Act.put, List.setIfInBounds_toArray, List.set_cons_zero, List.set_cons_succ]
                refine wpAnyH_take (i := 6) (oi := { dst := some 51, op := Op.move (Operand.tmp 5), type := 3, pos := _, after := #[{ on := 4, ground := Ground.guard }], guard := some (4, false) }) (v := .int .i64 (j : Int)) rfl (by kernel_rfl) (by kernel_rfl) (by kernel_rfl) (fun _ _ _ h => h) (Or.inl ⟨by rfl, ?_⟩) hHeld ?_
                · intro u hu
                  go_simp
                try simp only [Act.put, List.setIfInBounds_toArray, List.set_cons_zero, List.set_cons_succ]
                refine wpAnyH_take (i := 7) (oi := { dst := some 52, op := Op.indexAddr 28 (Operand.tmp 50) (Operand.tmp 51), type := 0, pos := _, after := #[{ on := 5, ground := Ground.data }, { on := 6, ground := Ground.data }, { on := 4, ground := Ground.guard }], guard := some (4, false) }) (v := .pointer (some ⟨gb, j, none⟩)) rfl (by kernel_rfl) (by kernel_rfl) (by kernel_rfl) (fun _ _ _ h => h) (Or.inl ⟨by rfl, ?_⟩) hHeld ?_
                · intro u hu
                  go_simp
                try simp only [Act.put, List.setIfInBounds_toArray, List.set_cons_zero, List.set_cons_succ]
                refine wpAnyH_take (i := 8) (oi := { dst := some 53, op := Op.load 3 (Operand.tmp 52), type := 3, pos := _, after := #[{ on := 7, ground := Ground.data }, { on := 4, ground := Ground.guard }], guard := some (4, false) }) (v := .int .i64 y) rfl (by kernel_rfl) (by kernel_rfl) (by kernel_rfl) (fun _ _ _ h => h) (Or.inl ⟨by rfl, ?_⟩) hHeld ?_
                · intro u hu
                  have x1 := (Stp.of_below hu (fun _ => False)).cell cy id; go_simp
                try simp only [Act.put, List.setIfInBounds_toArray, List.set_cons_zero, List.set_cons_succ]
                refine wpAnyH_take (i := 9) (oi := { dst := some 54, op := Op.move (Operand.tmp 0), type := 25, pos := _, after := #[{ on := 4, ground := Ground.guard }], guard := some (4, false) }) (v := .pointer (some ⟨g, 0, none⟩)) rfl (by kernel_rfl) (by kernel_rfl) (by kernel_rfl) (fun _ _ _ h => h) (Or.inl ⟨by rfl, ?_⟩) hHeld ?_
                · intro u hu
                  go_simp
                try simp only [Act.put, List.setIfInBounds_toArray, List.set_cons_zero, List.set_cons_succ]
                refine wpAnyH_take (i := 10) (oi := { dst := some 55, op := Op.nilCheck (Operand.tmp 54), type := 0, pos := _, after := #[{ on := 9, ground := Ground.data }, { on := 4, ground := Ground.guard }], guard := some (4, false) }) (v := .pointer (some ⟨g, 0, none⟩)) rfl (by kernel_rfl) (by kernel_rfl) (by kernel_rfl) (fun _ _ _ h => h) (Or.inl ⟨by rfl, ?_⟩) hHeld ?_
                · intro u hu
                  go_simp
                try simp only [Act.put, List.setIfInBounds_toArray, List.set_cons_zero, List.set_cons_succ]
                refine wpAnyH_take (i := 11) (oi := { dst := some 56, op := Op.fieldAddr 48 (Operand.tmp 55) 1, type := 0, pos := _, after := #[{ on := 10, ground := Ground.data }, { on := 4, ground := Ground.guard }], guard := some (4, false) }) (v := .pointer (some ⟨g, 1, none⟩)) rfl (by kernel_rfl) (by kernel_rfl) (by kernel_rfl) (fun _ _ _ h => h) (Or.inl ⟨by rfl, ?_⟩) hHeld ?_
                · intro u hu
                  go_simp
                try simp only [Act.put, List.setIfInBounds_toArray, List.set_cons_zero, List.set_cons_succ]
                refine wpAnyH_take (i := 12) (oi := { dst := some 57, op := Op.load 46 (Operand.tmp 56), type := 46, pos := _, after := #[{ on := 11, ground := Ground.data }, { on := 4, ground := Ground.guard }], guard := some (4, false) }) (v := .slice (some ⟨b, 0, none⟩) L.length c) rfl (by kernel_rfl) (by kernel_rfl) (by kernel_rfl) (fun _ _ _ h => h) (Or.inl ⟨by rfl, ?_⟩) hHeld ?_
                · intro u hu
                  have x1 := (Stp.of_below hu (fun _ => False)).cell z1 id; go_simp
                try simp only [Act.put, List.setIfInBounds_toArray, List.set_cons_zero, List.set_cons_succ]
                refine wpAnyH_take (i := 13) (oi := { dst := some 58, op := Op.move (Operand.tmp 4), type := 3, pos := _, after := #[{ on := 4, ground := Ground.guard }], guard := some (4, false) }) (v := .int .i64 (i : Int)) rfl (by kernel_rfl) (by kernel_rfl) (by kernel_rfl) (fun _ _ _ h => h) (Or.inl ⟨by rfl, ?_⟩) hHeld ?_
                · intro u hu
                  go_simp
                try simp only [Act.put, List.setIfInBounds_toArray, List.set_cons_zero, List.set_cons_succ]
                refine wpAnyH_take (i := 14) (oi := { dst := some 59, op := Op.indexAddr 46 (Operand.tmp 57) (Operand.tmp 58), type := 0, pos := _, after := #[{ on := 12, ground := Ground.data }, { on := 13, ground := Ground.data }, { on := 4, ground := Ground.guard }], guard := some (4, false) }) (v := .pointer (some ⟨b, i * 9, none⟩)) rfl (by kernel_rfl) (by kernel_rfl) (by kernel_rfl) (fun _ _ _ h => h) (Or.inl ⟨by rfl, ?_⟩) hHeld ?_
                · intro u hu
                  go_simp
                try simp only [Act.put, List.setIfInBounds_toArray, List.set_cons_zero, List.set_cons_succ]
                refine wpAnyH_take (i := 15) (oi := { dst := some 60, op := Op.fieldAddr 30 (Operand.tmp 59) 1, type := 0, pos := _, after := #[{ on := 14, ground := Ground.data }, { on := 4, ground := Ground.guard }], guard := some (4, false) }) (v := .pointer (some ⟨b, i * 9 + 1, none⟩)) rfl (by kernel_rfl) (by kernel_rfl) (by kernel_rfl) (fun _ _ _ h => h) (Or.inl ⟨by rfl, ?_⟩) hHeld ?_
                · intro u hu
                  go_simp
                try simp only [Act.put, List.setIfInBounds_toArray, List.set_cons_zero, List.set_cons_succ]
                refine wpAnyH_take (i := 16) (oi := { dst := some 61, op := Op.load 3 (Operand.tmp 60), type := 3, pos := _, after := #[{ on := 15, ground := Ground.data }, { on := 4, ground := Ground.guard }], guard := some (4, false) }) (v := .int .i64 x) rfl (by kernel_rfl) (by kernel_rfl) (by kernel_rfl) (fun _ _ _ h => h) (Or.inl ⟨by rfl, ?_⟩) hHeld ?_
                · intro u hu
                  have x1 := (Stp.of_below hu (fun _ => False)).cell c1 id; go_simp
                try simp only [Act.put, List.setIfInBounds_toArray, List.set_cons_zero, List.set_cons_succ]
                refine wpAnyH_take (i := 17) (oi := { dst := some 62, op := Op.binOp BinOp.neq 3 (Operand.tmp 53) (Operand.tmp 61) 3, type := 4, pos := _, after := #[{ on := 8, ground := Ground.data }, { on := 16, ground := Ground.data }, { on := 4, ground := Ground.guard }], guard := some (4, false) }) (v := .bool true) rfl (by kernel_rfl) (by kernel_rfl) (by kernel_rfl) (fun _ _ _ h => h) (Or.inl ⟨by rfl, ?_⟩) hHeld ?_
                · intro u hu
                  go_simp
                try simp only [Act.put, List.setIfInBounds_toArray, List.set_cons_zero, List.set_cons_succ]
                refine wpAnyH_take (i := 18) (oi := { dst := some 63, op := Op.pick (Operand.tmp 49) (Operand.const (Value.bool true)) (Operand.tmp 62), type := 4, pos := _, after := #[{ on := 4, ground := Ground.data }, { on := 17, ground := Ground.data }], guard := none }) (v := .bool true) rfl (by kernel_rfl) (by kernel_rfl) (by kernel_rfl) (fun _ _ _ h => h) (Or.inl ⟨by rfl, ?_⟩) hHeld ?_
                · intro u hu
                  go_simp
                try simp only [Act.put, List.setIfInBounds_toArray, List.set_cons_zero, List.set_cons_succ]
                refine wpAnyH_done (by kernel_rfl) ?_ _
                go_wp2_with fail
                go_meet
                exact ⟨by rw [hQ.out], hHeld⟩
            · have ej : j = out.length := by omega
              have q9 : (j : Int) = (out.length : Int) := by omega
              have hQ : Hid (insQ out j x = true) := (by unfold insQ; rw [List.getElem?_eq_none (by omega)]; simp : insQ out j x = true)
              clear ej
              refine wp_region_held_drew (S := fun u => Below wc.heap.size wc u) (by kernel_rfl) (Below.refl _ _).drew (fun hHeld => ?_)
              refine wpAnyH_take (i := 0) (oi := { dst := some 45, op := Op.move (Operand.tmp 5), type := 3, pos := _, after := #[], guard := none }) (v := .int .i64 (j : Int)) rfl (by kernel_rfl) (by kernel_rfl) (by kernel_rfl) (fun _ _ _ h => h) (Or.inl ⟨by rfl, ?_⟩) hHeld ?_
              · intro u hu
                go_simp
              try simp only [Act.put, List.setIfInBounds_toArray, List.set_cons_zero, List.set_cons_succ]
              refine wpAnyH_take (i := 1) (oi := { dst := some 46, op := Op.move (Operand.tmp 3), type := 28, pos := _, after := #[], guard := none }) (v := .slice (some ⟨gb, 0, none⟩) out.length cap) rfl (by kernel_rfl) (by kernel_rfl) (by kernel_rfl) (fun _ _ _ h => h) (Or.inl ⟨by rfl, ?_⟩) hHeld ?_
              · intro u hu
                go_simp
              try simp only [Act.put, List.setIfInBounds_toArray, List.set_cons_zero, List.set_cons_succ]
              refine wpAnyH_take (i := 2) (oi := { dst := some 47, op := Op.call { callee := Callee.builtin Builtin.len, args := #[Operand.tmp 46], argTypes := #[28] }, type := 3, pos := _, after := #[{ on := 1, ground := Ground.data }], guard := none }) (v := .int .i64 (out.length : Int)) rfl (by kernel_rfl) (by kernel_rfl) (by kernel_rfl) (fun _ _ _ h => h) (Or.inl ⟨by rfl, ?_⟩) hHeld ?_
              · intro u hu
                go_simp
              try simp only [Act.put, List.setIfInBounds_toArray, List.set_cons_zero, List.set_cons_succ]
              refine wpAnyH_take (i := 3) (oi := { dst := some 48, op := Op.binOp BinOp.eql 3 (Operand.tmp 45) (Operand.tmp 47) 3, type := 4, pos := _, after := #[{ on := 0, ground := Ground.data }, { on := 2, ground := Ground.data }], guard := none }) (v := .bool true) rfl (by kernel_rfl) (by kernel_rfl) (by kernel_rfl) (fun _ _ _ h => h) (Or.inl ⟨by rfl, ?_⟩) hHeld ?_
              · intro u hu
                go_simp
              try simp only [Act.put, List.setIfInBounds_toArray, List.set_cons_zero, List.set_cons_succ]
              refine wpAnyH_take (i := 4) (oi := { dst := some 49, op := Op.move (Operand.tmp 48), type := 4, pos := _, after := #[{ on := 3, ground := Ground.data }], guard := none }) (v := .bool true) rfl (by kernel_rfl) (by kernel_rfl) (by kernel_rfl) (fun _ _ _ h => h) (Or.inl ⟨by rfl, ?_⟩) hHeld ?_
              · intro u hu
                go_simp
              try simp only [Act.put, List.setIfInBounds_toArray, List.set_cons_zero, List.set_cons_succ]
              refine wpAnyH_take (i := 5) (oi := { dst := some 50, op := Op.move (Operand.tmp 3), type := 28, pos := _, after := #[{ on := 4, ground := Ground.guard }], guard := some (4, false) }) (v := undef) rfl (by kernel_rfl) (by kernel_rfl) (by kernel_rfl) (fun _ _ _ h => h)
                (Or.inr ⟨by rfl, rfl⟩) hHeld ?_
              try simp only [Act.put, List.setIfInBounds_toArray, List.set_cons_zero, List.set_cons_succ]
              refine wpAnyH_take (i := 6) (oi := { dst := some 51, op := Op.move (Operand.tmp 5), type := 3, pos := _, after := #[{ on := 4, ground := Ground.guard }], guard := some (4, false) }) (v := undef) rfl (by kernel_rfl) (by kernel_rfl) (by kernel_rfl) (fun _ _ _ h => h)
                (Or.inr ⟨by rfl, rfl⟩) hHeld ?_
              try simp only [Act.put, List.setIfInBounds_toArray, List.set_cons_zero, List.set_cons_succ]
              refine wpAnyH_take (i := 7) (oi := { dst := some 52, op := Op.indexAddr 28 (Operand.tmp 50) (Operand.tmp 51), type := 0, pos := _, after := #[{ on := 5, ground := Ground.data }, { on := 6, ground := Ground.data }, { on := 4, ground := Ground.guard }], guard := some (4, false) }) (v := undef) rfl (by kernel_rfl) (by kernel_rfl) (by kernel_rfl) (fun _ _ _ h => h)
                (Or.inr ⟨by rfl, rfl⟩) hHeld ?_
              try simp only [Act.put, List.setIfInBounds_toArray, List.set_cons_zero, List.set_cons_succ]
              refine wpAnyH_take (i := 8) (oi := { dst := some 53, op := Op.load 3 (Operand.tmp 52), type := 3, pos := _, after := #[{ on := 7, ground := Ground.data }, { on := 4, ground := Ground.guard }], guard := some (4, false) }) (v := undef) rfl (by kernel_rfl) (by kernel_rfl) (by kernel_rfl) (fun _ _ _ h => h)
                (Or.inr ⟨by rfl, rfl⟩) hHeld ?_
              try simp only [Act.put, List.setIfInBounds_toArray, List.set_cons_zero, List.set_cons_succ]
              refine wpAnyH_take (i := 9) (oi := { dst := some 54, op := Op.move (Operand.tmp 0), type := 25, pos := _, after := #[{ on := 4, ground := Ground.guard }], guard := some (4, false) }) (v := undef) rfl (by kernel_rfl) (by kernel_rfl) (by kernel_rfl) (fun _ _ _ h => h)
                (Or.inr ⟨by rfl, rfl⟩) hHeld ?_
              try simp only [Act.put, List.setIfInBounds_toArray, List.set_cons_zero, List.set_cons_succ]
              refine wpAnyH_take (i := 10) (oi := { dst := some 55, op := Op.nilCheck (Operand.tmp 54), type := 0, pos := _, after := #[{ on := 9, ground := Ground.data }, { on := 4, ground := Ground.guard }], guard := some (4, false) }) (v := undef) rfl (by kernel_rfl) (by kernel_rfl) (by kernel_rfl) (fun _ _ _ h => h)
                (Or.inr ⟨by rfl, rfl⟩) hHeld ?_
              try simp only [Act.put, List.setIfInBounds_toArray, List.set_cons_zero, List.set_cons_succ]
              refine wpAnyH_take (i := 11) (oi := { dst := some 56, op := Op.fieldAddr 48 (Operand.tmp 55) 1, type := 0, pos := _, after := #[{ on := 10, ground := Ground.data }, { on := 4, ground := Ground.guard }], guard := some (4, false) }) (v := undef) rfl (by kernel_rfl) (by kernel_rfl) (by kernel_rfl) (fun _ _ _ h => h)
                (Or.inr ⟨by rfl, rfl⟩) hHeld ?_
              try simp only [Act.put, List.setIfInBounds_toArray, List.set_cons_zero, List.set_cons_succ]
              refine wpAnyH_take (i := 12) (oi := { dst := some 57, op := Op.load 46 (Operand.tmp 56), type := 46, pos := _, after := #[{ on := 11, ground := Ground.data }, { on := 4, ground := Ground.guard }], guard := some (4, false) }) (v := undef) rfl (by kernel_rfl) (by kernel_rfl) (by kernel_rfl) (fun _ _ _ h => h)
                (Or.inr ⟨by rfl, rfl⟩) hHeld ?_
              try simp only [Act.put, List.setIfInBounds_toArray, List.set_cons_zero, List.set_cons_succ]
              refine wpAnyH_take (i := 13) (oi := { dst := some 58, op := Op.move (Operand.tmp 4), type := 3, pos := _, after := #[{ on := 4, ground := Ground.guard }], guard := some (4, false) }) (v := undef) rfl (by kernel_rfl) (by kernel_rfl) (by kernel_rfl) (fun _ _ _ h => h)
                (Or.inr ⟨by rfl, rfl⟩) hHeld ?_
              try simp only [Act.put, List.setIfInBounds_toArray, List.set_cons_zero, List.set_cons_succ]
              refine wpAnyH_take (i := 14) (oi := { dst := some 59, op := Op.indexAddr 46 (Operand.tmp 57) (Operand.tmp 58), type := 0, pos := _, after := #[{ on := 12, ground := Ground.data }, { on := 13, ground := Ground.data }, { on := 4, ground := Ground.guard }], guard := some (4, false) }) (v := undef) rfl (by kernel_rfl) (by kernel_rfl) (by kernel_rfl) (fun _ _ _ h => h)
                (Or.inr ⟨by rfl, rfl⟩) hHeld ?_
              try simp only [Act.put, List.setIfInBounds_toArray, List.set_cons_zero, List.set_cons_succ]
              refine wpAnyH_take (i := 15) (oi := { dst := some 60, op := Op.fieldAddr 30 (Operand.tmp 59) 1, type := 0, pos := _, after := #[{ on := 14, ground := Ground.data }, { on := 4, ground := Ground.guard }], guard := some (4, false) }) (v := undef) rfl (by kernel_rfl) (by kernel_rfl) (by kernel_rfl) (fun _ _ _ h => h)
                (Or.inr ⟨by rfl, rfl⟩) hHeld ?_
              try simp only [Act.put, List.setIfInBounds_toArray, List.set_cons_zero, List.set_cons_succ]
              refine wpAnyH_take (i := 16) (oi := { dst := some 61, op := Op.load 3 (Operand.tmp 60), type := 3, pos := _, after := #[{ on := 15, ground := Ground.data }, { on := 4, ground := Ground.guard }], guard := some (4, false) }) (v := undef) rfl (by kernel_rfl) (by kernel_rfl) (by kernel_rfl) (fun _ _ _ h => h)
                (Or.inr ⟨by rfl, rfl⟩) hHeld ?_
              try simp only [Act.put, List.setIfInBounds_toArray, List.set_cons_zero, List.set_cons_succ]
              refine wpAnyH_take (i := 17) (oi := { dst := some 62, op := Op.binOp BinOp.neq 3 (Operand.tmp 53) (Operand.tmp 61) 3, type := 4, pos := _, after := #[{ on := 8, ground := Ground.data }, { on := 16, ground := Ground.data }, { on := 4, ground := Ground.guard }], guard := some (4, false) }) (v := undef) rfl (by kernel_rfl) (by kernel_rfl) (by kernel_rfl) (fun _ _ _ h => h)
                (Or.inr ⟨by rfl, rfl⟩) hHeld ?_
              try simp only [Act.put, List.setIfInBounds_toArray, List.set_cons_zero, List.set_cons_succ]
              refine wpAnyH_take (i := 18) (oi := { dst := some 63, op := Op.pick (Operand.tmp 49) (Operand.const (Value.bool true)) (Operand.tmp 62), type := 4, pos := _, after := #[{ on := 4, ground := Ground.data }, { on := 17, ground := Ground.data }], guard := none }) (v := .bool true) rfl (by kernel_rfl) (by kernel_rfl) (by kernel_rfl) (fun _ _ _ h => h) (Or.inl ⟨by rfl, ?_⟩) hHeld ?_
              · intro u hu
                go_simp
              try simp only [Act.put, List.setIfInBounds_toArray, List.set_cons_zero, List.set_cons_succ]
              refine wpAnyH_done (by kernel_rfl) ?_ _
              go_wp2_with fail
              go_meet
              exact ⟨by rw [hQ.out], hHeld⟩
          case rest =>
            obtain ⟨rfl, Bk⟩ := hcut
            have IW := Ij.later Bk
            have z1 := (Stp.of_below Bk (fun _ => False)).cell z1j id
            have c1 := (Stp.of_below Bk (fun _ => False)).cell c1j id
            clear z1j c1j Ij hrow
            obtain ⟨q, hq⟩ : ∃ q, Hid (insQ out j x = q) := ⟨_, rfl⟩
            rw [hq.out]
            cases q with
            | false =>
              go_wp2_with fail
              go_roundw
              case rel => exact ⟨i + 1, gb, cap, out, by omega, by rw [hst2.out, hins.out, hq.out]; simp, rfl, by go_num, IW⟩
              case measure => simp [intOf]; omega
            | true =>
              generalize wc = W at *
              have hN : scK Z.l (i + 1) = out.take j ++ x :: out.drop j := by rw [hst2.out, hins.out, hq.out, if_pos rfl]
              have hN' : Hid (scK Z.l (i + 1) = out.take j ++ [x] ++ out.drop j) := (by rw [hN]; simp : scK Z.l (i + 1) = out.take j ++ [x] ++ out.drop j)
              clear hN
              obtain ⟨cur, hrow⟩ := IW.row
              have hcu : ∀ u, Stp (fun y => W.heap.size ≤ y) W u → ∀ jj, jj < out.length → u.cell? ⟨gb, jj, none⟩ = some (.int .i64 (out.getD jj 0)) := fun u hu jj hjj => hu.cell (hrow.cell jj hjj) (fun e => by have := hrow.lt; simp only at e; omega)
              have TK : ∀ u, Stp (fun y => W.heap.size ≤ y) W u → ∀ ad, some (⟨gb, 0, none⟩ : Addr) = some ad → ∀ jj v, ((out.take j).map (Value.int .i64))[jj]? = some v → u.cell? (ad.add jj) = some v := fun u hu ad e jj v hv => by
                injection e with e; subst e
                have hjj := (List.getElem?_eq_some_iff.1 hv).1
                rw [List.length_map, List.length_take] at hjj
                have hj1 : jj < j := by omega
                have hj2 : jj < out.length := by omega
                rw [Addr.add_lit, Nat.zero_add, hcu u hu jj hj2, ← hv, List.getElem?_map, List.getElem?_take, if_pos hj1, List.getElem?_eq_getElem hj2, List.getD_eq_getElem?_getD, List.getElem?_eq_getElem hj2]; rfl
              obtain ⟨oj, hoj⟩ : ∃ oj, Hid (oj = if cap = j then 0 else j) := ⟨_, rfl⟩
              have DR : ∀ u, Stp (fun y => W.heap.size ≤ y) W u → ∀ ad, some (⟨gb, oj, none⟩ : Addr) = some ad → ∀ jj v, ((out.drop j).map (Value.int .i64))[jj]? = some v → u.cell? (ad.add jj) = some v := fun u hu ad e jj v hv => by
                injection e with e; subst e
                have hjj := (List.getElem?_eq_some_iff.1 hv).1
                rw [List.length_map, List.length_drop] at hjj
                have hoe : oj = j := by rw [hoj.out, if_neg (by omega)]
                rw [Addr.add_lit, hoe, hcu u hu (j + jj) (by omega), ← hv, List.getElem?_map, List.getElem?_drop, List.getElem?_eq_getElem (by omega), List.getD_eq_getElem?_getD, List.getElem?_eq_getElem (by omega)]; rfl
              have oneI : ∀ l : List Int, ∀ v ∈ l.map (Value.int .i64), v.oneCell' = true := fun l v hv => by obtain ⟨y, _, rfl⟩ := List.mem_map.1 hv; rfl
              have FIN : ∀ w18 v18, Stp (fun y => W.heap.size ≤ y) W w18 → OwV w18 v18 (out.take j ++ [x] ++ out.drop j) → New W.heap.size v18 → ∃ gb' cap', v18 = .slice (some ⟨gb', 0, none⟩) (out.take j ++ [x] ++ out.drop j).length cap' ∧ ScI w w18 gb' cap' (out.take j ++ [x] ++ out.drop j) := fun w18 v18 hs ho hn => by
                obtain ⟨gb', cap', cur', e, _⟩ := ho.row1 (by simp)
                subst e
                have h1 := hn gb' rfl
                have h2 := IW.b.size
                exact ⟨gb', cap', rfl, ho, by omega, ((Stp.of_below IW.b (fun _ => False)).next hs (fun y hy => .inr (by omega))).below (Nat.le_refl _) (fun y e => e.elim)⟩
              have qj : (j : Int) ≤ (out.length : Int) := by omega
              have qc : (out.length : Int) ≤ (cap : Int) := by omega
              have qjc : (j : Int) ≤ (cap : Int) := by omega
              have hjc : j ≤ cap := by omega
              clear hrow hcu
              have z1c := z1
              go_upto_region 10 with fail
              refine wp_region_held_drew (S := fun u => Stp (fun y => W.heap.size ≤ y) W u) (by kernel_rfl) (Stp.refl _ _).drew (fun hHeld => ?_)
              refine wpAnyH_take (i := 1) (oi := { dst := some 65, op := Op.move (Operand.tmp 3), type := 28, pos := _, after := #[], guard := none }) (v := .slice (some ⟨gb, 0, none⟩) out.length cap) rfl (by kernel_rfl) (by kernel_rfl) (by kernel_rfl) (fun _ _ _ h => h) (Or.inl ⟨by rfl, ?_⟩) hHeld ?_
              · intro u hu
                go_simp
              try simp only [Act.put, List.setIfInBounds_toArray, List.set_cons_zero, List.set_cons_succ]
              refine wpAnyH_take (i := 2) (oi := { dst := some 66, op := Op.move (Operand.tmp 5), type := 3, pos := _, after := #[], guard := none }) (v := .int .i64 (j : Int)) rfl (by kernel_rfl) (by kernel_rfl) (by kernel_rfl) (fun _ _ _ h => h) (Or.inl ⟨by rfl, ?_⟩) hHeld ?_
              · intro u hu
                go_simp
              try simp only [Act.put, List.setIfInBounds_toArray, List.set_cons_zero, List.set_cons_succ]
              refine wpAnyH_take (i := 3) (oi := { dst := some 67, op := Op.slice 28 (Operand.tmp 65) none (some (Operand.tmp 66)) none, type := 28, pos := _, after := #[{ on := 1, ground := Ground.data }, { on := 2, ground := Ground.data }], guard := none }) (v := .slice (some ⟨gb, 0, none⟩) j cap) rfl (by kernel_rfl) (by kernel_rfl) (by kernel_rfl) (fun _ _ _ h => h) (Or.inl ⟨by rfl, ?_⟩) hHeld ?_
              · intro u hu
                go_simp
              try simp only [Act.put, List.setIfInBounds_toArray, List.set_cons_zero, List.set_cons_succ]
              refine wpAnyH_take (i := 5) (oi := { dst := some 69, op := Op.move (Operand.tmp 0), type := 25, pos := _, after := #[], guard := none }) (v := .pointer (some ⟨g, 0, none⟩)) rfl (by kernel_rfl) (by kernel_rfl) (by kernel_rfl) (fun _ _ _ h => h) (Or.inl ⟨by rfl, ?_⟩) hHeld ?_
              · intro u hu
                go_simp
              try simp only [Act.put, List.setIfInBounds_toArray, List.set_cons_zero, List.set_cons_succ]
              refine wpAnyH_take (i := 6) (oi := { dst := some 70, op := Op.nilCheck (Operand.tmp 69), type := 0, pos := _, after := #[{ on := 5, ground := Ground.data }], guard := none }) (v := .pointer (some ⟨g, 0, none⟩)) rfl (by kernel_rfl) (by kernel_rfl) (by kernel_rfl) (fun _ _ _ h => h) (Or.inl ⟨by rfl, ?_⟩) hHeld ?_
              · intro u hu
                go_simp
              try simp only [Act.put, List.setIfInBounds_toArray, List.set_cons_zero, List.set_cons_succ]
              refine wpAnyH_take (i := 7) (oi := { dst := some 71, op := Op.fieldAddr 48 (Operand.tmp 70) 1, type := 0, pos := _, after := #[{ on := 6, ground := Ground.data }], guard := none }) (v := .pointer (some ⟨g, 1, none⟩)) rfl (by kernel_rfl) (by kernel_rfl) (by kernel_rfl) (fun _ _ _ h => h) (Or.inl ⟨by rfl, ?_⟩) hHeld ?_
              · intro u hu
                go_simp
              try simp only [Act.put, List.setIfInBounds_toArray, List.set_cons_zero, List.set_cons_succ]
              refine wpAnyH_take (i := 8) (oi := { dst := some 72, op := Op.load 46 (Operand.tmp 71), type := 46, pos := _, after := #[{ on := 7, ground := Ground.data }], guard := none }) (v := .slice (some ⟨b, 0, none⟩) L.length c) rfl (by kernel_rfl) (by kernel_rfl) (by kernel_rfl) (fun _ _ _ h => h) (Or.inl ⟨by rfl, ?_⟩) hHeld ?_
              · intro u hu
                have x1 := hu.cell z1 (fun e => by have := World.block_lt_of_cell? W _ z1; simp only at e this; omega); go_simp
              try simp only [Act.put, List.setIfInBounds_toArray, List.set_cons_zero, List.set_cons_succ]
              refine wpAnyH_take (i := 9) (oi := { dst := some 73, op := Op.move (Operand.tmp 4), type := 3, pos := _, after := #[], guard := none }) (v := .int .i64 (i : Int)) rfl (by kernel_rfl) (by kernel_rfl) (by kernel_rfl) (fun _ _ _ h => h) (Or.inl ⟨by rfl, ?_⟩) hHeld ?_
              · intro u hu
                go_simp
              try simp only [Act.put, List.setIfInBounds_toArray, List.set_cons_zero, List.set_cons_succ]
              refine wpAnyH_take (i := 10) (oi := { dst := some 74, op := Op.indexAddr 46 (Operand.tmp 72) (Operand.tmp 73), type := 0, pos := _, after := #[{ on := 8, ground := Ground.data }, { on := 9, ground := Ground.data }], guard := none }) (v := .pointer (some ⟨b, i * 9, none⟩)) rfl (by kernel_rfl) (by kernel_rfl) (by kernel_rfl) (fun _ _ _ h => h) (Or.inl ⟨by rfl, ?_⟩) hHeld ?_
              · intro u hu
                go_simp
              try simp only [Act.put, List.setIfInBounds_toArray, List.set_cons_zero, List.set_cons_succ]
              refine wpAnyH_take (i := 11) (oi := { dst := some 75, op := Op.fieldAddr 30 (Operand.tmp 74) 1, type := 0, pos := _, after := #[{ on := 10, ground := Ground.data }], guard := none }) (v := .pointer (some ⟨b, i * 9 + 1, none⟩)) rfl (by kernel_rfl) (by kernel_rfl) (by kernel_rfl) (fun _ _ _ h => h) (Or.inl ⟨by rfl, ?_⟩) hHeld ?_
              · intro u hu
                go_simp
              try simp only [Act.put, List.setIfInBounds_toArray, List.set_cons_zero, List.set_cons_succ]
              refine wpAnyH_take (i := 12) (oi := { dst := some 76, op := Op.load 3 (Operand.tmp 75), type := 3, pos := _, after := #[{ on := 11, ground := Ground.data }], guard := none }) (v := .int .i64 x) rfl (by kernel_rfl) (by kernel_rfl) (by kernel_rfl) (fun _ _ _ h => h) (Or.inl ⟨by rfl, ?_⟩) hHeld ?_
              · intro u hu
                have x1 := hu.cell c1 (fun e => by have := World.block_lt_of_cell? W _ c1; simp only at e this; omega); go_simp
              try simp only [Act.put, List.setIfInBounds_toArray, List.set_cons_zero, List.set_cons_succ]
              refine wpAnyH_take (i := 15) (oi := { dst := some 79, op := Op.move (Operand.tmp 3), type := 28, pos := _, after := #[], guard := none }) (v := .slice (some ⟨gb, 0, none⟩) out.length cap) rfl (by kernel_rfl) (by kernel_rfl) (by kernel_rfl) (fun _ _ _ h => h) (Or.inl ⟨by rfl, ?_⟩) hHeld ?_
              · intro u hu
                go_simp
              try simp only [Act.put, List.setIfInBounds_toArray, List.set_cons_zero, List.set_cons_succ]
              refine wpAnyH_take (i := 16) (oi := { dst := some 80, op := Op.move (Operand.tmp 5), type := 3, pos := _, after := #[], guard := none }) (v := .int .i64 (j : Int)) rfl (by kernel_rfl) (by kernel_rfl) (by kernel_rfl) (fun _ _ _ h => h) (Or.inl ⟨by rfl, ?_⟩) hHeld ?_
              · intro u hu
                go_simp
              try simp only [Act.put, List.setIfInBounds_toArray, List.set_cons_zero, List.set_cons_succ]
              refine wpAnyH_take (i := 17) (oi := { dst := some 81, op := Op.slice 28 (Operand.tmp 79) (some (Operand.tmp 80)) none none, type := 28, pos := _, after := #[{ on := 15, ground := Ground.data }, { on := 16, ground := Ground.data }], guard := none }) (v := .slice (some ⟨gb, oj, none⟩) (out.length - j) (cap - j)) rfl (by kernel_rfl) (by kernel_rfl) (by kernel_rfl) (fun _ _ _ h => h) (Or.inl ⟨by rfl, ?_⟩) hHeld ?_
              · intro u hu
                go_simp; rw [hoj.out]; split <;> simp_all
              try simp only [Act.put, List.setIfInBounds_toArray, List.set_cons_zero, List.set_cons_succ]
              refine wpAnyH_ready (rs := [0, 13]) (by kernel_rfl) (by simp) ?_
              refine (AllReadyH.cons (o := { dst := some 64, op := Op.buildSlice 28 0 #[], type := 28, pos := _, after := #[], guard := none }) rfl (fun K hK => ?_) (AllReadyH.cons (o := { dst := some 77, op := Op.buildSlice 28 1 #[(0, Operand.tmp 76)], type := 28, pos := _, after := #[{ on := 12, ground := Ground.data }], guard := none }) rfl (fun K hK => ?_) AllReadyH.nil))
              · skip
                have zH1 := hHeld.size
                refine step_bs0I rfl (by rfl) ?_
                intro g0 w0 e0 o0 b0
                have W0 : W.heap.size ≤ g0 := Nat.le_trans zH1 e0
                have l0 : g0 < w0.heap.size := o0.lt rfl
                refine hK.out _ _ (hHeld.next (Stp.of_below b0 (fun _ => False)) (fun x e => e.elim)) (fun hHeld => ?_)
                clear hK K
                have zz0 := b0.size
                try (replace q13 := q13.later b0)
                try simp only [Act.put, List.setIfInBounds_toArray, List.set_cons_zero, List.set_cons_succ]
                refine wpAnyH_ready (rs := [4, 13]) (by kernel_rfl) (by simp) ?_
                refine (AllReadyH.cons (o := { dst := some 68, op := Op.call { callee := Callee.builtin Builtin.append, args := #[Operand.tmp 64, Operand.tmp 67], argTypes := #[28, 28] }, type := 28, pos := _, after := #[{ on := 0, ground := Ground.data }, { on := 3, ground := Ground.data }], guard := none }) rfl (fun K hK => ?_) (AllReadyH.cons (o := { dst := some 77, op := Op.buildSlice 28 1 #[(0, Operand.tmp 76)], type := 28, pos := _, after := #[{ on := 12, ground := Ground.data }], guard := none }) rfl (fun K hK => ?_) AllReadyH.nil))
                · skip
                  refine step_appR elI W.heap.size rfl _ _ (by rfl) (by rfl) o0 (fun r e => (ob_eq e) ▸ W0) (some ⟨gb, 0, none⟩) cap ((out.take j).map (Value.int .i64)) (by rfl) (by simp; omega) (fun e => by cases e) (TK _ hHeld) (oneI _) (by simp only [List.length_nil]; omega) hHeld.size ?_
                  intro v4 w4 hA4
                  have o4 : OwV w4 v4 ([] ++ out.take j) := ov_12 hA4 (by simp; omega)
                  rw [List.nil_append] at o4
                  have n4 := hA4.2.1
                  have s4 := hA4.2.2.2.1
                  refine hK.out _ _ (hHeld.next s4 (fun x e => .inl ((ob_eq e) ▸ W0))) (fun hHeld => ?_)
                  clear hK K
                  have zz4 := s4.size
                  try (replace q13 := q13.step s4 (fun e => by have := ob_eq e; omega))
                  try simp only [Act.put, List.setIfInBounds_toArray, List.set_cons_zero, List.set_cons_succ]
                  refine wpAnyH_ready (rs := [13]) (by kernel_rfl) (by simp) ?_
                  refine (AllReadyH.cons (o := { dst := some 77, op := Op.buildSlice 28 1 #[(0, Operand.tmp 76)], type := 28, pos := _, after := #[{ on := 12, ground := Ground.data }], guard := none }) rfl (fun K hK => ?_) AllReadyH.nil)
                  refine step_bs1I rfl _ (by rfl) x (by rfl) ?_
                  intro g13 w13 e13 q13 b13
                  have l13 := q13.lt
                  refine hK.out _ _ (hHeld.next (Stp.of_below b13 (fun _ => False)) (fun x e => e.elim)) (fun hHeld => ?_)
                  clear hK K
                  have zz13 := b13.size
                  try (replace o0 := o0.later b13)
                  try (replace o4 := o4.later b13)
                  try simp only [Act.put, List.setIfInBounds_toArray, List.set_cons_zero, List.set_cons_succ]
                  refine wpAnyH_ready (rs := [14]) (by kernel_rfl) (by simp) ?_
                  refine (AllReadyH.cons (o := { dst := some 78, op := Op.call { callee := Callee.builtin Builtin.append, args := #[Operand.tmp 68, Operand.tmp 77], argTypes := #[28, 28] }, type := 28, pos := _, after := #[{ on := 4, ground := Ground.data }, { on := 13, ground := Ground.data }, { on := 4, ground := Ground.chain }], guard := none }) rfl (fun K hK => ?_) AllReadyH.nil)
                  refine step_appR elI W.heap.size rfl _ _ (by rfl) (by rfl) o4 n4 (some ⟨g13, 0, none⟩) 1 (([x] : List Int).map (Value.int .i64)) (by rfl) (by rfl) (fun e => by cases e) (fun ad e j u hu => by injection e with e; subst e; rw [Addr.add_lit, Nat.zero_add]; exact q13.cell j u hu) (oneI _) (by simp; omega) hHeld.size ?_
                  intro v14 w14 hA14
                  have o14 : OwV w14 v14 (out.take j ++ [x]) := ov_12 hA14 rfl
                  have n14 := hA14.2.1
                  have s14 := hA14.2.2.2.1
                  refine hK.out _ _ (hHeld.next s14 (fun x e => .inl (n4 x e))) (fun hHeld => ?_)
                  clear hK K
                  try simp only [Act.put, List.setIfInBounds_toArray, List.set_cons_zero, List.set_cons_succ]
                  refine wpAnyH_ready (rs := [18]) (by kernel_rfl) (by simp) ?_
                  refine (AllReadyH.cons (o := { dst := some 82, op := Op.call { callee := Callee.builtin Builtin.append, args := #[Operand.tmp 78, Operand.tmp 81], argTypes := #[28, 28] }, type := 28, pos := _, after := #[{ on := 14, ground := Ground.data }, { on := 17, ground := Ground.data }, { on := 14, ground := Ground.chain }], guard := none }) rfl (fun K hK => ?_) AllReadyH.nil)
                  refine step_appR elI W.heap.size rfl _ _ (by rfl) (by rfl) o14 n14 (some ⟨gb, oj, none⟩) (cap - j) ((out.drop j).map (Value.int .i64)) (by rfl) (by simp) (fun e => by cases e) (DR _ hHeld) (oneI _) (by simp; omega) hHeld.size ?_
                  intro v18 w18 hA18
                  have o18 : OwV w18 v18 (out.take j ++ [x] ++ out.drop j) := ov_12 hA18 (by simp)
                  have n18 := hA18.2.1
                  have s18 := hA18.2.2.2.1
                  refine hK.out _ _ (hHeld.next s18 (fun x e => .inl (n14 x e))) (fun hHeld => ?_)
                  clear hK K
                  try simp only [Act.put, List.setIfInBounds_toArray, List.set_cons_zero, List.set_cons_succ]
                  refine wpAnyH_take (i := 19) (oi := { dst := some 3, op := Op.assign (Operand.tmp 82), type := 28, pos := _, after := #[{ on := 18, ground := Ground.data }, { on := 18, ground := Ground.chain }, { on := 0, ground := Ground.phase }, { on := 1, ground := Ground.phase }, { on := 2, ground := Ground.phase }, { on := 3, ground := Ground.phase }, { on := 4, ground := Ground.phase }, { on := 5, ground := Ground.phase }, { on := 6, ground := Ground.phase }, { on := 7, ground := Ground.phase }, { on := 8, ground := Ground.phase }, { on := 9, ground := Ground.phase }, { on := 10, ground := Ground.phase }, { on := 11, ground := Ground.phase }, { on := 12, ground := Ground.phase }, { on := 13, ground := Ground.phase }, { on := 14, ground := Ground.phase }, { on := 15, ground := Ground.phase }, { on := 16, ground := Ground.phase }, { on := 17, ground := Ground.phase }, { on := 18, ground := Ground.phase }], guard := none }) (v := v18) rfl (by kernel_rfl) (by kernel_rfl) (by kernel_rfl) (fun _ _ _ h => h) (Or.inl ⟨by rfl, ?_⟩) hHeld ?_
                  · intro u hu
                    go_simp
                  try simp only [Act.put, List.setIfInBounds_toArray, List.set_cons_zero, List.set_cons_succ]
                  refine wpAnyH_done (by kernel_rfl) ?_ _
                  obtain ⟨gb2, cap2, rfl, I2⟩ := FIN _ _ hHeld o18 n18
                  rw [← hN'.out] at I2
                  rw [← hN'.out]
                  go_wp2_with fail
                  go_roundw
                  case rel => exact ⟨i + 1, gb2, cap2, _, by omega, rfl, rfl, by go_num, I2⟩
                  case measure => simp [intOf]; omega
                · skip
                  refine step_bs1I rfl _ (by rfl) x (by rfl) ?_
                  intro g13 w13 e13 q13 b13
                  have l13 := q13.lt
                  refine hK.out _ _ (hHeld.next (Stp.of_below b13 (fun _ => False)) (fun x e => e.elim)) (fun hHeld => ?_)
                  clear hK K
                  have zz13 := b13.size
                  try (replace o0 := o0.later b13)
                  try (replace o4 := o4.later b13)
                  try simp only [Act.put, List.setIfInBounds_toArray, List.set_cons_zero, List.set_cons_succ]
                  refine wpAnyH_ready (rs := [4]) (by kernel_rfl) (by simp) ?_
                  refine (AllReadyH.cons (o := { dst := some 68, op := Op.call { callee := Callee.builtin Builtin.append, args := #[Operand.tmp 64, Operand.tmp 67], argTypes := #[28, 28] }, type := 28, pos := _, after := #[{ on := 0, ground := Ground.data }, { on := 3, ground := Ground.data }], guard := none }) rfl (fun K hK => ?_) AllReadyH.nil)
                  refine step_appR elI W.heap.size rfl _ _ (by rfl) (by rfl) o0 (fun r e => (ob_eq e) ▸ W0) (some ⟨gb, 0, none⟩) cap ((out.take j).map (Value.int .i64)) (by rfl) (by simp; omega) (fun e => by cases e) (TK _ hHeld) (oneI _) (by simp only [List.length_nil]; omega) hHeld.size ?_
                  intro v4 w4 hA4
                  have o4 : OwV w4 v4 ([] ++ out.take j) := ov_12 hA4 (by simp; omega)
                  rw [List.nil_append] at o4
                  have n4 := hA4.2.1
                  have s4 := hA4.2.2.2.1
                  refine hK.out _ _ (hHeld.next s4 (fun x e => .inl ((ob_eq e) ▸ W0))) (fun hHeld => ?_)
                  clear hK K
                  have zz4 := s4.size
                  try (replace q13 := q13.step s4 (fun e => by have := ob_eq e; omega))
                  try simp only [Act.put, List.setIfInBounds_toArray, List.set_cons_zero, List.set_cons_succ]
                  refine wpAnyH_ready (rs := [14]) (by kernel_rfl) (by simp) ?_
                  refine (AllReadyH.cons (o := { dst := some 78, op := Op.call { callee := Callee.builtin Builtin.append, args := #[Operand.tmp 68, Operand.tmp 77], argTypes := #[28, 28] }, type := 28, pos := _, after := #[{ on := 4, ground := Ground.data }, { on := 13, ground := Ground.data }, { on := 4, ground := Ground.chain }], guard := none }) rfl (fun K hK => ?_) AllReadyH.nil)
                  refine step_appR elI W.heap.size rfl _ _ (by rfl) (by rfl) o4 n4 (some ⟨g13, 0, none⟩) 1 (([x] : List Int).map (Value.int .i64)) (by rfl) (by rfl) (fun e => by cases e) (fun ad e j u hu => by injection e with e; subst e; rw [Addr.add_lit, Nat.zero_add]; exact q13.cell j u hu) (oneI _) (by simp; omega) hHeld.size ?_
                  intro v14 w14 hA14
                  have o14 : OwV w14 v14 (out.take j ++ [x]) := ov_12 hA14 rfl
                  have n14 := hA14.2.1
                  have s14 := hA14.2.2.2.1
                  refine hK.out _ _ (hHeld.next s14 (fun x e => .inl (n4 x e))) (fun hHeld => ?_)
                  clear hK K
                  try simp only [Act.put, List.setIfInBounds_toArray, List.set_cons_zero, List.set_cons_succ]
                  refine wpAnyH_ready (rs := [18]) (by kernel_rfl) (by simp) ?_
                  refine (AllReadyH.cons (o := { dst := some 82, op := Op.call { callee := Callee.builtin Builtin.append, args := #[Operand.tmp 78, Operand.tmp 81], argTypes := #[28, 28] }, type := 28, pos := _, after := #[{ on := 14, ground := Ground.data }, { on := 17, ground := Ground.data }, { on := 14, ground := Ground.chain }], guard := none }) rfl (fun K hK => ?_) AllReadyH.nil)
                  refine step_appR elI W.heap.size rfl _ _ (by rfl) (by rfl) o14 n14 (some ⟨gb, oj, none⟩) (cap - j) ((out.drop j).map (Value.int .i64)) (by rfl) (by simp) (fun e => by cases e) (DR _ hHeld) (oneI _) (by simp; omega) hHeld.size ?_
                  intro v18 w18 hA18
                  have o18 : OwV w18 v18 (out.take j ++ [x] ++ out.drop j) := ov_12 hA18 (by simp)
                  have n18 := hA18.2.1
                  have s18 := hA18.2.2.2.1
                  refine hK.out _ _ (hHeld.next s18 (fun x e => .inl (n14 x e))) (fun hHeld => ?_)
                  clear hK K
                  try simp only [Act.put, List.setIfInBounds_toArray, List.set_cons_zero, List.set_cons_succ]
                  refine wpAnyH_take (i := 19) (oi := { dst := some 3, op := Op.assign (Operand.tmp 82), type := 28, pos := _, after := #[{ on := 18, ground := Ground.data }, { on := 18, ground := Ground.chain }, { on := 0, ground := Ground.phase }, { on := 1, ground := Ground.phase }, { on := 2, ground := Ground.phase }, { on := 3, ground := Ground.phase }, { on := 4, ground := Ground.phase }, { on := 5, ground := Ground.phase }, { on := 6, ground := Ground.phase }, { on := 7, ground := Ground.phase }, { on := 8, ground := Ground.phase }, { on := 9, ground := Ground.phase }, { on := 10, ground := Ground.phase }, { on := 11, ground := Ground.phase }, { on := 12, ground := Ground.phase }, { on := 13, ground := Ground.phase }, { on := 14, ground := Ground.phase }, { on := 15, ground := Ground.phase }, { on := 16, ground := Ground.phase }, { on := 17, ground := Ground.phase }, { on := 18, ground := Ground.phase }], guard := none }) (v := v18) rfl (by kernel_rfl) (by kernel_rfl) (by kernel_rfl) (fun _ _ _ h => h) (Or.inl ⟨by rfl, ?_⟩) hHeld ?_
                  · intro u hu
                    go_simp
                  try simp only [Act.put, List.setIfInBounds_toArray, List.set_cons_zero, List.set_cons_succ]
                  refine wpAnyH_done (by kernel_rfl) ?_ _
                  obtain ⟨gb2, cap2, rfl, I2⟩ := FIN _ _ hHeld o18 n18
                  rw [← hN'.out] at I2
                  rw [← hN'.out]
                  go_wp2_with fail
                  go_roundw
                  case rel => exact ⟨i + 1, gb2, cap2, _, by omega, rfl, rfl, by go_num, I2⟩
                  case measure => simp [intOf]; omega
              · skip
                refine step_bs1I rfl _ (by rfl) x (by rfl) ?_
                intro g13 w13 e13 q13 b13
                have l13 := q13.lt
                refine hK.out _ _ (hHeld.next (Stp.of_below b13 (fun _ => False)) (fun x e => e.elim)) (fun hHeld => ?_)
                clear hK K
                have zz13 := b13.size
                try (replace o0 := o0.later b13)
                try (replace o4 := o4.later b13)
                try simp only [Act.put, List.setIfInBounds_toArray, List.set_cons_zero, List.set_cons_succ]
                refine wpAnyH_ready (rs := [0]) (by kernel_rfl) (by simp) ?_
                refine (AllReadyH.cons (o := { dst := some 64, op := Op.buildSlice 28 0 #[], type := 28, pos := _, after := #[], guard := none }) rfl (fun K hK => ?_) AllReadyH.nil)
                have zH1 := hHeld.size
                refine step_bs0I rfl (by rfl) ?_
                intro g0 w0 e0 o0 b0
                have W0 : W.heap.size ≤ g0 := Nat.le_trans zH1 e0
                have l0 : g0 < w0.heap.size := o0.lt rfl
                refine hK.out _ _ (hHeld.next (Stp.of_below b0 (fun _ => False)) (fun x e => e.elim)) (fun hHeld => ?_)
                clear hK K
                have zz0 := b0.size
                try (replace q13 := q13.later b0)
                try simp only [Act.put, List.setIfInBounds_toArray, List.set_cons_zero, List.set_cons_succ]
                refine wpAnyH_ready (rs := [4]) (by kernel_rfl) (by simp) ?_
                refine (AllReadyH.cons (o := { dst := some 68, op := Op.call { callee := Callee.builtin Builtin.append, args := #[Operand.tmp 64, Operand.tmp 67], argTypes := #[28, 28] }, type := 28, pos := _, after := #[{ on := 0, ground := Ground.data }, { on := 3, ground := Ground.data }], guard := none }) rfl (fun K hK => ?_) AllReadyH.nil)
                refine step_appR elI W.heap.size rfl _ _ (by rfl) (by rfl) o0 (fun r e => (ob_eq e) ▸ W0) (some ⟨gb, 0, none⟩) cap ((out.take j).map (Value.int .i64)) (by rfl) (by simp; omega) (fun e => by cases e) (TK _ hHeld) (oneI _) (by simp only [List.length_nil]; omega) hHeld.size ?_
                intro v4 w4 hA4
                have o4 : OwV w4 v4 ([] ++ out.take j) := ov_12 hA4 (by simp; omega)
                rw [List.nil_append] at o4
                have n4 := hA4.2.1
                have s4 := hA4.2.2.2.1
                refine hK.out _ _ (hHeld.next s4 (fun x e => .inl ((ob_eq e) ▸ W0))) (fun hHeld => ?_)
                clear hK K
                have zz4 := s4.size
                try (replace q13 := q13.step s4 (fun e => by have := ob_eq e; omega))
                try simp only [Act.put, List.setIfInBounds_toArray, List.set_cons_zero, List.set_cons_succ]
                refine wpAnyH_ready (rs := [14]) (by kernel_rfl) (by simp) ?_
                refine (AllReadyH.cons (o := { dst := some 78, op := Op.call { callee := Callee.builtin Builtin.append, args := #[Operand.tmp 68, Operand.tmp 77], argTypes := #[28, 28] }, type := 28, pos := _, after := #[{ on := 4, ground := Ground.data }, { on := 13, ground := Ground.data }, { on := 4, ground := Ground.chain }], guard := none }) rfl (fun K hK => ?_) AllReadyH.nil)
                refine step_appR elI W.heap.size rfl _ _ (by rfl) (by rfl) o4 n4 (some ⟨g13, 0, none⟩) 1 (([x] : List Int).map (Value.int .i64)) (by rfl) (by rfl) (fun e => by cases e) (fun ad e j u hu => by injection e with e; subst e; rw [Addr.add_lit, Nat.zero_add]; exact q13.cell j u hu) (oneI _) (by simp; omega) hHeld.size ?_
                intro v14 w14 hA14
                have o14 : OwV w14 v14 (out.take j ++ [x]) := ov_12 hA14 rfl
                have n14 := hA14.2.1
                have s14 := hA14.2.2.2.1
                refine hK.out _ _ (hHeld.next s14 (fun x e => .inl (n4 x e))) (fun hHeld => ?_)
                clear hK K
                try simp only [Act.put, List.setIfInBounds_toArray, List.set_cons_zero, List.set_cons_succ]
                refine wpAnyH_ready (rs := [18]) (by kernel_rfl) (by simp) ?_
                refine (AllReadyH.cons (o := { dst := some 82, op := Op.call { callee := Callee.builtin Builtin.append, args := #[Operand.tmp 78, Operand.tmp 81], argTypes := #[28, 28] }, type := 28, pos := _, after := #[{ on := 14, ground := Ground.data }, { on := 17, ground := Ground.data }, { on := 14, ground := Ground.chain }], guard := none }) rfl (fun K hK => ?_) AllReadyH.nil)
                refine step_appR elI W.heap.size rfl _ _ (by rfl) (by rfl) o14 n14 (some ⟨gb, oj, none⟩) (cap - j) ((out.drop j).map (Value.int .i64)) (by rfl) (by simp) (fun e => by cases e) (DR _ hHeld) (oneI _) (by simp; omega) hHeld.size ?_
                intro v18 w18 hA18
                have o18 : OwV w18 v18 (out.take j ++ [x] ++ out.drop j) := ov_12 hA18 (by simp)
                have n18 := hA18.2.1
                have s18 := hA18.2.2.2.1
                refine hK.out _ _ (hHeld.next s18 (fun x e => .inl (n14 x e))) (fun hHeld => ?_)
                clear hK K
                try simp only [Act.put, List.setIfInBounds_toArray, List.set_cons_zero, List.set_cons_succ]
                refine wpAnyH_take (i := 19) (oi := { dst := some 3, op := Op.assign (Operand.tmp 82), type := 28, pos := _, after := #[{ on := 18, ground := Ground.data }, { on := 18, ground := Ground.chain }, { on := 0, ground := Ground.phase }, { on := 1, ground := Ground.phase }, { on := 2, ground := Ground.phase }, { on := 3, ground := Ground.phase }, { on := 4, ground := Ground.phase }, { on := 5, ground := Ground.phase }, { on := 6, ground := Ground.phase }, { on := 7, ground := Ground.phase }, { on := 8, ground := Ground.phase }, { on := 9, ground := Ground.phase }, { on := 10, ground := Ground.phase }, { on := 11, ground := Ground.phase }, { on := 12, ground := Ground.phase }, { on := 13, ground := Ground.phase }, { on := 14, ground := Ground.phase }, { on := 15, ground := Ground.phase }, { on := 16, ground := Ground.phase }, { on := 17, ground := Ground.phase }, { on := 18, ground := Ground.phase }], guard := none }) (v := v18) rfl (by kernel_rfl) (by kernel_rfl) (by kernel_rfl) (fun _ _ _ h => h) (Or.inl ⟨by rfl, ?_⟩) hHeld ?_
                · intro u hu
                  go_simp
                try simp only [Act.put, List.setIfInBounds_toArray, List.set_cons_zero, List.set_cons_succ]
                refine wpAnyH_done (by kernel_rfl) ?_ _
                obtain ⟨gb2, cap2, rfl, I2⟩ := FIN _ _ hHeld o18 n18
                rw [← hN'.out] at I2
                rw [← hN'.out]
                go_wp2_with fail
                go_roundw
                case rel => exact ⟨i + 1, gb2, cap2, _, by omega, rfl, rfl, by go_num, I2⟩
                case measure => simp [intOf]; omega
    · have a9 : ¬ (i : Int) < (L.length : Int) := by omega
      have e1 : Hid (out = secs Z.l) := (by rw [hout'.out]; unfold scK; rw [take_all (by rw [← hlen'.out]; omega)] : out = secs Z.l)
      go_wp2_with fail
      go_returns
      exact ⟨_, rfl, by rw [← e1.out]; exact I.ow, fun r hr => by have := ob_eq hr; have := I.nw; omega, I.b⟩
end Go.Proofs.YtigchhogclofiaaGreat
