/-
  What the documents' has, and HasInt of the helpers, return: no statement is proved here.
-/
import Derived.Test.YtdfifneikmlmoaaRgJ
import Derived.Test.YtdfifneikmlmoaaGsA
import Derived.Test.YtdfifneikmlmoaaRgL
import Derived.Test.YtdfifneikmlmoaaPlC
import Derived.Test.YtdfifneikmlmoaaPeA
import Derived.Test.YtdfifneikmlmoaaPtIn
import Derived.Test.YtdfifneikmlmoaaGsD
import Derived.Test.YtdfifneikmlmoaaMadeA
namespace Go.Proofs.Ytdfifneikmlmoaa
open Go.ChangeShapes Go.WideShapes Go.ChangeAt Go.RowKit
set_option linter.unusedVariables false
set_option linter.unusedSimpArgs false

/-- Where a number belongs. -/
theorem insU_at (x : Int) : ∀ (A B : List Int), (∀ y ∈ A, y < x) → (∀ y, B.head? = some y → x ≤ y) → insU (A ++ B) x = if B.head? = some x then A ++ B else A ++ x :: B
  | [], [], _, _ => by simp [insU]
  | [], b :: t, _, h => by
    have hb := h b rfl
    rw [List.nil_append, insU, if_neg (by omega)]
    by_cases e : b = x
    · rw [if_pos e, if_pos (by simp [e])]
    · rw [if_neg e, if_neg (by simp [e])]; rfl
  | a :: t, B, hA, h => by
    rw [List.cons_append, insU, if_pos (hA a (by simp)), insU_at x t B (fun y hy => hA y (by simp [hy])) h]
    split <;> rfl
/-- Whether x is put in at j. -/
def insQ (out : List Int) (j : Nat) (x : Int) : Bool := decide (¬ out[j]? = some x)
theorem insU_cut {out : List Int} {j : Nat} {x : Int} (h1 : ∀ y ∈ out.take j, y < x) (h2 : ∀ y, out[j]? = some y → x ≤ y) : insU out x = if insQ out j x = true then out.take j ++ x :: out.drop j else out := by
  have hh : (out.drop j).head? = out[j]? := List.head?_drop
  have := insU_at x (out.take j) (out.drop j) h1 (fun y hy => h2 y (by rw [← hh]; exact hy))
  rw [List.take_append_drop, hh] at this
  rw [this]
  unfold insQ
  by_cases e : out[j]? = some x <;> simp [e]
/-- The sectors of the first k. -/
def scK (l : List Pt) (k : Nat) : List Int := secs (l.take k)
theorem scK_step {l : List Pt} {k : Nat} {p : Pt} (h : l[k]? = some p) : scK l (k + 1) = if p.wr then scK l k else insU (scK l k) p.at' := by
  unfold scK secs
  rw [flt_step h]
  cases p.wr <;> simp [List.foldl_append]
theorem insU_len (x : Int) : ∀ l : List Int, (insU l x).length ≤ l.length + 1
  | [] => by simp [insU]
  | a :: t => by
    unfold insU
    have := insU_len x t
    split
    · simp; exact this
    · split <;> simp
theorem scK_len (l : List Pt) : ∀ k, (scK l k).length ≤ k
  | 0 => by simp [scK, secs]
  | k + 1 => by
    cases h : l[k]? with
    | none =>
      have e : scK l (k + 1) = scK l k := by unfold scK; rw [List.take_add_one, h]; simp
      rw [e]; have := scK_len l k; omega
    | some p =>
      rw [scK_step h]
      have := scK_len l k
      have := insU_len p.at' (scK l k)
      split <;> omega
theorem step_bs0I {ops : Array Oper} {o : Oper} {a : Act} {w : World} {K : Act → World → Prop} {Q : Exit → Act → World → Prop} {R : Prop} (hgd : o.guard = none) (ho : o.op = .buildSlice 23 0 #[])
    (h : ∀ g w', w.heap.size ≤ g → OwV w' (.slice (some ⟨g, 0, none⟩) 0 0) [] → Below w.heap.size w w' → K (a.put o.dst (.slice (some ⟨g, 0, none⟩) 0 0)) w') : if Region.wanted o (yielded ops a.tmps) = true then Oper.wp Try.prog o a w K Q else R := by
  have hw : Region.wanted o (yielded ops a.tmps) = true := by simp [Region.wanted, hgd]
  rw [if_pos hw]
  have h0 : (Instr.buildSlice 23 0 #[]).run Try.prog w = .ok (.slice (some ⟨w.heap.size, 0, none⟩) 0 0) (w.alloc (.cells #[] 3)) := by kernel_rfl
  have hr : (execOp a.eval o).run Try.prog w = .ok (.value (.slice (some ⟨w.heap.size, 0, none⟩) 0 0)) (w.alloc (.cells #[] 3)) := by simp [execOp, ho, h0]
  unfold Oper.wp
  rw [hr]
  exact h w.heap.size _ (Nat.le_refl _) (World.ownsRow_made w #[] 0 (Nat.zero_le _) (Nat.zero_le _) rfl) ((Below.refl _ w).alloc (Nat.le_refl _) _)
theorem step_bs1I {ops : Array Oper} {o : Oper} {a : Act} {w : World} {K : Act → World → Prop} {Q : Exit → Act → World → Prop} {R : Prop} (hgd : o.guard = none) (x : Operand) (ho : o.op = .buildSlice 23 1 #[(0, x)]) (y : Int) (hx : a.eval x = .int .i64 y)
    (h : ∀ g w', w.heap.size ≤ g → Cs w' g [.int .i64 y] → Below w.heap.size w w' → K (a.put o.dst (.slice (some ⟨g, 0, none⟩) 1 1)) w') : if Region.wanted o (yielded ops a.tmps) = true then Oper.wp Try.prog o a w K Q else R :=
  step_bsI hgd x ho y hx (h w.heap.size _ (Nat.le_refl _) (Cs.made w [.int .i64 y] _ (by simp [Value.oneCell'])) ((Below.refl _ w).alloc (Nat.le_refl _) _))
theorem ov_12 {w w' : World} {B m : Nat} {v v' : Value} {l l' : List Int} (hA : Apd w B 3 1 v l.length m (l.map (Value.int .i64) ++ l'.map (Value.int .i64)) v' w') (hm : m = l'.length) : OwV w' v' (l ++ l') := by
  unfold OwV
  have := hA.1
  rw [hm, ← List.map_append, ← List.length_append] at this
  exact this
/-- Sectors so far. -/
structure ScI (w wr : World) (gb cap : Nat) (out : List Int) : Prop where
  ow : OwV wr (.slice (some ⟨gb, 0, none⟩) out.length cap) out
  nw : w.heap.size ≤ gb
  b : Below w.heap.size w wr
theorem ScI.later {w wr w' : World} {gb cap : Nat} {out : List Int} (h : ScI w wr gb cap out) (k : Below wr.heap.size wr w') : ScI w w' gb cap out := ⟨h.ow.later k, h.nw, bnext h.b k (Nat.le_refl _)⟩
theorem ScI.row {w wr : World} {gb cap : Nat} {out : List Int} (h : ScI w wr gb cap out) : ∃ cur, Rw1 wr gb cap out cur := by
  rcases h.ow.row with ⟨e, _⟩ | ⟨g', cap', cur, e, hw⟩
  · cases e
  · injection e with e1 e2 e3
    injection e1 with e1; injection e1 with e1
    subst e1; subst e3
    exact ⟨cur, hw⟩
set_option maxRecDepth 100000 in
set_option maxHeartbeats 4000000 in
theorem rsectors_any {w : World} {g : Nat} {Z : GZ} {a : Option Addr} {c : Nat} {L : List Pe} {R : Nat → Prop} (H : Rf w g Z a c L R) :
    Calls Try.prog 41 #[.pointer (some ⟨g, 0, none⟩)] w fun e w' => ∃ v, e = .returned v ∧ OwV w' v (secs Z.l) ∧ New w.heap.size v ∧ Below w.heap.size w w' := by
  have hfew := H.few
  have hcap : L.length ≤ maxLen := by obtain ⟨_, _, _, h, _⟩ := H.row.shape; exact h
  have hlen' : Hid (L.length = Z.l.length) := H.len
  go_enter Try.func41, Try.ntmps41
  go_wp2_with fail
  have i0 : ScI w (w.alloc (.cells #[] 3)) w.heap.size 0 (scK Z.l 0) := ⟨World.ownsRow_made w #[] 0 (Nat.zero_le _) (Nat.zero_le _) rfl, Nat.le_refl _, (Below.refl _ w).alloc (Nat.le_refl _) _⟩
  go_loopw [3, 4] (fun u v wr => ∃ (i gb cap : Nat) (out : List Int), i ≤ L.length ∧ out = scK Z.l i ∧ u = .slice (some ⟨gb, 0, none⟩) out.length cap ∧ v = .int .i64 (i : Int) ∧ ScI w wr gb cap out) (fun _ v _ => L.length - (intOf v).toNat)
  case atStart => exact ⟨0, _, _, _, Nat.zero_le _, rfl, rfl, rfl, i0⟩
  case round =>
    clear i0
    obtain ⟨i, gb, cap, out, hi, hout, rfl, rfl, I⟩ := hrel
    have hout' : Hid (out = scK Z.l i) := hout
    have hol : out.length ≤ i := by rw [hout]; exact scK_len _ _
    clear hout
    have H4 := H.later I.b
    obtain ⟨z0, z1⟩ := H4.cells
    have a8 : (0 : Int) ≤ (i : Int) := by omega
    by_cases hil : i < L.length
    · obtain ⟨b, t, rfl, e2, hr⟩ := H4.row.el i hil
      have c1 := (Pe.at9 hr).2.1
      have c8 := (Pe.at9 hr).2.2.2.2.2.2.2.2
      have a9 : (i : Int) < (L.length : Int) := by omega
      have hst := scK_step (H4.get e2)
      have hst' : Hid (scK Z.l (i + 1) = if t.p.wr then scK Z.l i else insU (scK Z.l i) t.p.at') := hst
      clear hst hr
      cases hw : t.p.wr with
      | true =>
        rw [hw] at c8
        clear c1
        go_wp2_with fail
        go_roundw
        case rel => exact ⟨i + 1, gb, cap, out, by omega, by rw [hst'.out, hw, if_pos rfl]; exact hout'.out, rfl, by go_num, I⟩
        case measure => simp [intOf]; omega
      | false =>
        rw [hw] at c8
        have hst2 : Hid (scK Z.l (i + 1) = insU out t.p.at') := (by rw [hst'.out, hw, if_neg (by simp), ← hout'.out] : scK Z.l (i + 1) = insU out t.p.at')
        generalize t.p.at' = x at *
        obtain ⟨cur, hrow⟩ := I.row
        have ocap : out.length ≤ cap := hrow.le
        have cmax : cap ≤ maxLen := hrow.cm
        have omax : out.length ≤ maxLen := Nat.le_trans ocap cmax
        go_upto_block 2 with fail
        clear c8
        go_cut [5] from 7 to 82 (fun v wx => ∃ j : Nat, j ≤ out.length ∧ v = .int .i64 (j : Int) ∧ (∀ y ∈ out.take j, y < x) ∧ (∀ y, out[j]? = some y → x ≤ y) ∧ Below wr.heap.size wr wx)
        case first =>
          have B0 : Below wr.heap.size wr wr := Below.refl _ _
          generalize hWr : wr = wr0 at *
          go_wp2_with fail
          go_loopw [5] (fun v wx => ∃ j : Nat, j ≤ out.length ∧ v = .int .i64 (j : Int) ∧ (∀ y ∈ out.take j, y < x) ∧ Below wr0.heap.size wr0 wx) (fun v _ => out.length - (intOf v).toNat)
          case atStart => exact ⟨0, Nat.zero_le _, rfl, (fun y hy => absurd hy (by simp)), B0⟩
          case round =>
            obtain ⟨j, hj, rfl, hno, Bj⟩ := hrel
            have q8 : (0 : Int) ≤ (j : Int) := by omega
            have z1j := (Stp.of_below Bj (fun _ => False)).cell z1 id
            have c1j := (Stp.of_below Bj (fun _ => False)).cell c1 id
            by_cases hjl : j < out.length
            · have q9 : (j : Int) < (out.length : Int) := by omega
              have cy0 := (Stp.of_below Bj (fun _ => False)).cell (hrow.cell j hjl) id
              have hgy : out[j]? = some (out.getD j 0) := by rw [List.getElem?_eq_getElem hjl, List.getD_eq_getElem?_getD, List.getElem?_eq_getElem hjl]; rfl
              generalize out.getD j 0 = y at *
              have cy := cy0
              have z1 := z1j
              have c1 := c1j
              by_cases hyx : y < x
              · have hno2 : ∀ y' ∈ out.take (j + 1), y' < x := fun y' hy' => by
                  rw [List.take_add_one, hgy] at hy'
                  rcases List.mem_append.1 hy' with h | h
                  · exact hno y' h
                  · have : y' = y := by simpa using h
                    omega
                go_wp2_with fail
                refine wp_region_held_drew (S := fun u => Below wr.heap.size wr u) (by kernel_rfl) (Below.refl _ _).drew (fun hHeld => ?_)
                refine wpAnyH_take (i := 0) (oi := { dst := some 24, op := Op.move (Operand.tmp 5), type := 3, pos := _, after := #[], guard := none }) (v := .int .i64 (j : Int)) rfl (by kernel_rfl) (by kernel_rfl) (by kernel_rfl) (fun _ _ _ h => h) (Or.inl ⟨by rfl, ?_⟩) hHeld ?_
                · intro u hu
                  go_simp
                try simp only [Act.put, List.setIfInBounds_toArray, List.set_cons_zero, List.set_cons_succ]
                refine wpAnyH_take (i := 1) (oi := { dst := some 25, op := Op.move (Operand.tmp 3), type := 23, pos := _, after := #[], guard := none }) (v := .slice (some ⟨gb, 0, none⟩) out.length cap) rfl (by kernel_rfl) (by kernel_rfl) (by kernel_rfl) (fun _ _ _ h => h) (Or.inl ⟨by rfl, ?_⟩) hHeld ?_
                · intro u hu
                  go_simp
                try simp only [Act.put, List.setIfInBounds_toArray, List.set_cons_zero, List.set_cons_succ]
                refine wpAnyH_take (i := 2) (oi := { dst := some 26, op := Op.call { callee := Callee.builtin Builtin.len, args := #[Operand.tmp 25], argTypes := #[23] }, type := 3, pos := _, after := #[{ on := 1, ground := Ground.data }], guard := none }) (v := .int .i64 (out.length : Int)) rfl (by kernel_rfl) (by kernel_rfl) (by kernel_rfl) (fun _ _ _ h => h) (Or.inl ⟨by rfl, ?_⟩) hHeld ?_
                · intro u hu
                  go_simp
                try simp only [Act.put, List.setIfInBounds_toArray, List.set_cons_zero, List.set_cons_succ]
                refine wpAnyH_take (i := 3) (oi := { dst := some 27, op := Op.binOp BinOp.lss 3 (Operand.tmp 24) (Operand.tmp 26) 3, type := 4, pos := _, after := #[{ on := 0, ground := Ground.data }, { on := 2, ground := Ground.data }], guard := none }) (v := .bool true) rfl (by kernel_rfl) (by kernel_rfl) (by kernel_rfl) (fun _ _ _ h => h) (Or.inl ⟨by rfl, ?_⟩) hHeld ?_
                · intro u hu
                  go_simp
                try simp only [Act.put, List.setIfInBounds_toArray, List.set_cons_zero, List.set_cons_succ]
                refine wpAnyH_take (i := 4) (oi := { dst := some 28, op := Op.move (Operand.tmp 27), type := 4, pos := _, after := #[{ on := 3, ground := Ground.data }], guard := none }) (v := .bool true) rfl (by kernel_rfl) (by kernel_rfl) (by kernel_rfl) (fun _ _ _ h => h) (Or.inl ⟨by rfl, ?_⟩) hHeld ?_
                · intro u hu
                  go_simp
                try simp only [Act.put, List.setIfInBounds_toArray, List.set_cons_zero, List.set_cons_succ]
                refine wpAnyH_take (i := 5) (oi := { dst := some 29, op := Op.move (Operand.tmp 3), type := 23, pos := _, after := #[{ on := 4, ground := Ground.guard }], guard := some (4, true) }) (v := .slice (some ⟨gb, 0, none⟩) out.length cap) rfl (by kernel_rfl) (by kernel_rfl) (by kernel_rfl) (fun _ _ _ h => h) (Or.inl ⟨by rfl, ?_⟩) hHeld ?_
                · intro u hu
                  go_simp
                try simp only [Act.put, List.setIfInBounds_toArray, List.set_cons_zero, List.set_cons_succ]
                refine wpAnyH_take (i := 6) (oi := { dst := some 30, op := Op.move (Operand.tmp 5), type := 3, pos := _, after := #[{ on := 4, ground := Ground.guard }], guard := some (4, true) }) (v := .int .i64 (j : Int)) rfl (by kernel_rfl) (by kernel_rfl) (by kernel_rfl) (fun _ _ _ h => h) (Or.inl ⟨by rfl, ?_⟩) hHeld ?_
                · intro u hu
                  go_simp
                try simp only [Act.put, List.setIfInBounds_toArray, List.set_cons_zero, List.set_cons_succ]
                refine wpAnyH_take (i := 7) (oi := { dst := some 31, op := Op.indexAddr 23 (Operand.tmp 29) (Operand.tmp 30), type := 0, pos := _, after := #[{ on := 5, ground := Ground.data }, { on := 6, ground := Ground.data }, { on := 4, ground := Ground.guard }], guard := some (4, true) }) (v := .pointer (some ⟨gb, j, none⟩)) rfl (by kernel_rfl) (by kernel_rfl) (by kernel_rfl) (fun _ _ _ h => h) (Or.inl ⟨by rfl, ?_⟩) hHeld ?_
                · intro u hu
                  go_simp
                try simp only [Act.put, List.setIfInBounds_toArray, List.set_cons_zero, List.set_cons_succ]
                refine wpAnyH_take (i := 8) (oi := { dst := some 32, op := Op.load 3 (Operand.tmp 31), type := 3, pos := _, after := #[{ on := 7, ground := Ground.data }, { on := 4, ground := Ground.guard }], guard := some (4, true) }) (v := .int .i64 y) rfl (by kernel_rfl) (by kernel_rfl) (by kernel_rfl) (fun _ _ _ h => h) (Or.inl ⟨by rfl, ?_⟩) hHeld ?_
                · intro u hu
                  have x1 := (Stp.of_below hu (fun _ => False)).cell cy id; go_simp
                try simp only [Act.put, List.setIfInBounds_toArray, List.set_cons_zero, List.set_cons_succ]
                refine wpAnyH_take (i := 9) (oi := { dst := some 33, op := Op.move (Operand.tmp 0), type := 26, pos := _, after := #[{ on := 4, ground := Ground.guard }], guard := some (4, true) }) (v := .pointer (some ⟨g, 0, none⟩)) rfl (by kernel_rfl) (by kernel_rfl) (by kernel_rfl) (fun _ _ _ h => h) (Or.inl ⟨by rfl, ?_⟩) hHeld ?_
                · intro u hu
                  go_simp
                try simp only [Act.put, List.setIfInBounds_toArray, List.set_cons_zero, List.set_cons_succ]
                refine wpAnyH_take (i := 10) (oi := { dst := some 34, op := Op.nilCheck (Operand.tmp 33), type := 0, pos := _, after := #[{ on := 9, ground := Ground.data }, { on := 4, ground := Ground.guard }], guard := some (4, true) }) (v := .pointer (some ⟨g, 0, none⟩)) rfl (by kernel_rfl) (by kernel_rfl) (by kernel_rfl) (fun _ _ _ h => h) (Or.inl ⟨by rfl, ?_⟩) hHeld ?_
                · intro u hu
                  go_simp
                try simp only [Act.put, List.setIfInBounds_toArray, List.set_cons_zero, List.set_cons_succ]
                refine wpAnyH_take (i := 11) (oi := { dst := some 35, op := Op.fieldAddr 61 (Operand.tmp 34) 1, type := 0, pos := _, after := #[{ on := 10, ground := Ground.data }, { on := 4, ground := Ground.guard }], guard := some (4, true) }) (v := .pointer (some ⟨g, 1, none⟩)) rfl (by kernel_rfl) (by kernel_rfl) (by kernel_rfl) (fun _ _ _ h => h) (Or.inl ⟨by rfl, ?_⟩) hHeld ?_
                · intro u hu
                  go_simp
                try simp only [Act.put, List.setIfInBounds_toArray, List.set_cons_zero, List.set_cons_succ]
                refine wpAnyH_take (i := 12) (oi := { dst := some 36, op := Op.load 22 (Operand.tmp 35), type := 22, pos := _, after := #[{ on := 11, ground := Ground.data }, { on := 4, ground := Ground.guard }], guard := some (4, true) }) (v := .slice (some ⟨b, 0, none⟩) L.length c) rfl (by kernel_rfl) (by kernel_rfl) (by kernel_rfl) (fun _ _ _ h => h) (Or.inl ⟨by rfl, ?_⟩) hHeld ?_
                · intro u hu
                  have x1 := (Stp.of_below hu (fun _ => False)).cell z1 id; go_simp
                try simp only [Act.put, List.setIfInBounds_toArray, List.set_cons_zero, List.set_cons_succ]
                refine wpAnyH_take (i := 13) (oi := { dst := some 37, op := Op.move (Operand.tmp 4), type := 3, pos := _, after := #[{ on := 4, ground := Ground.guard }], guard := some (4, true) }) (v := .int .i64 (i : Int)) rfl (by kernel_rfl) (by kernel_rfl) (by kernel_rfl) (fun _ _ _ h => h) (Or.inl ⟨by rfl, ?_⟩) hHeld ?_
                · intro u hu
                  go_simp
                try simp only [Act.put, List.setIfInBounds_toArray, List.set_cons_zero, List.set_cons_succ]
                refine wpAnyH_take (i := 14) (oi := { dst := some 38, op := Op.indexAddr 22 (Operand.tmp 36) (Operand.tmp 37), type := 0, pos := _, after := #[{ on := 12, ground := Ground.data }, { on := 13, ground := Ground.data }, { on := 4, ground := Ground.guard }], guard := some (4, true) }) (v := .pointer (some ⟨b, i * 9, none⟩)) rfl (by kernel_rfl) (by kernel_rfl) (by kernel_rfl) (fun _ _ _ h => h) (Or.inl ⟨by rfl, ?_⟩) hHeld ?_
                · intro u hu
                  go_simp
                try simp only [Act.put, List.setIfInBounds_toArray, List.set_cons_zero, List.set_cons_succ]
                refine wpAnyH_take (i := 15) (oi := { dst := some 39, op := Op.fieldAddr 40 (Operand.tmp 38) 1, type := 0, pos := _, after := #[{ on := 14, ground := Ground.data }, { on := 4, ground := Ground.guard }], guard := some (4, true) }) (v := .pointer (some ⟨b, i * 9 + 1, none⟩)) rfl (by kernel_rfl) (by kernel_rfl) (by kernel_rfl) (fun _ _ _ h => h) (Or.inl ⟨by rfl, ?_⟩) hHeld ?_
                · intro u hu
                  go_simp
                try simp only [Act.put, List.setIfInBounds_toArray, List.set_cons_zero, List.set_cons_succ]
                refine wpAnyH_take (i := 16) (oi := { dst := some 40, op := Op.load 3 (Operand.tmp 39), type := 3, pos := _, after := #[{ on := 15, ground := Ground.data }, { on := 4, ground := Ground.guard }], guard := some (4, true) }) (v := .int .i64 x) rfl (by kernel_rfl) (by kernel_rfl) (by kernel_rfl) (fun _ _ _ h => h) (Or.inl ⟨by rfl, ?_⟩) hHeld ?_
                · intro u hu
                  have x1 := (Stp.of_below hu (fun _ => False)).cell c1 id; go_simp
                try simp only [Act.put, List.setIfInBounds_toArray, List.set_cons_zero, List.set_cons_succ]
                refine wpAnyH_take (i := 17) (oi := { dst := some 41, op := Op.binOp BinOp.lss 3 (Operand.tmp 32) (Operand.tmp 40) 3, type := 4, pos := _, after := #[{ on := 8, ground := Ground.data }, { on := 16, ground := Ground.data }, { on := 4, ground := Ground.guard }], guard := some (4, true) }) (v := .bool true) rfl (by kernel_rfl) (by kernel_rfl) (by kernel_rfl) (fun _ _ _ h => h) (Or.inl ⟨by rfl, ?_⟩) hHeld ?_
                · intro u hu
                  go_simp
                try simp only [Act.put, List.setIfInBounds_toArray, List.set_cons_zero, List.set_cons_succ]
                refine wpAnyH_take (i := 18) (oi := { dst := some 42, op := Op.pick (Operand.tmp 28) (Operand.tmp 41) (Operand.const (Value.bool false)), type := 4, pos := _, after := #[{ on := 4, ground := Ground.data }, { on := 17, ground := Ground.data }], guard := none }) (v := .bool true) rfl (by kernel_rfl) (by kernel_rfl) (by kernel_rfl) (fun _ _ _ h => h) (Or.inl ⟨by rfl, ?_⟩) hHeld ?_
                · intro u hu
                  go_simp
                try simp only [Act.put, List.setIfInBounds_toArray, List.set_cons_zero, List.set_cons_succ]
                refine wpAnyH_done (by kernel_rfl) ?_ _
                have B9 := bnext Bj hHeld (Nat.le_refl _)
                go_wp2_with fail
                go_roundw
                case rel => exact ⟨j + 1, by omega, by go_num, hno2, B9⟩
                case measure => simp [intOf]; omega
              · go_wp2_with fail
                refine wp_region_held_drew (S := fun u => Below wr.heap.size wr u) (by kernel_rfl) (Below.refl _ _).drew (fun hHeld => ?_)
                refine wpAnyH_take (i := 0) (oi := { dst := some 24, op := Op.move (Operand.tmp 5), type := 3, pos := _, after := #[], guard := none }) (v := .int .i64 (j : Int)) rfl (by kernel_rfl) (by kernel_rfl) (by kernel_rfl) (fun _ _ _ h => h) (Or.inl ⟨by rfl, ?_⟩) hHeld ?_
                · intro u hu
                  go_simp
                try simp only [Act.put, List.setIfInBounds_toArray, List.set_cons_zero, List.set_cons_succ]
                refine wpAnyH_take (i := 1) (oi := { dst := some 25, op := Op.move (Operand.tmp 3), type := 23, pos := _, after := #[], guard := none }) (v := .slice (some ⟨gb, 0, none⟩) out.length cap) rfl (by kernel_rfl) (by kernel_rfl) (by kernel_rfl) (fun _ _ _ h => h) (Or.inl ⟨by rfl, ?_⟩) hHeld ?_
                · intro u hu
                  go_simp
                try simp only [Act.put, List.setIfInBounds_toArray, List.set_cons_zero, List.set_cons_succ]
                refine wpAnyH_take (i := 2) (oi := { dst := some 26, op := Op.call { callee := Callee.builtin Builtin.len, args := #[Operand.tmp 25], argTypes := #[23] }, type := 3, pos := _, after := #[{ on := 1, ground := Ground.data }], guard := none }) (v := .int .i64 (out.length : Int)) rfl (by kernel_rfl) (by kernel_rfl) (by kernel_rfl) (fun _ _ _ h => h) (Or.inl ⟨by rfl, ?_⟩) hHeld ?_
                · intro u hu
                  go_simp
                try simp only [Act.put, List.setIfInBounds_toArray, List.set_cons_zero, List.set_cons_succ]
                refine wpAnyH_take (i := 3) (oi := { dst := some 27, op := Op.binOp BinOp.lss 3 (Operand.tmp 24) (Operand.tmp 26) 3, type := 4, pos := _, after := #[{ on := 0, ground := Ground.data }, { on := 2, ground := Ground.data }], guard := none }) (v := .bool true) rfl (by kernel_rfl) (by kernel_rfl) (by kernel_rfl) (fun _ _ _ h => h) (Or.inl ⟨by rfl, ?_⟩) hHeld ?_
                · intro u hu
                  go_simp
                try simp only [Act.put, List.setIfInBounds_toArray, List.set_cons_zero, List.set_cons_succ]
                refine wpAnyH_take (i := 4) (oi := { dst := some 28, op := Op.move (Operand.tmp 27), type := 4, pos := _, after := #[{ on := 3, ground := Ground.data }], guard := none }) (v := .bool true) rfl (by kernel_rfl) (by kernel_rfl) (by kernel_rfl) (fun _ _ _ h => h) (Or.inl ⟨by rfl, ?_⟩) hHeld ?_
                · intro u hu
                  go_simp
                try simp only [Act.put, List.setIfInBounds_toArray, List.set_cons_zero, List.set_cons_succ]
                refine wpAnyH_take (i := 5) (oi := { dst := some 29, op := Op.move (Operand.tmp 3), type := 23, pos := _, after := #[{ on := 4, ground := Ground.guard }], guard := some (4, true) }) (v := .slice (some ⟨gb, 0, none⟩) out.length cap) rfl (by kernel_rfl) (by kernel_rfl) (by kernel_rfl) (fun _ _ _ h => h) (Or.inl ⟨by rfl, ?_⟩) hHeld ?_
                · intro u hu
                  go_simp
                try simp only [Act.put, List.setIfInBounds_toArray, List.set_cons_zero, List.set_cons_succ]
                refine wpAnyH_take (i := 6) (oi := { dst := some 30, op := Op.move (Operand.tmp 5), type := 3, pos := _, after := #[{ on := 4, ground := Ground.guard }], guard := some (4, true) }) (v := .int .i64 (j : Int)) rfl (by kernel_rfl) (by kernel_rfl) (by kernel_rfl) (fun _ _ _ h => h) (Or.inl ⟨by rfl, ?_⟩) hHeld ?_
                · intro u hu
                  go_simp
                try simp only [Act.put, List.setIfInBounds_toArray, List.set_cons_zero, List.set_cons_succ]
                refine wpAnyH_take (i := 7) (oi := { dst := some 31, op := Op.indexAddr 23 (Operand.tmp 29) (Operand.tmp 30), type := 0, pos := _, after := #[{ on := 5, ground := Ground.data }, { on := 6, ground := Ground.data }, { on := 4, ground := Ground.guard }], guard := some (4, true) }) (v := .pointer (some ⟨gb, j, none⟩)) rfl (by kernel_rfl) (by kernel_rfl) (by kernel_rfl) (fun _ _ _ h => h) (Or.inl ⟨by rfl, ?_⟩) hHeld ?_
                · intro u hu
                  go_simp
                try simp only [Act.put, List.setIfInBounds_toArray, List.set_cons_zero, List.set_cons_succ]
                refine wpAnyH_take (i := 8) (oi := { dst := some 32, op := Op.load 3 (Operand.tmp 31), type := 3, pos := _, after := #[{ on := 7, ground := Ground.data }, { on := 4, ground := Ground.guard }], guard := some (4, true) }) (v := .int .i64 y) rfl (by kernel_rfl) (by kernel_rfl) (by kernel_rfl) (fun _ _ _ h => h) (Or.inl ⟨by rfl, ?_⟩) hHeld ?_
                · intro u hu
                  have x1 := (Stp.of_below hu (fun _ => False)).cell cy id; go_simp
                try simp only [Act.put, List.setIfInBounds_toArray, List.set_cons_zero, List.set_cons_succ]
                refine wpAnyH_take (i := 9) (oi := { dst := some 33, op := Op.move (Operand.tmp 0), type := 26, pos := _, after := #[{ on := 4, ground := Ground.guard }], guard := some (4, true) }) (v := .pointer (some ⟨g, 0, none⟩)) rfl (by kernel_rfl) (by kernel_rfl) (by kernel_rfl) (fun _ _ _ h => h) (Or.inl ⟨by rfl, ?_⟩) hHeld ?_
                · intro u hu
                  go_simp
                try simp only [Act.put, List.setIfInBounds_toArray, List.set_cons_zero, List.set_cons_succ]
                refine wpAnyH_take (i := 10) (oi := { dst := some 34, op := Op.nilCheck (Operand.tmp 33), type := 0, pos := _, after := #[{ on := 9, ground := Ground.data }, { on := 4, ground := Ground.guard }], guard := some (4, true) }) (v := .pointer (some ⟨g, 0, none⟩)) rfl (by kernel_rfl) (by kernel_rfl) (by kernel_rfl) (fun _ _ _ h => h) (Or.inl ⟨by rfl, ?_⟩) hHeld ?_
                · intro u hu
                  go_simp
                try simp only [Act.put, List.setIfInBounds_toArray, List.set_cons_zero, List.set_cons_succ]
                refine wpAnyH_take (i := 11) (oi := { dst := some 35, op := Op.fieldAddr 61 (Operand.tmp 34) 1, type := 0, pos := _, after := #[{ on := 10, ground := Ground.data }, { on := 4, ground := Ground.guard }], guard := some (4, true) }) (v := .pointer (some ⟨g, 1, none⟩)) rfl (by kernel_rfl) (by kernel_rfl) (by kernel_rfl) (fun _ _ _ h => h) (Or.inl ⟨by rfl, ?_⟩) hHeld ?_
                · intro u hu
                  go_simp
                try simp only [Act.put, List.setIfInBounds_toArray, List.set_cons_zero, List.set_cons_succ]
                refine wpAnyH_take (i := 12) (oi := { dst := some 36, op := Op.load 22 (Operand.tmp 35), type := 22, pos := _, after := #[{ on := 11, ground := Ground.data }, { on := 4, ground := Ground.guard }], guard := some (4, true) }) (v := .slice (some ⟨b, 0, none⟩) L.length c) rfl (by kernel_rfl) (by kernel_rfl) (by kernel_rfl) (fun _ _ _ h => h) (Or.inl ⟨by rfl, ?_⟩) hHeld ?_
                · intro u hu
                  have x1 := (Stp.of_below hu (fun _ => False)).cell z1 id; go_simp
                try simp only [Act.put, List.setIfInBounds_toArray, List.set_cons_zero, List.set_cons_succ]
                refine wpAnyH_take (i := 13) (oi := { dst := some 37, op := Op.move (Operand.tmp 4), type := 3, pos := _, after := #[{ on := 4, ground := Ground.guard }], guard := some (4, true) }) (v := .int .i64 (i : Int)) rfl (by kernel_rfl) (by kernel_rfl) (by kernel_rfl) (fun _ _ _ h => h) (Or.inl ⟨by rfl, ?_⟩) hHeld ?_
                · intro u hu
                  go_simp
                try simp only [Act.put, List.setIfInBounds_toArray, List.set_cons_zero, List.set_cons_succ]
                refine wpAnyH_take (i := 14) (oi := { dst := some 38, op := Op.indexAddr 22 (Operand.tmp 36) (Operand.tmp 37), type := 0, pos := _, after := #[{ on := 12, ground := Ground.data }, { on := 13, ground := Ground.data }, { on := 4, ground := Ground.guard }], guard := some (4, true) }) (v := .pointer (some ⟨b, i * 9, none⟩)) rfl (by kernel_rfl) (by kernel_rfl) (by kernel_rfl) (fun _ _ _ h => h) (Or.inl ⟨by rfl, ?_⟩) hHeld ?_
                · intro u hu
                  go_simp
                try simp only [Act.put, List.setIfInBounds_toArray, List.set_cons_zero, List.set_cons_succ]
                refine wpAnyH_take (i := 15) (oi := { dst := some 39, op := Op.fieldAddr 40 (Operand.tmp 38) 1, type := 0, pos := _, after := #[{ on := 14, ground := Ground.data }, { on := 4, ground := Ground.guard }], guard := some (4, true) }) (v := .pointer (some ⟨b, i * 9 + 1, none⟩)) rfl (by kernel_rfl) (by kernel_rfl) (by kernel_rfl) (fun _ _ _ h => h) (Or.inl ⟨by rfl, ?_⟩) hHeld ?_
                · intro u hu
                  go_simp
                try simp only [Act.put, List.setIfInBounds_toArray, List.set_cons_zero, List.set_cons_succ]
                refine wpAnyH_take (i := 16) (oi := { dst := some 40, op := Op.load 3 (Operand.tmp 39), type := 3, pos := _, after := #[{ on := 15, ground := Ground.data }, { on := 4, ground := Ground.guard }], guard := some (4, true) }) (v := .int .i64 x) rfl (by kernel_rfl) (by kernel_rfl) (by kernel_rfl) (fun _ _ _ h => h) (Or.inl ⟨by rfl, ?_⟩) hHeld ?_
                · intro u hu
                  have x1 := (Stp.of_below hu (fun _ => False)).cell c1 id; go_simp
                try simp only [Act.put, List.setIfInBounds_toArray, List.set_cons_zero, List.set_cons_succ]
                refine wpAnyH_take (i := 17) (oi := { dst := some 41, op := Op.binOp BinOp.lss 3 (Operand.tmp 32) (Operand.tmp 40) 3, type := 4, pos := _, after := #[{ on := 8, ground := Ground.data }, { on := 16, ground := Ground.data }, { on := 4, ground := Ground.guard }], guard := some (4, true) }) (v := .bool false) rfl (by kernel_rfl) (by kernel_rfl) (by kernel_rfl) (fun _ _ _ h => h) (Or.inl ⟨by rfl, ?_⟩) hHeld ?_
                · intro u hu
                  go_simp
                try simp only [Act.put, List.setIfInBounds_toArray, List.set_cons_zero, List.set_cons_succ]
                refine wpAnyH_take (i := 18) (oi := { dst := some 42, op := Op.pick (Operand.tmp 28) (Operand.tmp 41) (Operand.const (Value.bool false)), type := 4, pos := _, after := #[{ on := 4, ground := Ground.data }, { on := 17, ground := Ground.data }], guard := none }) (v := .bool false) rfl (by kernel_rfl) (by kernel_rfl) (by kernel_rfl) (fun _ _ _ h => h) (Or.inl ⟨by rfl, ?_⟩) hHeld ?_
                · intro u hu
                  go_simp
                try simp only [Act.put, List.setIfInBounds_toArray, List.set_cons_zero, List.set_cons_succ]
                refine wpAnyH_done (by kernel_rfl) ?_ _
                have B9 := bnext Bj hHeld (Nat.le_refl _)
                go_wp2_with fail
                go_meet
                exact ⟨j, hj, rfl, hno, (fun y' hy' => by rw [hgy] at hy'; injection hy' with hy'; omega), B9⟩
            · have q9 : ¬ (j : Int) < (out.length : Int) := by omega
              go_wp2_with fail
              refine wp_region_held_drew (S := fun u => Below wr.heap.size wr u) (by kernel_rfl) (Below.refl _ _).drew (fun hHeld => ?_)
              refine wpAnyH_take (i := 0) (oi := { dst := some 24, op := Op.move (Operand.tmp 5), type := 3, pos := _, after := #[], guard := none }) (v := .int .i64 (j : Int)) rfl (by kernel_rfl) (by kernel_rfl) (by kernel_rfl) (fun _ _ _ h => h) (Or.inl ⟨by rfl, ?_⟩) hHeld ?_
              · intro u hu
                go_simp
              try simp only [Act.put, List.setIfInBounds_toArray, List.set_cons_zero, List.set_cons_succ]
              refine wpAnyH_take (i := 1) (oi := { dst := some 25, op := Op.move (Operand.tmp 3), type := 23, pos := _, after := #[], guard := none }) (v := .slice (some ⟨gb, 0, none⟩) out.length cap) rfl (by kernel_rfl) (by kernel_rfl) (by kernel_rfl) (fun _ _ _ h => h) (Or.inl ⟨by rfl, ?_⟩) hHeld ?_
              · intro u hu
                go_simp
              try simp only [Act.put, List.setIfInBounds_toArray, List.set_cons_zero, List.set_cons_succ]
              refine wpAnyH_take (i := 2) (oi := { dst := some 26, op := Op.call { callee := Callee.builtin Builtin.len, args := #[Operand.tmp 25], argTypes := #[23] }, type := 3, pos := _, after := #[{ on := 1, ground := Ground.data }], guard := none }) (v := .int .i64 (out.length : Int)) rfl (by kernel_rfl) (by kernel_rfl) (by kernel_rfl) (fun _ _ _ h => h) (Or.inl ⟨by rfl, ?_⟩) hHeld ?_
              · intro u hu
                go_simp
              try simp only [Act.put, List.setIfInBounds_toArray, List.set_cons_zero, List.set_cons_succ]
              refine wpAnyH_take (i := 3) (oi := { dst := some 27, op := Op.binOp BinOp.lss 3 (Operand.tmp 24) (Operand.tmp 26) 3, type := 4, pos := _, after := #[{ on := 0, ground := Ground.data }, { on := 2, ground := Ground.data }], guard := none }) (v := .bool false) rfl (by kernel_rfl) (by kernel_rfl) (by kernel_rfl) (fun _ _ _ h => h) (Or.inl ⟨by rfl, ?_⟩) hHeld ?_
              · intro u hu
                go_simp
              try simp only [Act.put, List.setIfInBounds_toArray, List.set_cons_zero, List.set_cons_succ]
              refine wpAnyH_take (i := 4) (oi := { dst := some 28, op := Op.move (Operand.tmp 27), type := 4, pos := _, after := #[{ on := 3, ground := Ground.data }], guard := none }) (v := .bool false) rfl (by kernel_rfl) (by kernel_rfl) (by kernel_rfl) (fun _ _ _ h => h) (Or.inl ⟨by rfl, ?_⟩) hHeld ?_
              · intro u hu
                go_simp
              try simp only [Act.put, List.setIfInBounds_toArray, List.set_cons_zero, List.set_cons_succ]
              refine wpAnyH_take (i := 5) (oi := { dst := some 29, op := Op.move (Operand.tmp 3), type := 23, pos := _, after := #[{ on := 4, ground := Ground.guard }], guard := some (4, true) }) (v := undef) rfl (by kernel_rfl) (by kernel_rfl) (by kernel_rfl) (fun _ _ _ h => h)
                (Or.inr ⟨by rfl, rfl⟩) hHeld ?_
              try simp only [Act.put, List.setIfInBounds_toArray, List.set_cons_zero, List.set_cons_succ]
              refine wpAnyH_take (i := 6) (oi := { dst := some 30, op := Op.move (Operand.tmp 5), type := 3, pos := _, after := #[{ on := 4, ground := Ground.guard }], guard := some (4, true) }) (v := undef) rfl (by kernel_rfl) (by kernel_rfl) (by kernel_rfl) (fun _ _ _ h => h)
                (Or.inr ⟨by rfl, rfl⟩) hHeld ?_
              try simp only [Act.put, List.setIfInBounds_toArray, List.set_cons_zero, List.set_cons_succ]
              refine wpAnyH_take (i := 7) (oi := { dst := some 31, op := Op.indexAddr 23 (Operand.tmp 29) (Operand.tmp 30), type := 0, pos := _, after := #[{ on := 5, ground := Ground.data }, { on := 6, ground := Ground.data }, { on := 4, ground := Ground.guard }], guard := some (4, true) }) (v := undef) rfl (by kernel_rfl) (by kernel_rfl) (by kernel_rfl) (fun _ _ _ h => h)
                (Or.inr ⟨by rfl, rfl⟩) hHeld ?_
              try simp only [Act.put, List.setIfInBounds_toArray, List.set_cons_zero, List.set_cons_succ]
              refine wpAnyH_take (i := 8) (oi := { dst := some 32, op := Op.load 3 (Operand.tmp 31), type := 3, pos := _, after := #[{ on := 7, ground := Ground.data }, { on := 4, ground := Ground.guard }], guard := some (4, true) }) (v := undef) rfl (by kernel_rfl) (by kernel_rfl) (by kernel_rfl) (fun _ _ _ h => h)
                (Or.inr ⟨by rfl, rfl⟩) hHeld ?_
              try simp only [Act.put, List.setIfInBounds_toArray, List.set_cons_zero, List.set_cons_succ]
              refine wpAnyH_take (i := 9) (oi := { dst := some 33, op := Op.move (Operand.tmp 0), type := 26, pos := _, after := #[{ on := 4, ground := Ground.guard }], guard := some (4, true) }) (v := undef) rfl (by kernel_rfl) (by kernel_rfl) (by kernel_rfl) (fun _ _ _ h => h)
                (Or.inr ⟨by rfl, rfl⟩) hHeld ?_
              try simp only [Act.put, List.setIfInBounds_toArray, List.set_cons_zero, List.set_cons_succ]
              refine wpAnyH_take (i := 10) (oi := { dst := some 34, op := Op.nilCheck (Operand.tmp 33), type := 0, pos := _, after := #[{ on := 9, ground := Ground.data }, { on := 4, ground := Ground.guard }], guard := some (4, true) }) (v := undef) rfl (by kernel_rfl) (by kernel_rfl) (by kernel_rfl) (fun _ _ _ h => h)
                (Or.inr ⟨by rfl, rfl⟩) hHeld ?_
              try simp only [Act.put, List.setIfInBounds_toArray, List.set_cons_zero, List.set_cons_succ]
              refine wpAnyH_take (i := 11) (oi := { dst := some 35, op := Op.fieldAddr 61 (Operand.tmp 34) 1, type := 0, pos := _, after := #[{ on := 10, ground := Ground.data }, { on := 4, ground := Ground.guard }], guard := some (4, true) }) (v := undef) rfl (by kernel_rfl) (by kernel_rfl) (by kernel_rfl) (fun _ _ _ h => h)
                (Or.inr ⟨by rfl, rfl⟩) hHeld ?_
              try simp only [Act.put, List.setIfInBounds_toArray, List.set_cons_zero, List.set_cons_succ]
              refine wpAnyH_take (i := 12) (oi := { dst := some 36, op := Op.load 22 (Operand.tmp 35), type := 22, pos := _, after := #[{ on := 11, ground := Ground.data }, { on := 4, ground := Ground.guard }], guard := some (4, true) }) (v := undef) rfl (by kernel_rfl) (by kernel_rfl) (by kernel_rfl) (fun _ _ _ h => h)
                (Or.inr ⟨by rfl, rfl⟩) hHeld ?_
              try simp only [Act.put, List.setIfInBounds_toArray, List.set_cons_zero, List.set_cons_succ]
              refine wpAnyH_take (i := 13) (oi := { dst := some 37, op := Op.move (Operand.tmp 4), type := 3, pos := _, after := #[{ on := 4, ground := Ground.guard }], guard := some (4, true) }) (v := undef) rfl (by kernel_rfl) (by kernel_rfl) (by kernel_rfl) (fun _ _ _ h => h)
                (Or.inr ⟨by rfl, rfl⟩) hHeld ?_
              try simp only [Act.put, List.setIfInBounds_toArray, List.set_cons_zero, List.set_cons_succ]
              refine wpAnyH_take (i := 14) (oi := { dst := some 38, op := Op.indexAddr 22 (Operand.tmp 36) (Operand.tmp 37), type := 0, pos := _, after := #[{ on := 12, ground := Ground.data }, { on := 13, ground := Ground.data }, { on := 4, ground := Ground.guard }], guard := some (4, true) }) (v := undef) rfl (by kernel_rfl) (by kernel_rfl) (by kernel_rfl) (fun _ _ _ h => h)
                (Or.inr ⟨by rfl, rfl⟩) hHeld ?_
              try simp only [Act.put, List.setIfInBounds_toArray, List.set_cons_zero, List.set_cons_succ]
              refine wpAnyH_take (i := 15) (oi := { dst := some 39, op := Op.fieldAddr 40 (Operand.tmp 38) 1, type := 0, pos := _, after := #[{ on := 14, ground := Ground.data }, { on := 4, ground := Ground.guard }], guard := some (4, true) }) (v := undef) rfl (by kernel_rfl) (by kernel_rfl) (by kernel_rfl) (fun _ _ _ h => h)
                (Or.inr ⟨by rfl, rfl⟩) hHeld ?_
              try simp only [Act.put, List.setIfInBounds_toArray, List.set_cons_zero, List.set_cons_succ]
              refine wpAnyH_take (i := 16) (oi := { dst := some 40, op := Op.load 3 (Operand.tmp 39), type := 3, pos := _, after := #[{ on := 15, ground := Ground.data }, { on := 4, ground := Ground.guard }], guard := some (4, true) }) (v := undef) rfl (by kernel_rfl) (by kernel_rfl) (by kernel_rfl) (fun _ _ _ h => h)
                (Or.inr ⟨by rfl, rfl⟩) hHeld ?_
              try simp only [Act.put, List.setIfInBounds_toArray, List.set_cons_zero, List.set_cons_succ]
              refine wpAnyH_take (i := 17) (oi := { dst := some 41, op := Op.binOp BinOp.lss 3 (Operand.tmp 32) (Operand.tmp 40) 3, type := 4, pos := _, after := #[{ on := 8, ground := Ground.data }, { on := 16, ground := Ground.data }, { on := 4, ground := Ground.guard }], guard := some (4, true) }) (v := undef) rfl (by kernel_rfl) (by kernel_rfl) (by kernel_rfl) (fun _ _ _ h => h)
                (Or.inr ⟨by rfl, rfl⟩) hHeld ?_
              try simp only [Act.put, List.setIfInBounds_toArray, List.set_cons_zero, List.set_cons_succ]
              refine wpAnyH_take (i := 18) (oi := { dst := some 42, op := Op.pick (Operand.tmp 28) (Operand.tmp 41) (Operand.const (Value.bool false)), type := 4, pos := _, after := #[{ on := 4, ground := Ground.data }, { on := 17, ground := Ground.data }], guard := none }) (v := .bool false) rfl (by kernel_rfl) (by kernel_rfl) (by kernel_rfl) (fun _ _ _ h => h) (Or.inl ⟨by rfl, ?_⟩) hHeld ?_
              · intro u hu
                go_simp
              try simp only [Act.put, List.setIfInBounds_toArray, List.set_cons_zero, List.set_cons_succ]
              refine wpAnyH_done (by kernel_rfl) ?_ _
              have B9 := bnext Bj hHeld (Nat.le_refl _)
              go_wp2_with fail
              go_meet
              exact ⟨j, hj, rfl, hno, (fun y' hy' => by rw [List.getElem?_eq_none (by omega)] at hy'; cases hy'), B9⟩
        case rest =>
          obtain ⟨j, hj, rfl, hno, hge, Bj⟩ := hcut
          have hins : Hid (insU out x = if insQ out j x = true then out.take j ++ x :: out.drop j else out) := insU_cut hno hge
          have z1j := (Stp.of_below Bj (fun _ => False)).cell z1 id
          have c1j := (Stp.of_below Bj (fun _ => False)).cell c1 id
          have Ij := I.later Bj
          clear hno hge z1 c1 z0
          have q8 : (0 : Int) ≤ (j : Int) := by omega
          go_upto_region 9 with fail
          go_cut [63] from 7 to 82 (fun u wx => u = .bool (insQ out j x) ∧ Below wc.heap.size wc wx)
          case first =>
            have z1 := z1j
            have c1 := c1j
            by_cases hjl : j < out.length
            · have q9 : ¬ (j : Int) = (out.length : Int) := by omega
              have q7 : (j : Int) < (out.length : Int) := by omega
              have cy := (Stp.of_below Bj (fun _ => False)).cell (hrow.cell j hjl) id
              have hgy : out[j]? = some (out.getD j 0) := by rw [List.getElem?_eq_getElem hjl, List.getD_eq_getElem?_getD, List.getElem?_eq_getElem hjl]; rfl
              generalize out.getD j 0 = y at *
              refine wp_region_held_drew (S := fun u => Below wc.heap.size wc u) (by kernel_rfl) (Below.refl _ _).drew (fun hHeld => ?_)
              by_cases hyx : y = x
              · have hQ : Hid (insQ out j x = false) := (by unfold insQ; rw [hgy, hyx]; simp : insQ out j x = false)
                refine wpAnyH_take (i := 0) (oi := { dst := some 45, op := Op.move (Operand.tmp 5), type := 3, pos := _, after := #[], guard := none }) (v := .int .i64 (j : Int)) rfl (by kernel_rfl) (by kernel_rfl) (by kernel_rfl) (fun _ _ _ h => h) (Or.inl ⟨by rfl, ?_⟩) hHeld ?_
                · intro u hu
                  go_simp
                try simp only [Act.put, List.setIfInBounds_toArray, List.set_cons_zero, List.set_cons_succ]
                refine wpAnyH_take (i := 1) (oi := { dst := some 46, op := Op.move (Operand.tmp 3), type := 23, pos := _, after := #[], guard := none }) (v := .slice (some ⟨gb, 0, none⟩) out.length cap) rfl (by kernel_rfl) (by kernel_rfl) (by kernel_rfl) (fun _ _ _ h => h) (Or.inl ⟨by rfl, ?_⟩) hHeld ?_
                · intro u hu
                  go_simp
                try simp only [Act.put, List.setIfInBounds_toArray, List.set_cons_zero, List.set_cons_succ]
                refine wpAnyH_take (i := 2) (oi := { dst := some 47, op := Op.call { callee := Callee.builtin Builtin.len, args := #[Operand.tmp 46], argTypes := #[23] }, type := 3, pos := _, after := #[{ on := 1, ground := Ground.data }], guard := none }) (v := .int .i64 (out.length : Int)) rfl (by kernel_rfl) (by kernel_rfl) (by kernel_rfl) (fun _ _ _ h => h) (Or.inl ⟨by rfl, ?_⟩) hHeld ?_
                · intro u hu
                  go_simp
                try simp only [Act.put, List.setIfInBounds_toArray, List.set_cons_zero, List.set_cons_succ]
                refine wpAnyH_take (i := 3) (oi := { dst := some 48, op := Op.binOp BinOp.eql 3 (Operand.tmp 45) (Operand.tmp 47) 3, type := 4, pos := _, after := #[{ on := 0, ground := Ground.data }, { on := 2, ground := Ground.data }], guard := none }) (v := .bool false) rfl (by kernel_rfl) (by kernel_rfl) (by kernel_rfl) (fun _ _ _ h => h) (Or.inl ⟨by rfl, ?_⟩) hHeld ?_
                · intro u hu
                  go_simp
                try simp only [Act.put, List.setIfInBounds_toArray, List.set_cons_zero, List.set_cons_succ]
                refine wpAnyH_take (i := 4) (oi := { dst := some 49, op := Op.move (Operand.tmp 48), type := 4, pos := _, after := #[{ on := 3, ground := Ground.data }], guard := none }) (v := .bool false) rfl (by kernel_rfl) (by kernel_rfl) (by kernel_rfl) (fun _ _ _ h => h) (Or.inl ⟨by rfl, ?_⟩) hHeld ?_
                · intro u hu
                  go_simp
                try simp only [Act.put, List.setIfInBounds_toArray, List.set_cons_zero, List.set_cons_succ]
                refine wpAnyH_take (i := 5) (oi := { dst := some 50, op := Op.move (Operand.tmp 3), type := 23, pos := _, after := #[{ on := 4, ground := Ground.guard }], guard := some (4, false) }) (v := .slice (some ⟨gb, 0, none⟩) out.length cap) rfl (by kernel_rfl) (by kernel_rfl) (by kernel_rfl) (fun _ _ _ h => h) (Or.inl ⟨by rfl, ?_⟩) hHeld ?_
                · intro u hu
                  go_simp
                try simp only [Act.put, List.setIfInBounds_toArray, List.set_cons_zero, List.set_cons_succ]
                refine wpAnyH_take (i := 6) (oi := { dst := some 51, op := Op.move (Operand.tmp 5), type := 3, pos := _, after := #[{ on := 4, ground := Ground.guard }], guard := some (4, false) }) (v := .int .i64 (j : Int)) rfl (by kernel_rfl) (by kernel_rfl) (by kernel_rfl) (fun _ _ _ h => h) (Or.inl ⟨by rfl, ?_⟩) hHeld ?_
                · intro u hu
                  go_simp
                try simp only [Act.put, List.setIfInBounds_toArray, List.set_cons_zero, List.set_cons_succ]
                refine wpAnyH_take (i := 7) (oi := { dst := some 52, op := Op.indexAddr 23 (Operand.tmp 50) (Operand.tmp 51), type := 0, pos := _, after := #[{ on := 5, ground := Ground.data }, { on := 6, ground := Ground.data }, { on := 4, ground := Ground.guard }], guard := some (4, false) }) (v := .pointer (some ⟨gb, j, none⟩)) rfl (by kernel_rfl) (by kernel_rfl) (by kernel_rfl) (fun _ _ _ h => h) (Or.inl ⟨by rfl, ?_⟩) hHeld ?_
                · intro u hu
                  go_simp
                try simp only [Act.put, List.setIfInBounds_toArray, List.set_cons_zero, List.set_cons_succ]
                refine wpAnyH_take (i := 8) (oi := { dst := some 53, op := Op.load 3 (Operand.tmp 52), type := 3, pos := _, after := #[{ on := 7, ground := Ground.data }, { on := 4, ground := Ground.guard }], guard := some (4, false) }) (v := .int .i64 y) rfl (by kernel_rfl) (by kernel_rfl) (by kernel_rfl) (fun _ _ _ h => h) (Or.inl ⟨by rfl, ?_⟩) hHeld ?_
                · intro u hu
                  have x1 := (Stp.of_below hu (fun _ => False)).cell cy id; go_simp
                try simp only [Act.put, List.setIfInBounds_toArray, List.set_cons_zero, List.set_cons_succ]
                refine wpAnyH_take (i := 9) (oi := { dst := some 54, op := Op.move (Operand.tmp 0), type := 26, pos := _, after := #[{ on := 4, ground := Ground.guard }], guard := some (4, false) }) (v := .pointer (some ⟨g, 0, none⟩)) rfl (by kernel_rfl) (by kernel_rfl) (by kernel_rfl) (fun _ _ _ h => h) (Or.inl ⟨by rfl, ?_⟩) hHeld ?_
                · intro u hu
                  go_simp
                try simp only [Act.put, List.setIfInBounds_toArray, List.set_cons_zero, List.set_cons_succ]
                refine wpAnyH_take (i := 10) (oi := { dst := some 55, op := Op.nilCheck (Operand.tmp 54), type := 0, pos := _, after := #[{ on := 9, ground := Ground.data }, { on := 4, ground := Ground.guard }], guard := some (4, false) }) (v := .pointer (some ⟨g, 0, none⟩)) rfl (by kernel_rfl) (by kernel_rfl) (by kernel_rfl) (fun _ _ _ h => h) (Or.inl ⟨by rfl, ?_⟩) hHeld ?_
                · intro u hu
                  go_simp
                try simp only [Act.put, List.setIfInBounds_toArray, List.set_cons_zero, List.set_cons_succ]
                refine wpAnyH_take (i := 11) (oi := { dst := some 56, op := Op.fieldAddr 61 (Operand.tmp 55) 1, type := 0, pos := _, after := #[{ on := 10, ground := Ground.data }, { on := 4, ground := Ground.guard }], guard := some (4, false) }) (v := .pointer (some ⟨g, 1, none⟩)) rfl (by kernel_rfl) (by kernel_rfl) (by kernel_rfl) (fun _ _ _ h => h) (Or.inl ⟨by rfl, ?_⟩) hHeld ?_
                · intro u hu
                  go_simp
                try simp only [Act.put, List.setIfInBounds_toArray, List.set_cons_zero, List.set_cons_succ]
                refine wpAnyH_take (i := 12) (oi := { dst := some 57, op := Op.load 22 (Operand.tmp 56), type := 22, pos := _, after := #[{ on := 11, ground := Ground.data }, { on := 4, ground := Ground.guard }], guard := some (4, false) }) (v := .slice (some ⟨b, 0, none⟩) L.length c) rfl (by kernel_rfl) (by kernel_rfl) (by kernel_rfl) (fun _ _ _ h => h) (Or.inl ⟨by rfl, ?_⟩) hHeld ?_
                · intro u hu
                  have x1 := (Stp.of_below hu (fun _ => False)).cell z1 id; go_simp
                try simp only [Act.put, List.setIfInBounds_toArray, List.set_cons_zero, List.set_cons_succ]
                refine wpAnyH_take (i := 13) (oi := { dst := some 58, op := Op.move (Operand.tmp 4), type := 3, pos := _, after := #[{ on := 4, ground := Ground.guard }], guard := some (4, false) }) (v := .int .i64 (i : Int)) rfl (by kernel_rfl) (by kernel_rfl) (by kernel_rfl) (fun _ _ _ h => h) (Or.inl ⟨by rfl, ?_⟩) hHeld ?_
                · intro u hu
                  go_simp
                try simp only [Act.put, List.setIfInBounds_toArray, List.set_cons_zero, List.set_cons_succ]
                refine wpAnyH_take (i := 14) (oi := { dst := some 59, op := Op.indexAddr 22 (Operand.tmp 57) (Operand.tmp 58), type := 0, pos := _, after := #[{ on := 12, ground := Ground.data }, { on := 13, ground := Ground.data }, { on := 4, ground := Ground.guard }], guard := some (4, false) }) (v := .pointer (some ⟨b, i * 9, none⟩)) rfl (by kernel_rfl) (by kernel_rfl) (by kernel_rfl) (fun _ _ _ h => h) (Or.inl ⟨by rfl, ?_⟩) hHeld ?_
                · intro u hu
                  go_simp
                try simp only [Act.put, List.setIfInBounds_toArray, List.set_cons_zero, List.set_cons_succ]
                refine wpAnyH_take (i := 15) (oi := { dst := some 60, op := Op.fieldAddr 40 (Operand.tmp 59) 1, type := 0, pos := _, after := #[{ on := 14, ground := Ground.data }, { on := 4, ground := Ground.guard }], guard := some (4, false) }) (v := .pointer (some ⟨b, i * 9 + 1, none⟩)) rfl (by kernel_rfl) (by kernel_rfl) (by kernel_rfl) (fun _ _ _ h => h) (Or.inl ⟨by rfl, ?_⟩) hHeld ?_
                · intro u hu
                  go_simp
                try simp only [Act.put, List.setIfInBounds_toArray, List.set_cons_zero, List.set_cons_succ]
                refine wpAnyH_take (i := 16) (oi := { dst := some 61, op := Op.load 3 (Operand.tmp 60), type := 3, pos := _, after := #[{ on := 15, ground := Ground.data }, { on := 4, ground := Ground.guard }], guard := some (4, false) }) (v := .int .i64 x) rfl (by kernel_rfl) (by kernel_rfl) (by kernel_rfl) (fun _ _ _ h => h) (Or.inl ⟨by rfl, ?_⟩) hHeld ?_
                · intro u hu
                  have x1 := (Stp.of_below hu (fun _ => False)).cell c1 id; go_simp
                try simp only [Act.put, List.setIfInBounds_toArray, List.set_cons_zero, List.set_cons_succ]
                refine wpAnyH_take (i := 17) (oi := { dst := some 62, op := Op.binOp BinOp.neq 3 (Operand.tmp 53) (Operand.tmp 61) 3, type := 4, pos := _, after := #[{ on := 8, ground := Ground.data }, { on := 16, ground := Ground.data }, { on := 4, ground := Ground.guard }], guard := some (4, false) }) (v := .bool false) rfl (by kernel_rfl) (by kernel_rfl) (by kernel_rfl) (fun _ _ _ h => h) (Or.inl ⟨by rfl, ?_⟩) hHeld ?_
                · intro u hu
                  go_simp
                try simp only [Act.put, List.setIfInBounds_toArray, List.set_cons_zero, List.set_cons_succ]
                refine wpAnyH_take (i := 18) (oi := { dst := some 63, op := Op.pick (Operand.tmp 49) (Operand.const (Value.bool true)) (Operand.tmp 62), type := 4, pos := _, after := #[{ on := 4, ground := Ground.data }, { on := 17, ground := Ground.data }], guard := none }) (v := .bool false) rfl (by kernel_rfl) (by kernel_rfl) (by kernel_rfl) (fun _ _ _ h => h) (Or.inl ⟨by rfl, ?_⟩) hHeld ?_
                · intro u hu
                  go_simp
                try simp only [Act.put, List.setIfInBounds_toArray, List.set_cons_zero, List.set_cons_succ]
                refine wpAnyH_done (by kernel_rfl) ?_ _
                go_wp2_with fail
                go_meet
                exact ⟨by rw [hQ.out], hHeld⟩
              · have hQ : Hid (insQ out j x = true) := (by unfold insQ; rw [hgy]; simp [hyx] : insQ out j x = true)
                refine wpAnyH_take (i := 0) (oi := { dst := some 45, op := Op.move (Operand.tmp 5), type := 3, pos := _, after := #[], guard := none }) (v := .int .i64 (j : Int)) rfl (by kernel_rfl) (by kernel_rfl) (by kernel_rfl) (fun _ _ _ h => h) (Or.inl ⟨by rfl, ?_⟩) hHeld ?_
                · intro u hu
                  go_simp
                try simp only [Act.put, List.setIfInBounds_toArray, List.set_cons_zero, List.set_cons_succ]
                refine wpAnyH_take (i := 1) (oi := { dst := some 46, op := Op.move (Operand.tmp 3), type := 23, pos := _, after := #[], guard := none }) (v := .slice (some ⟨gb, 0, none⟩) out.length cap) rfl (by kernel_rfl) (by kernel_rfl) (by kernel_rfl) (fun _ _ _ h => h) (Or.inl ⟨by rfl, ?_⟩) hHeld ?_
                · intro u hu
                  go_simp
                try simp only [Act.put, List.setIfInBounds_toArray, List.set_cons_zero, List.set_cons_succ]
                refine wpAnyH_take (i := 2) (oi := { dst := some 47, op := Op.call { callee := Callee.builtin Builtin.len, args := #[Operand.tmp 46], argTypes := #[23] }, type := 3, pos := _, after := #[{ on := 1, ground := Ground.data }], guard := none }) (v := .int .i64 (out.length : Int)) rfl (by kernel_rfl) (by kernel_rfl) (by kernel_rfl) (fun _ _ _ h => h) (Or.inl ⟨by rfl, ?_⟩) hHeld ?_
                · intro u hu
                  go_simp
                try simp only [Act.put, List.setIfInBounds_toArray, List.set_cons_zero, List.set_cons_succ]
                refine wpAnyH_take (i := 3) (oi := { dst := some 48, op := Op.binOp BinOp.eql 3 (Operand.tmp 45) (Operand.tmp 47) 3, type := 4, pos := _, after := #[{ on := 0, ground := Ground.data }, { on := 2, ground := Ground.data }], guard := none }) (v := .bool false) rfl (by kernel_rfl) (by kernel_rfl) (by kernel_rfl) (fun _ _ _ h => h) (Or.inl ⟨by rfl, ?_⟩) hHeld ?_
                · intro u hu
                  go_simp
                try simp only [Act.put, List.setIfInBounds_toArray, List.set_cons_zero, List.set_cons_succ]
                refine wpAnyH_take (i := 4) (oi := { dst := some 49, op := Op.move (Operand.tmp 48), type := 4, pos := _, after := #[{ on := 3, ground := Ground.data }], guard := none }) (v := .bool false) rfl (by kernel_rfl) (by kernel_rfl) (by kernel_rfl) (fun _ _ _ h => h) (Or.inl ⟨by rfl, ?_⟩) hHeld ?_
                · intro u hu
                  go_simp
                try simp only [Act.put, List.setIfInBounds_toArray, List.set_cons_zero, List.set_cons_succ]
                refine wpAnyH_take (i := 5) (oi := { dst := some 50, op := Op.move (Operand.tmp 3), type := 23, pos := _, after := #[{ on := 4, ground := Ground.guard }], guard := some (4, false) }) (v := .slice (some ⟨gb, 0, none⟩) out.length cap) rfl (by kernel_rfl) (by kernel_rfl) (by kernel_rfl) (fun _ _ _ h => h) (Or.inl ⟨by rfl, ?_⟩) hHeld ?_
                · intro u hu
                  go_simp
                try simp only [Act.put, List.setIfInBounds_toArray, List.set_cons_zero, List.set_cons_succ]
                refine wpAnyH_take (i := 6) (oi := { dst := some 51, op := Op.move (Operand.tmp 5), type := 3, pos := _, after := #[{ on := 4, ground := Ground.guard }], guard := some (4, false) }) (v := .int .i64 (j : Int)) rfl (by kernel_rfl) (by kernel_rfl) (by kernel_rfl) (fun _ _ _ h => h) (Or.inl ⟨by rfl, ?_⟩) hHeld ?_
                · intro u hu
                  go_simp
                try simp only [Act.put, List.setIfInBounds_toArray, List.set_cons_zero, List.set_cons_succ]
                refine wpAnyH_take (i := 7) (oi := { dst := some 52, op := Op.indexAddr 23 (Operand.tmp 50) (Operand.tmp 51), type := 0, pos := _, after := #[{ on := 5, ground := Ground.data }, { on := 6, ground := Ground.data }, { on := 4, ground := Ground.guard }], guard := some (4, false) }) (v := .pointer (some ⟨gb, j, none⟩)) rfl (by kernel_rfl) (by kernel_rfl) (by kernel_rfl) (fun _ _ _ h => h) (Or.inl ⟨by rfl, ?_⟩) hHeld ?_
                · intro u hu
                  go_simp
                try simp only [Act.put, List.setIfInBounds_toArray, List.set_cons_zero, List.set_cons_succ]
                refine wpAnyH_take (i := 8) (oi := { dst := some 53, op := Op.load 3 (Operand.tmp 52), type := 3, pos := _, after := #[{ on := 7, ground := Ground.data }, { on := 4, ground := Ground.guard }], guard := some (4, false) }) (v := .int .i64 y) rfl (by kernel_rfl) (by kernel_rfl) (by kernel_rfl) (fun _ _ _ h => h) (Or.inl ⟨by rfl, ?_⟩) hHeld ?_
                · intro u hu
                  have x1 := (Stp.of_below hu (fun _ => False)).cell cy id; go_simp
                try simp only [Act.put, List.setIfInBounds_toArray, List.set_cons_zero, List.set_cons_succ]
                refine wpAnyH_take (i := 9) (oi := { dst := some 54, op := Op.move (Operand.tmp 0), type := 26, pos := _, after := #[{ on := 4, ground := Ground.guard }], guard := some (4, false) }) (v := .pointer (some ⟨g, 0, none⟩)) rfl (by kernel_rfl) (by kernel_rfl) (by kernel_rfl) (fun _ _ _ h => h) (Or.inl ⟨by rfl, ?_⟩) hHeld ?_
                · intro u hu
                  go_simp
                try simp only [Act.put, List.setIfInBounds_toArray, List.set_cons_zero, List.set_cons_succ]
                refine wpAnyH_take (i := 10) (oi := { dst := some 55, op := Op.nilCheck (Operand.tmp 54), type := 0, pos := _, after := #[{ on := 9, ground := Ground.data }, { on := 4, ground := Ground.guard }], guard := some (4, false) }) (v := .pointer (some ⟨g, 0, none⟩)) rfl (by kernel_rfl) (by kernel_rfl) (by kernel_rfl) (fun _ _ _ h => h) (Or.inl ⟨by rfl, ?_⟩) hHeld ?_
                · intro u hu
                  go_simp
                try simp only [Act.put, List.setIfInBounds_toArray, List.set_cons_zero, List.set_cons_succ]
                refine wpAnyH_take (i := 11) (oi := { dst := some 56, op := Op.fieldAddr 61 (Operand.tmp 55) 1, type := 0, pos := _, after := #[{ on := 10, ground := Ground.data }, { on := 4, ground := Ground.guard }], guard := some (4, false) }) (v := .pointer (some ⟨g, 1, none⟩)) rfl (by kernel_rfl) (by kernel_rfl) (by kernel_rfl) (fun _ _ _ h => h) (Or.inl ⟨by rfl, ?_⟩) hHeld ?_
                · intro u hu
                  go_simp
                try simp only [Act.put, List.setIfInBounds_toArray, List.set_cons_zero, List.set_cons_succ]
                refine wpAnyH_take (i := 12) (oi := { dst := some 57, op := Op.load 22 (Operand.tmp 56), type := 22, pos := _, after := #[{ on := 11, ground := Ground.data }, { on := 4, ground := Ground.guard }], guard := some (4, false) }) (v := .slice (some ⟨b, 0, none⟩) L.length c) rfl (by kernel_rfl) (by kernel_rfl) (by kernel_rfl) (fun _ _ _ h => h) (Or.inl ⟨by rfl, ?_⟩) hHeld ?_
                · intro u hu
                  have x1 := (Stp.of_below hu (fun _ => False)).cell z1 id; go_simp
                try simp only [Act.put, List.setIfInBounds_toArray, List.set_cons_zero, List.set_cons_succ]
                refine wpAnyH_take (i := 13) (oi := { dst := some 58, op := Op.move (Operand.tmp 4), type := 3, pos := _, after := #[{ on := 4, ground := Ground.guard }], guard := some (4, false) }) (v := .int .i64 (i : Int)) rfl (by kernel_rfl) (by kernel_rfl) (by kernel_rfl) (fun _ _ _ h => h) (Or.inl ⟨by rfl, ?_⟩) hHeld ?_
                · intro u hu
                  go_simp
                try simp only [Act.put, List.setIfInBounds_toArray, List.set_cons_zero, List.set_cons_succ]
                refine wpAnyH_take (i := 14) (oi := { dst := some 59, op := Op.indexAddr 22 (Operand.tmp 57) (Operand.tmp 58), type := 0, pos := _, after := #[{ on := 12, ground := Ground.data }, { on := 13, ground := Ground.data }, { on := 4, ground := Ground.guard }], guard := some (4, false) }) (v := .pointer (some ⟨b, i * 9, none⟩)) rfl (by kernel_rfl) (by kernel_rfl) (by kernel_rfl) (fun _ _ _ h => h) (Or.inl ⟨by rfl, ?_⟩) hHeld ?_
                · intro u hu
                  go_simp
                try simp only [Act.put, List.setIfInBounds_toArray, List.set_cons_zero, List.set_cons_succ]
                refine wpAnyH_take (i := 15) (oi := { dst := some 60, op := Op.fieldAddr 40 (Operand.tmp 59) 1, type := 0, pos := _, after := #[{ on := 14, ground := Ground.data }, { on := 4, ground := Ground.guard }], guard := some (4, false) }) (v := .pointer (some ⟨b, i * 9 + 1, none⟩)) rfl (by kernel_rfl) (by kernel_rfl) (by kernel_rfl) (fun _ _ _ h => h) (Or.inl ⟨by rfl, ?_⟩) hHeld ?_
                · intro u hu
                  go_simp
                try simp only [Act.put, List.setIfInBounds_toArray, List.set_cons_zero, List.set_cons_succ]
                refine wpAnyH_take (i := 16) (oi := { dst := some 61, op := Op.load 3 (Operand.tmp 60), type := 3, pos := _, after := #[{ on := 15, ground := Ground.data }, { on := 4, ground := Ground.guard }], guard := some (4, false) }) (v := .int .i64 x) rfl (by kernel_rfl) (by kernel_rfl) (by kernel_rfl) (fun _ _ _ h => h) (Or.inl ⟨by rfl, ?_⟩) hHeld ?_
                · intro u hu
                  have x1 := (Stp.of_below hu (fun _ => False)).cell c1 id; go_simp
                try simp only [Act.put, List.setIfInBounds_toArray, List.set_cons_zero, List.set_cons_succ]
                refine wpAnyH_take (i := 17) (oi := { dst := some 62, op := Op.binOp BinOp.neq 3 (Operand.tmp 53) (Operand.tmp 61) 3, type := 4, pos := _, after := #[{ on := 8, ground := Ground.data }, { on := 16, ground := Ground.data }, { on := 4, ground := Ground.guard }], guard := some (4, false) }) (v := .bool true) rfl (by kernel_rfl) (by kernel_rfl) (by kernel_rfl) (fun _ _ _ h => h) (Or.inl ⟨by rfl, ?_⟩) hHeld ?_
                · intro u hu
                  go_simp
                try simp only [Act.put, List.setIfInBounds_toArray, List.set_cons_zero, List.set_cons_succ]
                refine wpAnyH_take (i := 18) (oi := { dst := some 63, op := Op.pick (Operand.tmp 49) (Operand.const (Value.bool true)) (Operand.tmp 62), type := 4, pos := _, after := #[{ on := 4, ground := Ground.data }, { on := 17, ground := Ground.data }], guard := none }) (v := .bool true) rfl (by kernel_rfl) (by kernel_rfl) (by kernel_rfl) (fun _ _ _ h => h) (Or.inl ⟨by rfl, ?_⟩) hHeld ?_
                · intro u hu
                  go_simp
                try simp only [Act.put, List.setIfInBounds_toArray, List.set_cons_zero, List.set_cons_succ]
                refine wpAnyH_done (by kernel_rfl) ?_ _
                go_wp2_with fail
                go_meet
                exact ⟨by rw [hQ.out], hHeld⟩
            · have ej : j = out.length := by omega
              have q9 : (j : Int) = (out.length : Int) := by omega
              have hQ : Hid (insQ out j x = true) := (by unfold insQ; rw [List.getElem?_eq_none (by omega)]; simp : insQ out j x = true)
              clear ej
              refine wp_region_held_drew (S := fun u => Below wc.heap.size wc u) (by kernel_rfl) (Below.refl _ _).drew (fun hHeld => ?_)
              refine wpAnyH_take (i := 0) (oi := { dst := some 45, op := Op.move (Operand.tmp 5), type := 3, pos := _, after := #[], guard := none }) (v := .int .i64 (j : Int)) rfl (by kernel_rfl) (by kernel_rfl) (by kernel_rfl) (fun _ _ _ h => h) (Or.inl ⟨by rfl, ?_⟩) hHeld ?_
              · intro u hu
                go_simp
              try simp only [Act.put, List.setIfInBounds_toArray, List.set_cons_zero, List.set_cons_succ]
              refine wpAnyH_take (i := 1) (oi := { dst := some 46, op := Op.move (Operand.tmp 3), type := 23, pos := _, after := #[], guard := none }) (v := .slice (some ⟨gb, 0, none⟩) out.length cap) rfl (by kernel_rfl) (by kernel_rfl) (by kernel_rfl) (fun _ _ _ h => h) (Or.inl ⟨by rfl, ?_⟩) hHeld ?_
              · intro u hu
                go_simp
              try simp only [Act.put, List.setIfInBounds_toArray, List.set_cons_zero, List.set_cons_succ]
              refine wpAnyH_take (i := 2) (oi := { dst := some 47, op := Op.call { callee := Callee.builtin Builtin.len, args := #[Operand.tmp 46], argTypes := #[23] }, type := 3, pos := _, after := #[{ on := 1, ground := Ground.data }], guard := none }) (v := .int .i64 (out.length : Int)) rfl (by kernel_rfl) (by kernel_rfl) (by kernel_rfl) (fun _ _ _ h => h) (Or.inl ⟨by rfl, ?_⟩) hHeld ?_
              · intro u hu
                go_simp
              try simp only [Act.put, List.setIfInBounds_toArray, List.set_cons_zero, List.set_cons_succ]
              refine wpAnyH_take (i := 3) (oi := { dst := some 48, op := Op.binOp BinOp.eql 3 (Operand.tmp 45) (Operand.tmp 47) 3, type := 4, pos := _, after := #[{ on := 0, ground := Ground.data }, { on := 2, ground := Ground.data }], guard := none }) (v := .bool true) rfl (by kernel_rfl) (by kernel_rfl) (by kernel_rfl) (fun _ _ _ h => h) (Or.inl ⟨by rfl, ?_⟩) hHeld ?_
              · intro u hu
                go_simp
              try simp only [Act.put, List.setIfInBounds_toArray, List.set_cons_zero, List.set_cons_succ]
              refine wpAnyH_take (i := 4) (oi := { dst := some 49, op := Op.move (Operand.tmp 48), type := 4, pos := _, after := #[{ on := 3, ground := Ground.data }], guard := none }) (v := .bool true) rfl (by kernel_rfl) (by kernel_rfl) (by kernel_rfl) (fun _ _ _ h => h) (Or.inl ⟨by rfl, ?_⟩) hHeld ?_
              · intro u hu
                go_simp
              try simp only [Act.put, List.setIfInBounds_toArray, List.set_cons_zero, List.set_cons_succ]
              refine wpAnyH_take (i := 5) (oi := { dst := some 50, op := Op.move (Operand.tmp 3), type := 23, pos := _, after := #[{ on := 4, ground := Ground.guard }], guard := some (4, false) }) (v := undef) rfl (by kernel_rfl) (by kernel_rfl) (by kernel_rfl) (fun _ _ _ h => h)
                (Or.inr ⟨by rfl, rfl⟩) hHeld ?_
              try simp only [Act.put, List.setIfInBounds_toArray, List.set_cons_zero, List.set_cons_succ]
              refine wpAnyH_take (i := 6) (oi := { dst := some 51, op := Op.move (Operand.tmp 5), type := 3, pos := _, after := #[{ on := 4, ground := Ground.guard }], guard := some (4, false) }) (v := undef) rfl (by kernel_rfl) (by kernel_rfl) (by kernel_rfl) (fun _ _ _ h => h)
                (Or.inr ⟨by rfl, rfl⟩) hHeld ?_
              try simp only [Act.put, List.setIfInBounds_toArray, List.set_cons_zero, List.set_cons_succ]
              refine wpAnyH_take (i := 7) (oi := { dst := some 52, op := Op.indexAddr 23 (Operand.tmp 50) (Operand.tmp 51), type := 0, pos := _, after := #[{ on := 5, ground := Ground.data }, { on := 6, ground := Ground.data }, { on := 4, ground := Ground.guard }], guard := some (4, false) }) (v := undef) rfl (by kernel_rfl) (by kernel_rfl) (by kernel_rfl) (fun _ _ _ h => h)
                (Or.inr ⟨by rfl, rfl⟩) hHeld ?_
              try simp only [Act.put, List.setIfInBounds_toArray, List.set_cons_zero, List.set_cons_succ]
              refine wpAnyH_take (i := 8) (oi := { dst := some 53, op := Op.load 3 (Operand.tmp 52), type := 3, pos := _, after := #[{ on := 7, ground := Ground.data }, { on := 4, ground := Ground.guard }], guard := some (4, false) }) (v := undef) rfl (by kernel_rfl) (by kernel_rfl) (by kernel_rfl) (fun _ _ _ h => h)
                (Or.inr ⟨by rfl, rfl⟩) hHeld ?_
              try simp only [Act.put, List.setIfInBounds_toArray, List.set_cons_zero, List.set_cons_succ]
              refine wpAnyH_take (i := 9) (oi := { dst := some 54, op := Op.move (Operand.tmp 0), type := 26, pos := _, after := #[{ on := 4, ground := Ground.guard }], guard := some (4, false) }) (v := undef) rfl (by kernel_rfl) (by kernel_rfl) (by kernel_rfl) (fun _ _ _ h => h)
                (Or.inr ⟨by rfl, rfl⟩) hHeld ?_
              try simp only [Act.put, List.setIfInBounds_toArray, List.set_cons_zero, List.set_cons_succ]
              refine wpAnyH_take (i := 10) (oi := { dst := some 55, op := Op.nilCheck (Operand.tmp 54), type := 0, pos := _, after := #[{ on := 9, ground := Ground.data }, { on := 4, ground := Ground.guard }], guard := some (4, false) }) (v := undef) rfl (by kernel_rfl) (by kernel_rfl) (by kernel_rfl) (fun _ _ _ h => h)
                (Or.inr ⟨by rfl, rfl⟩) hHeld ?_
              try simp only [Act.put, List.setIfInBounds_toArray, List.set_cons_zero, List.set_cons_succ]
              refine wpAnyH_take (i := 11) (oi := { dst := some 56, op := Op.fieldAddr 61 (Operand.tmp 55) 1, type := 0, pos := _, after := #[{ on := 10, ground := Ground.data }, { on := 4, ground := Ground.guard }], guard := some (4, false) }) (v := undef) rfl (by kernel_rfl) (by kernel_rfl) (by kernel_rfl) (fun _ _ _ h => h)
                (Or.inr ⟨by rfl, rfl⟩) hHeld ?_
              try simp only [Act.put, List.setIfInBounds_toArray, List.set_cons_zero, List.set_cons_succ]
              refine wpAnyH_take (i := 12) (oi := { dst := some 57, op := Op.load 22 (Operand.tmp 56), type := 22, pos := _, after := #[{ on := 11, ground := Ground.data }, { on := 4, ground := Ground.guard }], guard := some (4, false) }) (v := undef) rfl (by kernel_rfl) (by kernel_rfl) (by kernel_rfl) (fun _ _ _ h => h)
                (Or.inr ⟨by rfl, rfl⟩) hHeld ?_
              try simp only [Act.put, List.setIfInBounds_toArray, List.set_cons_zero, List.set_cons_succ]
              refine wpAnyH_take (i := 13) (oi := { dst := some 58, op := Op.move (Operand.tmp 4), type := 3, pos := _, after := #[{ on := 4, ground := Ground.guard }], guard := some (4, false) }) (v := undef) rfl (by kernel_rfl) (by kernel_rfl) (by kernel_rfl) (fun _ _ _ h => h)
                (Or.inr ⟨by rfl, rfl⟩) hHeld ?_
              try simp only [Act.put, List.setIfInBounds_toArray, List.set_cons_zero, List.set_cons_succ]
              refine wpAnyH_take (i := 14) (oi := { dst := some 59, op := Op.indexAddr 22 (Operand.tmp 57) (Operand.tmp 58), type := 0, pos := _, after := #[{ on := 12, ground := Ground.data }, { on := 13, ground := Ground.data }, { on := 4, ground := Ground.guard }], guard := some (4, false) }) (v := undef) rfl (by kernel_rfl) (by kernel_rfl) (by kernel_rfl) (fun _ _ _ h => h)
                (Or.inr ⟨by rfl, rfl⟩) hHeld ?_
              try simp only [Act.put, List.setIfInBounds_toArray, List.set_cons_zero, List.set_cons_succ]
              refine wpAnyH_take (i := 15) (oi := { dst := some 60, op := Op.fieldAddr 40 (Operand.tmp 59) 1, type := 0, pos := _, after := #[{ on := 14, ground := Ground.data }, { on := 4, ground := Ground.guard }], guard := some (4, false) }) (v := undef) rfl (by kernel_rfl) (by kernel_rfl) (by kernel_rfl) (fun _ _ _ h => h)
                (Or.inr ⟨by rfl, rfl⟩) hHeld ?_
              try simp only [Act.put, List.setIfInBounds_toArray, List.set_cons_zero, List.set_cons_succ]
              refine wpAnyH_take (i := 16) (oi := { dst := some 61, op := Op.load 3 (Operand.tmp 60), type := 3, pos := _, after := #[{ on := 15, ground := Ground.data }, { on := 4, ground := Ground.guard }], guard := some (4, false) }) (v := undef) rfl (by kernel_rfl) (by kernel_rfl) (by kernel_rfl) (fun _ _ _ h => h)
                (Or.inr ⟨by rfl, rfl⟩) hHeld ?_
              try simp only [Act.put, List.setIfInBounds_toArray, List.set_cons_zero, List.set_cons_succ]
              refine wpAnyH_take (i := 17) (oi := { dst := some 62, op := Op.binOp BinOp.neq 3 (Operand.tmp 53) (Operand.tmp 61) 3, type := 4, pos := _, after := #[{ on := 8, ground := Ground.data }, { on := 16, ground := Ground.data }, { on := 4, ground := Ground.guard }], guard := some (4, false) }) (v := undef) rfl (by kernel_rfl) (by kernel_rfl) (by kernel_rfl) (fun _ _ _ h => h)
                (Or.inr ⟨by rfl, rfl⟩) hHeld ?_
              try simp only [Act.put, List.setIfInBounds_toArray, List.set_cons_zero, List.set_cons_succ]
              refine wpAnyH_take (i := 18) (oi := { dst := some 63, op := Op.pick (Operand.tmp 49) (Operand.const (Value.bool true)) (Operand.tmp 62), type := 4, pos := _, after := #[{ on := 4, ground := Ground.data }, { on := 17, ground := Ground.data }], guard := none }) (v := .bool true) rfl (by kernel_rfl) (by kernel_rfl) (by kernel_rfl) (fun _ _ _ h => h) (Or.inl ⟨by rfl, ?_⟩) hHeld ?_
              · intro u hu
                go_simp
              try simp only [Act.put, List.setIfInBounds_toArray, List.set_cons_zero, List.set_cons_succ]
              refine wpAnyH_done (by kernel_rfl) ?_ _
              go_wp2_with fail
              go_meet
              exact ⟨by rw [hQ.out], hHeld⟩
          case rest =>
            obtain ⟨rfl, Bk⟩ := hcut
            have IW := Ij.later Bk
            have z1 := (Stp.of_below Bk (fun _ => False)).cell z1j id
            have c1 := (Stp.of_below Bk (fun _ => False)).cell c1j id
            clear z1j c1j Ij hrow
            obtain ⟨q, hq⟩ : ∃ q, Hid (insQ out j x = q) := ⟨_, rfl⟩
            rw [hq.out]
            cases q with
            | false =>
              go_wp2_with fail
              go_roundw
              case rel => exact ⟨i + 1, gb, cap, out, by omega, by rw [hst2.out, hins.out, hq.out]; simp, rfl, by go_num, IW⟩
              case measure => simp [intOf]; omega
            | true =>
              generalize wc = W at *
              have hN : scK Z.l (i + 1) = out.take j ++ x :: out.drop j := by rw [hst2.out, hins.out, hq.out, if_pos rfl]
              have hN' : Hid (scK Z.l (i + 1) = out.take j ++ [x] ++ out.drop j) := (by rw [hN]; simp : scK Z.l (i + 1) = out.take j ++ [x] ++ out.drop j)
              clear hN
              obtain ⟨cur, hrow⟩ := IW.row
              have hcu : ∀ u, Stp (fun y => W.heap.size ≤ y) W u → ∀ jj, jj < out.length → u.cell? ⟨gb, jj, none⟩ = some (.int .i64 (out.getD jj 0)) := fun u hu jj hjj => hu.cell (hrow.cell jj hjj) (fun e => by have := hrow.lt; simp only at e; omega)
              have TK : ∀ u, Stp (fun y => W.heap.size ≤ y) W u → ∀ ad, some (⟨gb, 0, none⟩ : Addr) = some ad → ∀ jj v, ((out.take j).map (Value.int .i64))[jj]? = some v → u.cell? (ad.add jj) = some v := fun u hu ad e jj v hv => by
                injection e with e; subst e
                have hjj := (List.getElem?_eq_some_iff.1 hv).1
                rw [List.length_map, List.length_take] at hjj
                have hj1 : jj < j := by omega
                have hj2 : jj < out.length := by omega
                rw [Addr.add_lit, Nat.zero_add, hcu u hu jj hj2, ← hv, List.getElem?_map, List.getElem?_take, if_pos hj1, List.getElem?_eq_getElem hj2, List.getD_eq_getElem?_getD, List.getElem?_eq_getElem hj2]; rfl
              obtain ⟨oj, hoj⟩ : ∃ oj, Hid (oj = if cap = j then 0 else j) := ⟨_, rfl⟩
              have DR : ∀ u, Stp (fun y => W.heap.size ≤ y) W u → ∀ ad, some (⟨gb, oj, none⟩ : Addr) = some ad → ∀ jj v, ((out.drop j).map (Value.int .i64))[jj]? = some v → u.cell? (ad.add jj) = some v := fun u hu ad e jj v hv => by
                injection e with e; subst e
                have hjj := (List.getElem?_eq_some_iff.1 hv).1
                rw [List.length_map, List.length_drop] at hjj
                have hoe : oj = j := by rw [hoj.out, if_neg (by omega)]
                rw [Addr.add_lit, hoe, hcu u hu (j + jj) (by omega), ← hv, List.getElem?_map, List.getElem?_drop, List.getElem?_eq_getElem (by omega), List.getD_eq_getElem?_getD, List.getElem?_eq_getElem (by omega)]; rfl
              have oneI : ∀ l : List Int, ∀ v ∈ l.map (Value.int .i64), v.oneCell' = true := fun l v hv => by obtain ⟨y, _, rfl⟩ := List.mem_map.1 hv; rfl
              have FIN : ∀ w18 v18, Stp (fun y => W.heap.size ≤ y) W w18 → OwV w18 v18 (out.take j ++ [x] ++ out.drop j) → New W.heap.size v18 → ∃ gb' cap', v18 = .slice (some ⟨gb', 0, none⟩) (out.take j ++ [x] ++ out.drop j).length cap' ∧ ScI w w18 gb' cap' (out.take j ++ [x] ++ out.drop j) := fun w18 v18 hs ho hn => by
                obtain ⟨gb', cap', cur', e, _⟩ := ho.row1 (by simp)
                subst e
                have h1 := hn gb' rfl
                have h2 := IW.b.size
                exact ⟨gb', cap', rfl, ho, by omega, ((Stp.of_below IW.b (fun _ => False)).next hs (fun y hy => .inr (by omega))).below (Nat.le_refl _) (fun y e => e.elim)⟩
              have qj : (j : Int) ≤ (out.length : Int) := by omega
              have qc : (out.length : Int) ≤ (cap : Int) := by omega
              have qjc : (j : Int) ≤ (cap : Int) := by omega
              have hjc : j ≤ cap := by omega
              clear hrow hcu
              have z1c := z1
              go_upto_region 10 with fail
              refine wp_region_held_drew (S := fun u => Stp (fun y => W.heap.size ≤ y) W u) (by kernel_rfl) (Stp.refl _ _).drew (fun hHeld => ?_)
              refine wpAnyH_take (i := 1) (oi := { dst := some 65, op := Op.move (Operand.tmp 3), type := 23, pos := _, after := #[], guard := none }) (v := .slice (some ⟨gb, 0, none⟩) out.length cap) rfl (by kernel_rfl) (by kernel_rfl) (by kernel_rfl) (fun _ _ _ h => h) (Or.inl ⟨by rfl, ?_⟩) hHeld ?_
              · intro u hu
                go_simp
              try simp only [Act.put, List.setIfInBounds_toArray, List.set_cons_zero, List.set_cons_succ]
              refine wpAnyH_take (i := 2) (oi := { dst := some 66, op := Op.move (Operand.tmp 5), type := 3, pos := _, after := #[], guard := none }) (v := .int .i64 (j : Int)) rfl (by kernel_rfl) (by kernel_rfl) (by kernel_rfl) (fun _ _ _ h => h) (Or.inl ⟨by rfl, ?_⟩) hHeld ?_
              · intro u hu
                go_simp
              try simp only [Act.put, List.setIfInBounds_toArray, List.set_cons_zero, List.set_cons_succ]
              refine wpAnyH_take (i := 3) (oi := { dst := some 67, op := Op.slice 23 (Operand.tmp 65) none (some (Operand.tmp 66)) none, type := 23, pos := _, after := #[{ on := 1, ground := Ground.data }, { on := 2, ground := Ground.data }], guard := none }) (v := .slice (some ⟨gb, 0, none⟩) j cap) rfl (by kernel_rfl) (by kernel_rfl) (by kernel_rfl) (fun _ _ _ h => h) (Or.inl ⟨by rfl, ?_⟩) hHeld ?_
              · intro u hu
                go_simp
              try simp only [Act.put, List.setIfInBounds_toArray, List.set_cons_zero, List.set_cons_succ]
              refine wpAnyH_take (i := 5) (oi := { dst := some 69, op := Op.move (Operand.tmp 0), type := 26, pos := _, after := #[], guard := none }) (v := .pointer (some ⟨g, 0, none⟩)) rfl (by kernel_rfl) (by kernel_rfl) (by kernel_rfl) (fun _ _ _ h => h) (Or.inl ⟨by rfl, ?_⟩) hHeld ?_
              · intro u hu
                go_simp
              try simp only [Act.put, List.setIfInBounds_toArray, List.set_cons_zero, List.set_cons_succ]
              refine wpAnyH_take (i := 6) (oi := { dst := some 70, op := Op.nilCheck (Operand.tmp 69), type := 0, pos := _, after := #[{ on := 5, ground := Ground.data }], guard := none }) (v := .pointer (some ⟨g, 0, none⟩)) rfl (by kernel_rfl) (by kernel_rfl) (by kernel_rfl) (fun _ _ _ h => h) (Or.inl ⟨by rfl, ?_⟩) hHeld ?_
              · intro u hu
                go_simp
              try simp only [Act.put, List.setIfInBounds_toArray, List.set_cons_zero, List.set_cons_succ]
              refine wpAnyH_take (i := 7) (oi := { dst := some 71, op := Op.fieldAddr 61 (Operand.tmp 70) 1, type := 0, pos := _, after := #[{ on := 6, ground := Ground.data }], guard := none }) (v := .pointer (some ⟨g, 1, none⟩)) rfl (by kernel_rfl) (by kernel_rfl) (by kernel_rfl) (fun _ _ _ h => h) (Or.inl ⟨by rfl, ?_⟩) hHeld ?_
              · intro u hu
                go_simp
              try simp only [Act.put, List.setIfInBounds_toArray, List.set_cons_zero, List.set_cons_succ]
              refine wpAnyH_take (i := 8) (oi := { dst := some 72, op := Op.load 22 (Operand.tmp 71), type := 22, pos := _, after := #[{ on := 7, ground := Ground.data }], guard := none }) (v := .slice (some ⟨b, 0, none⟩) L.length c) rfl (by kernel_rfl) (by kernel_rfl) (by kernel_rfl) (fun _ _ _ h => h) (Or.inl ⟨by rfl, ?_⟩) hHeld ?_
              · intro u hu
                have x1 := hu.cell z1 (fun e => by have := World.block_lt_of_cell? W _ z1; simp only at e this; omega); go_simp
              try simp only [Act.put, List.setIfInBounds_toArray, List.set_cons_zero, List.set_cons_succ]
              refine wpAnyH_take (i := 9) (oi := { dst := some 73, op := Op.move (Operand.tmp 4), type := 3, pos := _, after := #[], guard := none }) (v := .int .i64 (i : Int)) rfl (by kernel_rfl) (by kernel_rfl) (by kernel_rfl) (fun _ _ _ h => h) (Or.inl ⟨by rfl, ?_⟩) hHeld ?_
              · intro u hu
                go_simp
              try simp only [Act.put, List.setIfInBounds_toArray, List.set_cons_zero, List.set_cons_succ]
              refine wpAnyH_take (i := 10) (oi := { dst := some 74, op := Op.indexAddr 22 (Operand.tmp 72) (Operand.tmp 73), type := 0, pos := _, after := #[{ on := 8, ground := Ground.data }, { on := 9, ground := Ground.data }], guard := none }) (v := .pointer (some ⟨b, i * 9, none⟩)) rfl (by kernel_rfl) (by kernel_rfl) (by kernel_rfl) (fun _ _ _ h => h) (Or.inl ⟨by rfl, ?_⟩) hHeld ?_
              · intro u hu
                go_simp
              try simp only [Act.put, List.setIfInBounds_toArray, List.set_cons_zero, List.set_cons_succ]
              refine wpAnyH_take (i := 11) (oi := { dst := some 75, op := Op.fieldAddr 40 (Operand.tmp 74) 1, type := 0, pos := _, after := #[{ on := 10, ground := Ground.data }], guard := none }) (v := .pointer (some ⟨b, i * 9 + 1, none⟩)) rfl (by kernel_rfl) (by kernel_rfl) (by kernel_rfl) (fun _ _ _ h => h) (Or.inl ⟨by rfl, ?_⟩) hHeld ?_
              · intro u hu
                go_simp
              try simp only [Act.put, List.setIfInBounds_toArray, List.set_cons_zero, List.set_cons_succ]
              refine wpAnyH_take (i := 12) (oi := { dst := some 76, op := Op.load 3 (Operand.tmp 75), type := 3, pos := _, after := #[{ on := 11, ground := Ground.data }], guard := none }) (v := .int .i64 x) rfl (by kernel_rfl) (by kernel_rfl) (by kernel_rfl) (fun _ _ _ h => h) (Or.inl ⟨by rfl, ?_⟩) hHeld ?_
              · intro u hu
                have x1 := hu.cell c1 (fun e => by have := World.block_lt_of_cell? W _ c1; simp only at e this; omega); go_simp
              try simp only [Act.put, List.setIfInBounds_toArray, List.set_cons_zero, List.set_cons_succ]
              refine wpAnyH_take (i := 15) (oi := { dst := some 79, op := Op.move (Operand.tmp 3), type := 23, pos := _, after := #[], guard := none }) (v := .slice (some ⟨gb, 0, none⟩) out.length cap) rfl (by kernel_rfl) (by kernel_rfl) (by kernel_rfl) (fun _ _ _ h => h) (Or.inl ⟨by rfl, ?_⟩) hHeld ?_
              · intro u hu
                go_simp
              try simp only [Act.put, List.setIfInBounds_toArray, List.set_cons_zero, List.set_cons_succ]
              refine wpAnyH_take (i := 16) (oi := { dst := some 80, op := Op.move (Operand.tmp 5), type := 3, pos := _, after := #[], guard := none }) (v := .int .i64 (j : Int)) rfl (by kernel_rfl) (by kernel_rfl) (by kernel_rfl) (fun _ _ _ h => h) (Or.inl ⟨by rfl, ?_⟩) hHeld ?_
              · intro u hu
                go_simp
              try simp only [Act.put, List.setIfInBounds_toArray, List.set_cons_zero, List.set_cons_succ]
              refine wpAnyH_take (i := 17) (oi := { dst := some 81, op := Op.slice 23 (Operand.tmp 79) (some (Operand.tmp 80)) none none, type := 23, pos := _, after := #[{ on := 15, ground := Ground.data }, { on := 16, ground := Ground.data }], guard := none }) (v := .slice (some ⟨gb, oj, none⟩) (out.length - j) (cap - j)) rfl (by kernel_rfl) (by kernel_rfl) (by kernel_rfl) (fun _ _ _ h => h) (Or.inl ⟨by rfl, ?_⟩) hHeld ?_
              · intro u hu
                go_simp; rw [hoj.out]; split <;> simp_all
              try simp only [Act.put, List.setIfInBounds_toArray, List.set_cons_zero, List.set_cons_succ]
              refine wpAnyH_ready (rs := [0, 13]) (by kernel_rfl) (by simp) ?_
              refine (AllReadyH.cons (o := { dst := some 64, op := Op.buildSlice 23 0 #[], type := 23, pos := _, after := #[], guard := none }) rfl (fun K hK => ?_) (AllReadyH.cons (o := { dst := some 77, op := Op.buildSlice 23 1 #[(0, Operand.tmp 76)], type := 23, pos := _, after := #[{ on := 12, ground := Ground.data }], guard := none }) rfl (fun K hK => ?_) AllReadyH.nil))
              · skip
                have zH1 := hHeld.size
                refine step_bs0I rfl (by rfl) ?_
                intro g0 w0 e0 o0 b0
                have W0 : W.heap.size ≤ g0 := Nat.le_trans zH1 e0
                have l0 : g0 < w0.heap.size := o0.lt rfl
                refine hK.out _ _ (hHeld.next (Stp.of_below b0 (fun _ => False)) (fun x e => e.elim)) (fun hHeld => ?_)
                clear hK K
                have zz0 := b0.size
                try (replace q13 := q13.later b0)
                try simp only [Act.put, List.setIfInBounds_toArray, List.set_cons_zero, List.set_cons_succ]
                refine wpAnyH_ready (rs := [4, 13]) (by kernel_rfl) (by simp) ?_
                refine (AllReadyH.cons (o := { dst := some 68, op := Op.call { callee := Callee.builtin Builtin.append, args := #[Operand.tmp 64, Operand.tmp 67], argTypes := #[23, 23] }, type := 23, pos := _, after := #[{ on := 0, ground := Ground.data }, { on := 3, ground := Ground.data }], guard := none }) rfl (fun K hK => ?_) (AllReadyH.cons (o := { dst := some 77, op := Op.buildSlice 23 1 #[(0, Operand.tmp 76)], type := 23, pos := _, after := #[{ on := 12, ground := Ground.data }], guard := none }) rfl (fun K hK => ?_) AllReadyH.nil))
                · skip
                  refine step_appR elI W.heap.size rfl _ _ (by rfl) (by rfl) o0 (fun r e => (ob_eq e) ▸ W0) (some ⟨gb, 0, none⟩) cap ((out.take j).map (Value.int .i64)) (by rfl) (by simp; omega) (fun e => by cases e) (TK _ hHeld) (oneI _) (by simp only [List.length_nil]; omega) hHeld.size ?_
                  intro v4 w4 hA4
                  have o4 : OwV w4 v4 ([] ++ out.take j) := ov_12 hA4 (by simp; omega)
                  rw [List.nil_append] at o4
                  have n4 := hA4.2.1
                  have s4 := hA4.2.2.2.1
                  refine hK.out _ _ (hHeld.next s4 (fun x e => .inl ((ob_eq e) ▸ W0))) (fun hHeld => ?_)
                  clear hK K
                  have zz4 := s4.size
                  try (replace q13 := q13.step s4 (fun e => by have := ob_eq e; omega))
                  try simp only [Act.put, List.setIfInBounds_toArray, List.set_cons_zero, List.set_cons_succ]
                  refine wpAnyH_ready (rs := [13]) (by kernel_rfl) (by simp) ?_
                  refine (AllReadyH.cons (o := { dst := some 77, op := Op.buildSlice 23 1 #[(0, Operand.tmp 76)], type := 23, pos := _, after := #[{ on := 12, ground := Ground.data }], guard := none }) rfl (fun K hK => ?_) AllReadyH.nil)
                  refine step_bs1I rfl _ (by rfl) x (by rfl) ?_
                  intro g13 w13 e13 q13 b13
                  have l13 := q13.lt
                  refine hK.out _ _ (hHeld.next (Stp.of_below b13 (fun _ => False)) (fun x e => e.elim)) (fun hHeld => ?_)
                  clear hK K
                  have zz13 := b13.size
                  try (replace o0 := o0.later b13)
                  try (replace o4 := o4.later b13)
                  try simp only [Act.put, List.setIfInBounds_toArray, List.set_cons_zero, List.set_cons_succ]
                  refine wpAnyH_ready (rs := [14]) (by kernel_rfl) (by simp) ?_
                  refine (AllReadyH.cons (o := { dst := some 78, op := Op.call { callee := Callee.builtin Builtin.append, args := #[Operand.tmp 68, Operand.tmp 77], argTypes := #[23, 23] }, type := 23, pos := _, after := #[{ on := 4, ground := Ground.data }, { on := 13, ground := Ground.data }, { on := 4, ground := Ground.chain }], guard := none }) rfl (fun K hK => ?_) AllReadyH.nil)
                  refine step_appR elI W.heap.size rfl _ _ (by rfl) (by rfl) o4 n4 (some ⟨g13, 0, none⟩) 1 (([x] : List Int).map (Value.int .i64)) (by rfl) (by rfl) (fun e => by cases e) (fun ad e j u hu => by injection e with e; subst e; rw [Addr.add_lit, Nat.zero_add]; exact q13.cell j u hu) (oneI _) (by simp; omega) hHeld.size ?_
                  intro v14 w14 hA14
                  have o14 : OwV w14 v14 (out.take j ++ [x]) := ov_12 hA14 rfl
                  have n14 := hA14.2.1
                  have s14 := hA14.2.2.2.1
                  refine hK.out _ _ (hHeld.next s14 (fun x e => .inl (n4 x e))) (fun hHeld => ?_)
                  clear hK K
                  try simp only [Act.put, List.setIfInBounds_toArray, List.set_cons_zero, List.set_cons_succ]
                  refine wpAnyH_ready (rs := [18]) (by kernel_rfl) (by simp) ?_
                  refine (AllReadyH.cons (o := { dst := some 82, op := Op.call { callee := Callee.builtin Builtin.append, args := #[Operand.tmp 78, Operand.tmp 81], argTypes := #[23, 23] }, type := 23, pos := _, after := #[{ on := 14, ground := Ground.data }, { on := 17, ground := Ground.data }, { on := 14, ground := Ground.chain }], guard := none }) rfl (fun K hK => ?_) AllReadyH.nil)
                  refine step_appR elI W.heap.size rfl _ _ (by rfl) (by rfl) o14 n14 (some ⟨gb, oj, none⟩) (cap - j) ((out.drop j).map (Value.int .i64)) (by rfl) (by simp) (fun e => by cases e) (DR _ hHeld) (oneI _) (by simp; omega) hHeld.size ?_
                  intro v18 w18 hA18
                  have o18 : OwV w18 v18 (out.take j ++ [x] ++ out.drop j) := ov_12 hA18 (by simp)
                  have n18 := hA18.2.1
                  have s18 := hA18.2.2.2.1
                  refine hK.out _ _ (hHeld.next s18 (fun x e => .inl (n14 x e))) (fun hHeld => ?_)
                  clear hK K
                  try simp only [Act.put, List.setIfInBounds_toArray, List.set_cons_zero, List.set_cons_succ]
                  refine wpAnyH_take (i := 19) (oi := { dst := some 3, op := Op.assign (Operand.tmp 82), type := 23, pos := _, after := #[{ on := 18, ground := Ground.data }, { on := 18, ground := Ground.chain }, { on := 0, ground := Ground.phase }, { on := 1, ground := Ground.phase }, { on := 2, ground := Ground.phase }, { on := 3, ground := Ground.phase }, { on := 4, ground := Ground.phase }, { on := 5, ground := Ground.phase }, { on := 6, ground := Ground.phase }, { on := 7, ground := Ground.phase }, { on := 8, ground := Ground.phase }, { on := 9, ground := Ground.phase }, { on := 10, ground := Ground.phase }, { on := 11, ground := Ground.phase }, { on := 12, ground := Ground.phase }, { on := 13, ground := Ground.phase }, { on := 14, ground := Ground.phase }, { on := 15, ground := Ground.phase }, { on := 16, ground := Ground.phase }, { on := 17, ground := Ground.phase }, { on := 18, ground := Ground.phase }], guard := none }) (v := v18) rfl (by kernel_rfl) (by kernel_rfl) (by kernel_rfl) (fun _ _ _ h => h) (Or.inl ⟨by rfl, ?_⟩) hHeld ?_
                  · intro u hu
                    go_simp
                  try simp only [Act.put, List.setIfInBounds_toArray, List.set_cons_zero, List.set_cons_succ]
                  refine wpAnyH_done (by kernel_rfl) ?_ _
                  obtain ⟨gb2, cap2, rfl, I2⟩ := FIN _ _ hHeld o18 n18
                  rw [← hN'.out] at I2
                  rw [← hN'.out]
                  go_wp2_with fail
                  go_roundw
                  case rel => exact ⟨i + 1, gb2, cap2, _, by omega, rfl, rfl, by go_num, I2⟩
                  case measure => simp [intOf]; omega
                · skip
                  refine step_bs1I rfl _ (by rfl) x (by rfl) ?_
                  intro g13 w13 e13 q13 b13
                  have l13 := q13.lt
                  refine hK.out _ _ (hHeld.next (Stp.of_below b13 (fun _ => False)) (fun x e => e.elim)) (fun hHeld => ?_)
                  clear hK K
                  have zz13 := b13.size
                  try (replace o0 := o0.later b13)
                  try (replace o4 := o4.later b13)
                  try simp only [Act.put, List.setIfInBounds_toArray, List.set_cons_zero, List.set_cons_succ]
                  refine wpAnyH_ready (rs := [4]) (by kernel_rfl) (by simp) ?_
                  refine (AllReadyH.cons (o := { dst := some 68, op := Op.call { callee := Callee.builtin Builtin.append, args := #[Operand.tmp 64, Operand.tmp 67], argTypes := #[23, 23] }, type := 23, pos := _, after := #[{ on := 0, ground := Ground.data }, { on := 3, ground := Ground.data }], guard := none }) rfl (fun K hK => ?_) AllReadyH.nil)
                  refine step_appR elI W.heap.size rfl _ _ (by rfl) (by rfl) o0 (fun r e => (ob_eq e) ▸ W0) (some ⟨gb, 0, none⟩) cap ((out.take j).map (Value.int .i64)) (by rfl) (by simp; omega) (fun e => by cases e) (TK _ hHeld) (oneI _) (by simp only [List.length_nil]; omega) hHeld.size ?_
                  intro v4 w4 hA4
                  have o4 : OwV w4 v4 ([] ++ out.take j) := ov_12 hA4 (by simp; omega)
                  rw [List.nil_append] at o4
                  have n4 := hA4.2.1
                  have s4 := hA4.2.2.2.1
                  refine hK.out _ _ (hHeld.next s4 (fun x e => .inl ((ob_eq e) ▸ W0))) (fun hHeld => ?_)
                  clear hK K
                  have zz4 := s4.size
                  try (replace q13 := q13.step s4 (fun e => by have := ob_eq e; omega))
                  try simp only [Act.put, List.setIfInBounds_toArray, List.set_cons_zero, List.set_cons_succ]
                  refine wpAnyH_ready (rs := [14]) (by kernel_rfl) (by simp) ?_
                  refine (AllReadyH.cons (o := { dst := some 78, op := Op.call { callee := Callee.builtin Builtin.append, args := #[Operand.tmp 68, Operand.tmp 77], argTypes := #[23, 23] }, type := 23, pos := _, after := #[{ on := 4, ground := Ground.data }, { on := 13, ground := Ground.data }, { on := 4, ground := Ground.chain }], guard := none }) rfl (fun K hK => ?_) AllReadyH.nil)
                  refine step_appR elI W.heap.size rfl _ _ (by rfl) (by rfl) o4 n4 (some ⟨g13, 0, none⟩) 1 (([x] : List Int).map (Value.int .i64)) (by rfl) (by rfl) (fun e => by cases e) (fun ad e j u hu => by injection e with e; subst e; rw [Addr.add_lit, Nat.zero_add]; exact q13.cell j u hu) (oneI _) (by simp; omega) hHeld.size ?_
                  intro v14 w14 hA14
                  have o14 : OwV w14 v14 (out.take j ++ [x]) := ov_12 hA14 rfl
                  have n14 := hA14.2.1
                  have s14 := hA14.2.2.2.1
                  refine hK.out _ _ (hHeld.next s14 (fun x e => .inl (n4 x e))) (fun hHeld => ?_)
                  clear hK K
                  try simp only [Act.put, List.setIfInBounds_toArray, List.set_cons_zero, List.set_cons_succ]
                  refine wpAnyH_ready (rs := [18]) (by kernel_rfl) (by simp) ?_
                  refine (AllReadyH.cons (o := { dst := some 82, op := Op.call { callee := Callee.builtin Builtin.append, args := #[Operand.tmp 78, Operand.tmp 81], argTypes := #[23, 23] }, type := 23, pos := _, after := #[{ on := 14, ground := Ground.data }, { on := 17, ground := Ground.data }, { on := 14, ground := Ground.chain }], guard := none }) rfl (fun K hK => ?_) AllReadyH.nil)
                  refine step_appR elI W.heap.size rfl _ _ (by rfl) (by rfl) o14 n14 (some ⟨gb, oj, none⟩) (cap - j) ((out.drop j).map (Value.int .i64)) (by rfl) (by simp) (fun e => by cases e) (DR _ hHeld) (oneI _) (by simp; omega) hHeld.size ?_
                  intro v18 w18 hA18
                  have o18 : OwV w18 v18 (out.take j ++ [x] ++ out.drop j) := ov_12 hA18 (by simp)
                  have n18 := hA18.2.1
                  have s18 := hA18.2.2.2.1
                  refine hK.out _ _ (hHeld.next s18 (fun x e => .inl (n14 x e))) (fun hHeld => ?_)
                  clear hK K
                  try simp only [Act.put, List.setIfInBounds_toArray, List.set_cons_zero, List.set_cons_succ]
                  refine wpAnyH_take (i := 19) (oi := { dst := some 3, op := Op.assign (Operand.tmp 82), type := 23, pos := _, after := #[{ on := 18, ground := Ground.data }, { on := 18, ground := Ground.chain }, { on := 0, ground := Ground.phase }, { on := 1, ground := Ground.phase }, { on := 2, ground := Ground.phase }, { on := 3, ground := Ground.phase }, { on := 4, ground := Ground.phase }, { on := 5, ground := Ground.phase }, { on := 6, ground := Ground.phase }, { on := 7, ground := Ground.phase }, { on := 8, ground := Ground.phase }, { on := 9, ground := Ground.phase }, { on := 10, ground := Ground.phase }, { on := 11, ground := Ground.phase }, { on := 12, ground := Ground.phase }, { on := 13, ground := Ground.phase }, { on := 14, ground := Ground.phase }, { on := 15, ground := Ground.phase }, { on := 16, ground := Ground.phase }, { on := 17, ground := Ground.phase }, { on := 18, ground := Ground.phase }], guard := none }) (v := v18) rfl (by kernel_rfl) (by kernel_rfl) (by kernel_rfl) (fun _ _ _ h => h) (Or.inl ⟨by rfl, ?_⟩) hHeld ?_
                  · intro u hu
                    go_simp
                  try simp only [Act.put, List.setIfInBounds_toArray, List.set_cons_zero, List.set_cons_succ]
                  refine wpAnyH_done (by kernel_rfl) ?_ _
                  obtain ⟨gb2, cap2, rfl, I2⟩ := FIN _ _ hHeld o18 n18
                  rw [← hN'.out] at I2
                  rw [← hN'.out]
                  go_wp2_with fail
                  go_roundw
                  case rel => exact ⟨i + 1, gb2, cap2, _, by omega, rfl, rfl, by go_num, I2⟩
                  case measure => simp [intOf]; omega
              · skip
                refine step_bs1I rfl _ (by rfl) x (by rfl) ?_
                intro g13 w13 e13 q13 b13
                have l13 := q13.lt
                refine hK.out _ _ (hHeld.next (Stp.of_below b13 (fun _ => False)) (fun x e => e.elim)) (fun hHeld => ?_)
                clear hK K
                have zz13 := b13.size
                try (replace o0 := o0.later b13)
                try (replace o4 := o4.later b13)
                try simp only [Act.put, List.setIfInBounds_toArray, List.set_cons_zero, List.set_cons_succ]
                refine wpAnyH_ready (rs := [0]) (by kernel_rfl) (by simp) ?_
                refine (AllReadyH.cons (o := { dst := some 64, op := Op.buildSlice 23 0 #[], type := 23, pos := _, after := #[], guard := none }) rfl (fun K hK => ?_) AllReadyH.nil)
                have zH1 := hHeld.size
                refine step_bs0I rfl (by rfl) ?_
                intro g0 w0 e0 o0 b0
                have W0 : W.heap.size ≤ g0 := Nat.le_trans zH1 e0
                have l0 : g0 < w0.heap.size := o0.lt rfl
                refine hK.out _ _ (hHeld.next (Stp.of_below b0 (fun _ => False)) (fun x e => e.elim)) (fun hHeld => ?_)
                clear hK K
                have zz0 := b0.size
                try (replace q13 := q13.later b0)
                try simp only [Act.put, List.setIfInBounds_toArray, List.set_cons_zero, List.set_cons_succ]
                refine wpAnyH_ready (rs := [4]) (by kernel_rfl) (by simp) ?_
                refine (AllReadyH.cons (o := { dst := some 68, op := Op.call { callee := Callee.builtin Builtin.append, args := #[Operand.tmp 64, Operand.tmp 67], argTypes := #[23, 23] }, type := 23, pos := _, after := #[{ on := 0, ground := Ground.data }, { on := 3, ground := Ground.data }], guard := none }) rfl (fun K hK => ?_) AllReadyH.nil)
                refine step_appR elI W.heap.size rfl _ _ (by rfl) (by rfl) o0 (fun r e => (ob_eq e) ▸ W0) (some ⟨gb, 0, none⟩) cap ((out.take j).map (Value.int .i64)) (by rfl) (by simp; omega) (fun e => by cases e) (TK _ hHeld) (oneI _) (by simp only [List.length_nil]; omega) hHeld.size ?_
                intro v4 w4 hA4
                have o4 : OwV w4 v4 ([] ++ out.take j) := ov_12 hA4 (by simp; omega)
                rw [List.nil_append] at o4
                have n4 := hA4.2.1
                have s4 := hA4.2.2.2.1
                refine hK.out _ _ (hHeld.next s4 (fun x e => .inl ((ob_eq e) ▸ W0))) (fun hHeld => ?_)
                clear hK K
                have zz4 := s4.size
                try (replace q13 := q13.step s4 (fun e => by have := ob_eq e; omega))
                try simp only [Act.put, List.setIfInBounds_toArray, List.set_cons_zero, List.set_cons_succ]
                refine wpAnyH_ready (rs := [14]) (by kernel_rfl) (by simp) ?_
                refine (AllReadyH.cons (o := { dst := some 78, op := Op.call { callee := Callee.builtin Builtin.append, args := #[Operand.tmp 68, Operand.tmp 77], argTypes := #[23, 23] }, type := 23, pos := _, after := #[{ on := 4, ground := Ground.data }, { on := 13, ground := Ground.data }, { on := 4, ground := Ground.chain }], guard := none }) rfl (fun K hK => ?_) AllReadyH.nil)
                refine step_appR elI W.heap.size rfl _ _ (by rfl) (by rfl) o4 n4 (some ⟨g13, 0, none⟩) 1 (([x] : List Int).map (Value.int .i64)) (by rfl) (by rfl) (fun e => by cases e) (fun ad e j u hu => by injection e with e; subst e; rw [Addr.add_lit, Nat.zero_add]; exact q13.cell j u hu) (oneI _) (by simp; omega) hHeld.size ?_
                intro v14 w14 hA14
                have o14 : OwV w14 v14 (out.take j ++ [x]) := ov_12 hA14 rfl
                have n14 := hA14.2.1
                have s14 := hA14.2.2.2.1
                refine hK.out _ _ (hHeld.next s14 (fun x e => .inl (n4 x e))) (fun hHeld => ?_)
                clear hK K
                try simp only [Act.put, List.setIfInBounds_toArray, List.set_cons_zero, List.set_cons_succ]
                refine wpAnyH_ready (rs := [18]) (by kernel_rfl) (by simp) ?_
                refine (AllReadyH.cons (o := { dst := some 82, op := Op.call { callee := Callee.builtin Builtin.append, args := #[Operand.tmp 78, Operand.tmp 81], argTypes := #[23, 23] }, type := 23, pos := _, after := #[{ on := 14, ground := Ground.data }, { on := 17, ground := Ground.data }, { on := 14, ground := Ground.chain }], guard := none }) rfl (fun K hK => ?_) AllReadyH.nil)
                refine step_appR elI W.heap.size rfl _ _ (by rfl) (by rfl) o14 n14 (some ⟨gb, oj, none⟩) (cap - j) ((out.drop j).map (Value.int .i64)) (by rfl) (by simp) (fun e => by cases e) (DR _ hHeld) (oneI _) (by simp; omega) hHeld.size ?_
                intro v18 w18 hA18
                have o18 : OwV w18 v18 (out.take j ++ [x] ++ out.drop j) := ov_12 hA18 (by simp)
                have n18 := hA18.2.1
                have s18 := hA18.2.2.2.1
                refine hK.out _ _ (hHeld.next s18 (fun x e => .inl (n14 x e))) (fun hHeld => ?_)
                clear hK K
                try simp only [Act.put, List.setIfInBounds_toArray, List.set_cons_zero, List.set_cons_succ]
                refine wpAnyH_take (i := 19) (oi := { dst := some 3, op := Op.assign (Operand.tmp 82), type := 23, pos := _, after := #[{ on := 18, ground := Ground.data }, { on := 18, ground := Ground.chain }, { on := 0, ground := Ground.phase }, { on := 1, ground := Ground.phase }, { on := 2, ground := Ground.phase }, { on := 3, ground := Ground.phase }, { on := 4, ground := Ground.phase }, { on := 5, ground := Ground.phase }, { on := 6, ground := Ground.phase }, { on := 7, ground := Ground.phase }, { on := 8, ground := Ground.phase }, { on := 9, ground := Ground.phase }, { on := 10, ground := Ground.phase }, { on := 11, ground := Ground.phase }, { on := 12, ground := Ground.phase }, { on := 13, ground := Ground.phase }, { on := 14, ground := Ground.phase }, { on := 15, ground := Ground.phase }, { on := 16, ground := Ground.phase }, { on := 17, ground := Ground.phase }, { on := 18, ground := Ground.phase }], guard := none }) (v := v18) rfl (by kernel_rfl) (by kernel_rfl) (by kernel_rfl) (fun _ _ _ h => h) (Or.inl ⟨by rfl, ?_⟩) hHeld ?_
                · intro u hu
                  go_simp
                try simp only [Act.put, List.setIfInBounds_toArray, List.set_cons_zero, List.set_cons_succ]
                refine wpAnyH_done (by kernel_rfl) ?_ _
                obtain ⟨gb2, cap2, rfl, I2⟩ := FIN _ _ hHeld o18 n18
                rw [← hN'.out] at I2
                rw [← hN'.out]
                go_wp2_with fail
                go_roundw
                case rel => exact ⟨i + 1, gb2, cap2, _, by omega, rfl, rfl, by go_num, I2⟩
                case measure => simp [intOf]; omega
    · have a9 : ¬ (i : Int) < (L.length : Int) := by omega
      have e1 : Hid (out = secs Z.l) := (by rw [hout'.out]; unfold scK; rw [take_all (by rw [← hlen'.out]; omega)] : out = secs Z.l)
      go_wp2_with fail
      go_returns
      exact ⟨_, rfl, by rw [← e1.out]; exact I.ow, fun r hr => by have := ob_eq hr; have := I.nw; omega, I.b⟩
end Go.Proofs.Ytdfifneikmlmoaa
namespace Go.Proofs.Ytdfifneikmlmoaa
open Go.ChangeShapes Go.WideShapes Go.ChangeAt Go.RowKit
set_option linter.unusedVariables false
set_option linter.unusedSimpArgs false

/-- The truths lie in block r. -/
structure NdI (w wr : World) (r : Nat) (l : List Pt) (f : Nat → Pt → Bool) : Prop where
  ex : ∃ bs, Bw bs l f ∧ Cs wr r (bV bs)
  b : Below w.heap.size w wr
theorem NdI.later {w wr w' : World} {r : Nat} {l : List Pt} {f : Nat → Pt → Bool} (h : NdI w wr r l f) (k : Below wr.heap.size wr w') : NdI w w' r l f := by
  obtain ⟨⟨bs, h1, h2⟩, h3⟩ := h
  exact ⟨⟨bs, h1, h2.later k⟩, bnext h3 k (Nat.le_refl _)⟩
theorem NdI.cell {w wr : World} {r : Nat} {l : List Pt} {f : Nat → Pt → Bool} (h : NdI w wr r l f) {j : Nat} {p : Pt} (hj : l[j]? = some p) : wr.cell? ⟨r, j, none⟩ = some (.bool (f j p)) := by
  obtain ⟨⟨bs, h1, h2⟩, h3⟩ := h
  exact h2.cell j _ (by unfold bV; rw [List.getElem?_map, h1.get j p hj]; rfl)
theorem NdI.froz {w wr : World} {r : Nat} {l : List Pt} {f : Nat → Pt → Bool} (h : NdI w wr r l f) (j : Nat) : wr.frozen? ⟨r, j, none⟩ = false := by
  obtain ⟨⟨bs, h1, h2⟩, h3⟩ := h
  exact h2.frozen j
theorem NdI.lt {w wr : World} {r : Nat} {l : List Pt} {f : Nat → Pt → Bool} (h : NdI w wr r l f) : r < wr.heap.size := by
  obtain ⟨⟨bs, h1, h2⟩, h3⟩ := h
  exact h2.lt
theorem NdI.to {w wr : World} {r : Nat} {l : List Pt} {f f' : Nat → Pt → Bool} (h : NdI w wr r l f) (k : ∀ bs, Bw bs l f → Bw bs l f') : NdI w wr r l f' := by
  obtain ⟨⟨bs, h1, h2⟩, h3⟩ := h
  exact ⟨⟨bs, k bs h1, h2⟩, h3⟩
theorem NdI.set {w wr : World} {r : Nat} {l : List Pt} {f f' : Nat → Pt → Bool} (h : NdI w wr r l f) (j : Nat) (hr : w.heap.size ≤ r) (k : ∀ bs, Bw bs l f → Bw (bs.set j true) l f') : NdI w (wr.setCell ⟨r, j, none⟩ (.bool true)) r l f' ∧ Stp (fun x => x = r) wr (wr.setCell ⟨r, j, none⟩ (.bool true)) := by
  obtain ⟨⟨bs, h1, h2⟩, h3⟩ := h
  have s : Stp (fun x => x = r) wr (wr.setCell ⟨r, j, none⟩ (.bool true)) := (Stp.refl (fun x => x = r) wr).setCell (p := ⟨r, j, none⟩) (.inl rfl) _
  have e : (bV bs).set j (.bool true) = bV (bs.set j true) := by unfold bV; rw [List.map_set]
  refine ⟨⟨⟨bs.set j true, k bs h1, by rw [← e]; exact h2.set j _ rfl⟩, ((Stp.of_below h3 (fun _ => False)).next s (fun x e => .inr (by omega))).below (Nat.le_refl _) (fun x e => e.elim)⟩, s⟩
theorem NdI.step {w wr w' : World} {r : Nat} {l : List Pt} {f : Nat → Pt → Bool} {F : Nat → Prop} (h : NdI w wr r l f) (k : Stp F wr w') (hr : ¬ F r) (hb : Below w.heap.size w w') : NdI w w' r l f := by
  obtain ⟨⟨bs, h1, h2⟩, h3⟩ := h
  exact ⟨⟨bs, h1, h2.step k hr⟩, hb⟩
set_option maxRecDepth 100000 in
set_option maxHeartbeats 8000000 in
theorem rneeded_any {w : World} {g : Nat} {Z : GZ} {a : Option Addr} {c : Nat} {L : List Pe} {R : Nat → Prop} (H : Rf w g Z a c L R) {sv : Sv} {is : List Int} (hs : InsS w sv is) (hsl : is.length ≤ 100000) :
    Calls Try.prog 40 #[.pointer (some ⟨g, 0, none⟩), .slice sv.a sv.n sv.c] w fun e w' => ∃ v, e = .returned v ∧ OwV w' v (ids (nd is Z.l)) ∧ New w.heap.size v ∧ Below w.heap.size w w' := by
  have t0 : True := trivial
  have hfew := H.few
  have hcap : L.length ≤ maxLen := by obtain ⟨_, _, _, h, _⟩ := H.row.shape; exact h
  have hlen' : Hid (L.length = Z.l.length) := H.len
  obtain ⟨z0, z1⟩ := H.cells
  have hn := hs.i.len
  obtain ⟨sa, sn, sc⟩ := sv
  simp only at hn
  subst hn
  have hcapl : is.length ≤ maxLen := Nat.le_trans hs.i.le hs.i.cap
  go_enter Try.func40, Try.ntmps40
  go_wp2_with (first
    | (clear t0; refine at_mkb _ (by rfl) (by rfl) L.length (by rfl) (by omega) ?_; intro r w1 a1 a2 r1 b1))
  have i0 : NdI w w1 r Z.l (n1 is 0) := ⟨⟨_, n1_zero is Z.l, by rw [← hlen'.out]; exact r1⟩, b1⟩
  clear r1 z0 z1
  go_loopw [6] (fun v wr => ∃ i : Nat, i ≤ is.length ∧ v = .int .i64 (i : Int) ∧ NdI w wr r Z.l (n1 is i)) (fun v _ => is.length - (intOf v).toNat)
  case atStart => exact ⟨0, Nat.zero_le _, rfl, i0⟩
  case round =>
    clear i0
    obtain ⟨i, hi, rfl, I⟩ := hrel
    have a8 : (0 : Int) ≤ (i : Int) := by omega
    by_cases hil : i < is.length
    · have a9 : (i : Int) < (is.length : Int) := by omega
      obtain ⟨sb, so, e1, hcell⟩ := (hs.later I.b).i.cell (by show 0 < is.length; omega)
      simp only at e1
      subst e1
      have ck := hcell i hil
      have hx : is[i]? = some (is.getD i 0) := by rw [List.getElem?_eq_getElem hil, List.getD_eq_getElem?_getD, List.getElem?_eq_getElem hil]; rfl
      generalize is.getD i 0 = x at *
      have hF := find_any (H.later I.b) x
      clear hcell
      rcases fdx_cases Z.l x with ⟨f1, f2⟩ | ⟨j, p, f1, f2, f3, f4⟩
      · have I2 := I.to (fun bs h => n1_no h hx f2)
        rw [f1] at hF
        clear f1 f2
        go_wp2_with (first
          | (go_at_call 52; refine hF.mono ?_; rintro e w2 ⟨rfl, rfl⟩))
        go_roundw
        case rel => exact ⟨i + 1, by omega, by go_num, I2⟩
        case measure => simp [intOf]; try omega
      · obtain ⟨I2, _⟩ := I.set j a1 (fun bs h => n1_yes H.ok.srt h hx f2 (fnd_mem f3).2)
        have cy := I.cell f2
        have fy := I.froz j
        have q1 : (0 : Int) ≤ (j : Int) := by omega
        have q2 : (j : Int) < (L.length : Int) := by rw [hlen'.out]; omega
        rw [f1] at hF
        clear f1 f2 f3 f4
        go_wp2_with (first
          | (go_at_call 52; refine hF.mono ?_; rintro e w2 ⟨rfl, rfl⟩))
        go_roundw
        case rel => exact ⟨i + 1, by omega, by go_num, I2⟩
        case measure => simp [intOf]; try omega
    · have a9 : ¬ (i : Int) < (is.length : Int) := by omega
      have ei : i = is.length := by omega
      rw [ei] at I
      have I2 : NdI w wr r Z.l (n2 is Z.l L.length) := I.to (fun bs h => by rw [hlen'.out]; exact n2_start h)
      clear I ei hi
      have H4 := H.later I2.b
      obtain ⟨z0, z1⟩ := H4.cells
      go_wp2_with fail
      clear z0 z1 H4
      go_loopw [8] (fun v wr => ∃ m : Nat, m ≤ L.length ∧ v = .int .i64 ((m : Int) - 1) ∧ NdI w wr r Z.l (n2 is Z.l m)) (fun v _ => ((intOf v) + 1).toNat)
      case atStart => exact ⟨L.length, Nat.le_refl _, by go_num, I2⟩
      case round =>
        clear I2
        obtain ⟨m, hm, rfl, I⟩ := hrel
        cases m with
        | zero =>
          have e8 : (((0 : Nat) : Int) - 1) = -1 := by omega
          rw [e8]
          go_wp2_with fail
          have J0 := (BuI.made w wr I.b)
          have N0 := I.later ((Below.refl _ wr).alloc (Nat.le_refl _) (.cells #[] 3))
          have ap0 : ∀ x, (Value.slice (some ⟨wr.heap.size, 0, none⟩) 0 0).ownBlock = some x → x ≠ r := fun x hx e => by have := ob_eq hx; have := I.lt; omega
          clear I
          go_loopw [13, 14] (fun u v wr => ∃ (k : Nat) (sv : Sv) (out : List Int), k ≤ L.length ∧ u = .slice sv.a sv.n sv.c ∧ v = .int .i64 (k : Int) ∧ out ++ ids (nd is (Z.l.drop k)) = ids (nd is Z.l) ∧ out.length ≤ k ∧ BuI w wr (.slice sv.a sv.n sv.c) out ∧ NdI w wr r Z.l (n2 is Z.l 0) ∧ (∀ x, (Value.slice sv.a sv.n sv.c).ownBlock = some x → x ≠ r)) (fun _ v _ => L.length - (intOf v).toNat)
          case atStart => exact ⟨0, ⟨_, _, _⟩, [], Nat.zero_le _, rfl, rfl, rfl, Nat.le_refl _, J0, N0, ap0⟩
          case round =>
            clear J0 N0 ap0
            obtain ⟨k, sv, out, hk, rfl, rfl, heq, hol, J, I, ap⟩ := hrel
            have H4 := H.later J.b
            obtain ⟨z0, z1⟩ := H4.cells
            have q8 : (0 : Int) ≤ (k : Int) := by omega
            by_cases hkl : k < L.length
            · obtain ⟨b, t, rfl, e2, hr⟩ := H4.row.el k hkl
              obtain ⟨c0, _⟩ := Pe.at9 hr
              have q9 : (k : Int) < (L.length : Int) := by omega
              have cy := I.cell (H4.get e2)
              have e0 : n2 is Z.l 0 k t.p = wnt is (nd is (Z.l.drop (k + 1))) t.p := by unfold n2; rw [Nat.max_eq_right (by omega)]
              rw [e0] at cy
              have hst : Hid (nd is (Z.l.drop k) = if wnt is (nd is (Z.l.drop (k + 1))) t.p then t.p :: nd is (Z.l.drop (k + 1)) else nd is (Z.l.drop (k + 1))) := nd_drop (H4.get e2)
              have heq' : Hid (out ++ ids (nd is (Z.l.drop k)) = ids (nd is Z.l)) := heq
              obtain ⟨y, hy⟩ : ∃ y, Hid (wnt is (nd is (Z.l.drop (k + 1))) t.p = y) := ⟨_, rfl⟩
              rw [hy.out] at cy
              have hbig : out.length + 1 ≤ 1000000 := by omega
              clear hr e0 heq
              cases y with
              | true =>
                have hn2 : (out ++ [t.p.id]) ++ ids (nd is (Z.l.drop (k + 1))) = ids (nd is Z.l) := by
                  rw [← heq'.out, hst.out, hy.out, if_pos rfl]; unfold ids; simp
                have hn2' : Hid ((out ++ [t.p.id]) ++ ids (nd is (Z.l.drop (k + 1))) = ids (nd is Z.l)) := hn2
                clear hn2
                go_wp2_with (first
                  | (at_builtin; refine at_appR elI w.heap.size rfl _ _ (by rfl) (by rfl) (ro_later J.ow ((Below.refl _ wr).alloc (Nat.le_refl _) _)) J.nw (some ⟨wr.heap.size, 0, none⟩) 1 [.int .i64 t.p.id] (by rfl) (by simp) (fun e => by cases e) (fun ad e => by injection e with e; subst e; exact cell_one_new _ _ _) (by simp [Value.oneCell']) hbig (Nat.le_trans J.b.size (by simp)) ?_; intro v' w9 hA; have J9 := J.app ((Below.refl _ wr).alloc (Nat.le_refl _) _) hA; obtain ⟨xa, xn, xc, rfl⟩ := J9.ow.shape
                     have I9 := (I.later ((Below.refl _ wr).alloc (Nat.le_refl _) (.cells #[.int .i64 t.p.id] 3))).step hA.2.2.2.1 (fun e => ap r e rfl) J9.b
                     have ap9 : ∀ x, (Value.slice xa xn xc).ownBlock = some x → x ≠ r := fun x hx e => by
                       have hl := I.lt
                       rcases hA.2.2.1 with h | ⟨h, _⟩
                       · rw [h] at hx; exact ap x hx e
                       · rw [h] at hx; injection hx with hx
                         have : (wr.alloc (.cells #[.int .i64 t.p.id] 3)).heap.size = wr.heap.size + 1 := by simp
                         omega
                     clear hA))
                go_roundw
                case rel => exact ⟨k + 1, ⟨xa, xn, xc⟩, out ++ [t.p.id], by omega, rfl, by go_num, hn2'.out, by simp; omega, J9, I9, ap9⟩
                case measure => simp [intOf]; try omega
              | false =>
                have hn2' : Hid (out ++ ids (nd is (Z.l.drop (k + 1))) = ids (nd is Z.l)) := by
                  show _ = _
                  rw [← heq'.out, hst.out, hy.out, if_neg (by simp)]
                go_wp2_with fail
                go_roundw
                case rel => exact ⟨k + 1, sv, out, by omega, rfl, by go_num, hn2'.out, by omega, J, I, ap⟩
                case measure => simp [intOf]; try omega
            · have q9 : ¬ (k : Int) < (L.length : Int) := by omega
              have e5 : out = ids (nd is Z.l) := by
                rw [← heq, List.drop_eq_nil_of_le (by rw [← hlen'.out]; omega)]; simp [nd, ids]
              have e5' : Hid (out = ids (nd is Z.l)) := e5
              clear e5 heq
              go_wp2_with fail
              go_returns
              exact ⟨_, rfl, by rw [← e5'.out]; exact J.ow, J.nw, J.b⟩
        | succ k =>
          have e8 : (((k + 1 : Nat) : Int) - 1) = (k : Int) := by omega
          rw [e8]
          have H4 := H.later I.b
          obtain ⟨z0, z1⟩ := H4.cells
          have q8 : (0 : Int) ≤ (k : Int) := by omega
          have q9 : (k : Int) < (L.length : Int) := by omega
          obtain ⟨b, t, rfl, e2, hr⟩ := H4.row.el k (by omega)
          have hget := H4.get e2
          have cy := I.cell hget
          have e0 : n2 is Z.l (k + 1) k t.p = wnt is (nd is (Z.l.drop (k + 1))) t.p := by unfold n2; rw [Nat.max_eq_left (by omega)]
          rw [e0] at cy
          obtain ⟨y, hy⟩ : ∃ y, Hid (wnt is (nd is (Z.l.drop (k + 1))) t.p = y) := ⟨_, rfl⟩
          rw [hy.out] at cy
          clear e0 e8
          cases y with
          | false =>
            have I2 := I.to (fun bs h => n2_skip h hget hy.out)
            go_wp2_with fail
            go_roundw
            case rel => exact ⟨k, by omega, by go_num, I2⟩
            case measure => simp [intOf]; try omega
          | true =>
            obtain ⟨l1, l2, m4⟩ := H4.dl e2
            obtain ⟨p, d, na, nn, nc⟩ := t
            have hnn : p.needs.length = nn := m4.is.i.len
            subst hnn
            have t1 : True := trivial
            have t2 : True := trivial
            have t3 : True := trivial
            go_wp2_with (first
              | (clear t1; refine at_getE _ (by rfl) (by rfl) b (k * 9) (by rfl) ⟨p, d, ⟨na, p.needs.length, nc⟩⟩ hr ?_)
              | (clear t2; refine at_newP (by rfl) (by rfl) ?_; intro g5 w5 a3 a4 r5 b5)
              | (clear t3; refine at_putP (by rfl) _ _ (by rfl) g5 (by rfl) p d ⟨na, p.needs.length, nc⟩ (by rfl) _ r5 rfl ?_; intro w6 r6 s6))
            have B6 : Below wr.heap.size wr w6 := ((Stp.of_below b5 (fun _ => False)).next s6 (fun x e => .inr (by omega))).below (Nat.le_refl _) (fun x e => e.elim)
            have I6 := (I.later B6).to (fun bs h => n3_zero (p := p) h)
            have H6 := H4.later B6
            have m6 := m4.later B6
            have hrl : r < wr.heap.size := I.lt
            have hgw : g < w.heap.size := H.cc.lt
            have hg5r : g5 ≠ r := by omega
            have hRr : ∀ x, R x → ¬ x = r := fun x hx e => by have := H.lt x hx; omega
            have fp := H4.ok.ft p (H4.mem e2)
            have dp : d.n = p.data.length := m4.bs.len.symm
            have nds := H4.ok.nds p (H4.mem e2)
            have hnmax : p.needs.length ≤ maxLen := Nat.le_trans m6.is.i.le m6.is.i.cap
            clear r5 b5 s6 H4 z0 z1 m4 hr cy I B6
            go_loopw [10] (fun v wx => ∃ i : Nat, i ≤ p.needs.length ∧ v = .int .i64 (i : Int) ∧ NdI w wx r Z.l (n3 is Z.l k p i) ∧ Stp (fun x => x = r) w6 wx) (fun v _ => p.needs.length - (intOf v).toNat)
            case atStart => exact ⟨0, Nat.zero_le _, rfl, I6, Stp.refl _ _⟩
            case round =>
              clear I6
              obtain ⟨i, hi, rfl, I, st⟩ := hrel
              have p8 : (0 : Int) ≤ (i : Int) := by omega
              have rx := r6.step st hg5r
              have c5 := (Pt.cells rx).2.2.2.2.2.1
              by_cases hil : i < p.needs.length
              · have p9 : (i : Int) < (p.needs.length : Int) := by omega
                have mx := m6.step st hRr
                obtain ⟨nb, no, en, hnc⟩ := mx.is.i.cell (by show 0 < p.needs.length; omega)
                simp only at en
                subst en
                have cn := hnc i hil
                have hx : p.needs[i]? = some (p.needs.getD i 0) := by rw [List.getElem?_eq_getElem hil, List.getD_eq_getElem?_getD, List.getElem?_eq_getElem hil]; rfl
                have hxl := (nds _ (List.mem_of_getElem? hx)).2
                generalize p.needs.getD i 0 = x at *
                have hF := find_any (H6.step st (fun e => by omega) hRr) x
                clear hnc mx rx
                rcases fdx_cases Z.l x with ⟨f1, f2⟩ | ⟨j, q, f1, f2, f3, f4⟩
                · have I2 := I.to (fun bs h => n3_no h hx f2)
                  rw [f1] at hF
                  clear f1 f2
                  go_wp2_with (first
                    | (go_at_call 52; refine hF.mono ?_; rintro e w2 ⟨rfl, rfl⟩))
                  go_roundw
                  case rel => exact ⟨i + 1, by omega, by go_num, I2, st⟩
                  case measure => simp [intOf]; try omega
                · obtain ⟨I2, s2⟩ := I.set j a1 (fun bs h => n3_yes H.ok.srt h hget hx hxl f2 (fnd_mem f3).2)
                  have st2 := st.next s2 (fun x hx => .inl hx)
                  have cy := I.cell f2
                  have fy := I.froz j
                  have p1 : (0 : Int) ≤ (j : Int) := by omega
                  have p2 : (j : Int) < (L.length : Int) := by rw [hlen'.out]; omega
                  rw [f1] at hF
                  clear f1 f2 f3 f4 s2
                  go_wp2_with (first
                    | (go_at_call 52; refine hF.mono ?_; rintro e w2 ⟨rfl, rfl⟩))
                  go_roundw
                  case rel => exact ⟨i + 1, by omega, by go_num, I2, st2⟩
                  case measure => simp [intOf]; try omega
              · have p9 : ¬ (i : Int) < (p.needs.length : Int) := by omega
                have ei : i = p.needs.length := by omega
                rw [ei] at I
                have I4 := I.to (fun bs h => n4_zero h)
                clear I ei hi rx
                go_wp2_with fail
                clear c5 p9 p8
                go_loopw [12] (fun v wx => ∃ i : Nat, i ≤ k ∧ v = .int .i64 (i : Int) ∧ NdI w wx r Z.l (n4 is Z.l k p i) ∧ Stp (fun x => x = r) w6 wx) (fun v _ => k - (intOf v).toNat)
                case atStart => exact ⟨0, Nat.zero_le _, rfl, I4, st⟩
                case round =>
                  clear I4 st
                  obtain ⟨i, hi, rfl, I, st⟩ := hrel
                  have p8 : (0 : Int) ≤ (i : Int) := by omega
                  have r8 := r6.step st hg5r
                  have c8 := (Pt.cells r8).2.2.2.2.2.2.2.2
                  obtain ⟨pw, hpw⟩ : ∃ pw, Hid (p.wr = pw) := ⟨_, rfl⟩
                  rw [hpw.out] at c8
                  by_cases hik : i < k
                  · have p9 : (i : Int) < (k : Int) := by omega
                    have p7 : (i : Int) < (L.length : Int) := by omega
                    cases pw with
                    | true =>
                      have I2 := I.to (fun bs h => n4_end h hget (.inr hpw.out) hi hy.out)
                      go_wp2_with fail
                      go_roundw
                      case rel => exact ⟨k, by omega, by go_num, I2⟩
                      case measure => simp [intOf]; try omega
                    | false =>
                      have H8 := H6.step st (fun e => by omega) hRr
                      obtain ⟨z0, z1⟩ := H8.cells
                      obtain ⟨b', t, eb, e3, hrt⟩ := H8.row.el i (by omega)
                      injection eb with eb; injection eb with eb; subst eb
                      have ft := H8.ok.ft _ (H8.mem e3)
                      have lt : t.d.n = t.p.data.length := (H8.dl e3).2.2.bs.len.symm
                      have hM := fun w => rmeet_any w t ⟨p, d, ⟨na, p.needs.length, nc⟩⟩ ft fp lt dp
                      have gt3 := H8.get e3
                      obtain ⟨wb, hw⟩ : ∃ wb, Hid (t.p.wr = wb) := ⟨_, rfl⟩
                      go_wp2_with fail
                      refine wp_region_held_drew (S := fun u => Below wr.heap.size wr u) (by kernel_rfl) (Below.refl _ _).drew (fun hHeld => ?_)
                      cases wb with
                      | true =>
                        refine wpAnyH_take (i := 0) (oi := { dst := some 89, op := Op.move (Operand.tmp 0), type := 26, pos := _, after := #[], guard := none }) (v := .pointer (some ⟨g, 0, none⟩)) rfl (by kernel_rfl) (by kernel_rfl) (by kernel_rfl) (fun _ _ _ h => h) (Or.inl ⟨by rfl, ?_⟩) hHeld ?_
                        · intro u hu
                          go_simp
                        try simp only [Act.put, List.setIfInBounds_toArray, List.set_cons_zero, List.set_cons_succ]
                        refine wpAnyH_take (i := 1) (oi := { dst := some 90, op := Op.nilCheck (Operand.tmp 89), type := 0, pos := _, after := #[{ on := 0, ground := Ground.data }], guard := none }) (v := .pointer (some ⟨g, 0, none⟩)) rfl (by kernel_rfl) (by kernel_rfl) (by kernel_rfl) (fun _ _ _ h => h) (Or.inl ⟨by rfl, ?_⟩) hHeld ?_
                        · intro u hu
                          go_simp
                        try simp only [Act.put, List.setIfInBounds_toArray, List.set_cons_zero, List.set_cons_succ]
                        refine wpAnyH_take (i := 2) (oi := { dst := some 91, op := Op.fieldAddr 61 (Operand.tmp 90) 1, type := 0, pos := _, after := #[{ on := 1, ground := Ground.data }], guard := none }) (v := .pointer (some ⟨g, 1, none⟩)) rfl (by kernel_rfl) (by kernel_rfl) (by kernel_rfl) (fun _ _ _ h => h) (Or.inl ⟨by rfl, ?_⟩) hHeld ?_
                        · intro u hu
                          go_simp
                        try simp only [Act.put, List.setIfInBounds_toArray, List.set_cons_zero, List.set_cons_succ]
                        refine wpAnyH_take (i := 3) (oi := { dst := some 92, op := Op.load 22 (Operand.tmp 91), type := 22, pos := _, after := #[{ on := 2, ground := Ground.data }], guard := none }) (v := .slice (some ⟨b, 0, none⟩) L.length c) rfl (by kernel_rfl) (by kernel_rfl) (by kernel_rfl) (fun _ _ _ h => h) (Or.inl ⟨by rfl, ?_⟩) hHeld ?_
                        · intro u hu
                          have x1 := (Stp.of_below hu (fun _ => False)).cell z1 id; go_simp
                        try simp only [Act.put, List.setIfInBounds_toArray, List.set_cons_zero, List.set_cons_succ]
                        refine wpAnyH_take (i := 4) (oi := { dst := some 93, op := Op.move (Operand.tmp 12), type := 3, pos := _, after := #[], guard := none }) (v := .int .i64 (i : Int)) rfl (by kernel_rfl) (by kernel_rfl) (by kernel_rfl) (fun _ _ _ h => h) (Or.inl ⟨by rfl, ?_⟩) hHeld ?_
                        · intro u hu
                          go_simp
                        try simp only [Act.put, List.setIfInBounds_toArray, List.set_cons_zero, List.set_cons_succ]
                        refine wpAnyH_take (i := 5) (oi := { dst := some 94, op := Op.indexAddr 22 (Operand.tmp 92) (Operand.tmp 93), type := 0, pos := _, after := #[{ on := 3, ground := Ground.data }, { on := 4, ground := Ground.data }], guard := none }) (v := .pointer (some ⟨b, i * 9, none⟩)) rfl (by kernel_rfl) (by kernel_rfl) (by kernel_rfl) (fun _ _ _ h => h) (Or.inl ⟨by rfl, ?_⟩) hHeld ?_
                        · intro u hu
                          go_simp
                        try simp only [Act.put, List.setIfInBounds_toArray, List.set_cons_zero, List.set_cons_succ]
                        refine wpAnyH_take (i := 6) (oi := { dst := some 95, op := Op.fieldAddr 40 (Operand.tmp 94) 8, type := 0, pos := _, after := #[{ on := 5, ground := Ground.data }], guard := none }) (v := .pointer (some ⟨b, i * 9 + 8, none⟩)) rfl (by kernel_rfl) (by kernel_rfl) (by kernel_rfl) (fun _ _ _ h => h) (Or.inl ⟨by rfl, ?_⟩) hHeld ?_
                        · intro u hu
                          go_simp
                        try simp only [Act.put, List.setIfInBounds_toArray, List.set_cons_zero, List.set_cons_succ]
                        refine wpAnyH_take (i := 7) (oi := { dst := some 96, op := Op.load 4 (Operand.tmp 95), type := 4, pos := _, after := #[{ on := 6, ground := Ground.data }], guard := none }) (v := .bool true) rfl (by kernel_rfl) (by kernel_rfl) (by kernel_rfl) (fun _ _ _ h => h) (Or.inl ⟨by rfl, ?_⟩) hHeld ?_
                        · intro u hu
                          have x1 := (Stp.of_below hu (fun _ => False)).cell (Pe.at9 hrt).2.2.2.2.2.2.2.2 id; rw [hw.out] at x1; go_simp
                        try simp only [Act.put, List.setIfInBounds_toArray, List.set_cons_zero, List.set_cons_succ]
                        refine wpAnyH_take (i := 8) (oi := { dst := some 97, op := Op.unOp UnOp.not 4 (Operand.tmp 96), type := 4, pos := _, after := #[{ on := 7, ground := Ground.data }], guard := none }) (v := .bool false) rfl (by kernel_rfl) (by kernel_rfl) (by kernel_rfl) (fun _ _ _ h => h) (Or.inl ⟨by rfl, ?_⟩) hHeld ?_
                        · intro u hu
                          go_simp
                        try simp only [Act.put, List.setIfInBounds_toArray, List.set_cons_zero, List.set_cons_succ]
                        refine wpAnyH_take (i := 9) (oi := { dst := some 98, op := Op.move (Operand.tmp 97), type := 4, pos := _, after := #[{ on := 8, ground := Ground.data }], guard := none }) (v := .bool false) rfl (by kernel_rfl) (by kernel_rfl) (by kernel_rfl) (fun _ _ _ h => h) (Or.inl ⟨by rfl, ?_⟩) hHeld ?_
                        · intro u hu
                          go_simp
                        try simp only [Act.put, List.setIfInBounds_toArray, List.set_cons_zero, List.set_cons_succ]
                        refine wpAnyH_take (i := 10) (oi := { dst := some 99, op := Op.move (Operand.tmp 0), type := 26, pos := _, after := #[{ on := 9, ground := Ground.guard }], guard := some (9, true) }) (v := undef) rfl (by kernel_rfl) (by kernel_rfl) (by kernel_rfl) (fun _ _ _ h => h)
                          (Or.inr ⟨by rfl, rfl⟩) hHeld ?_
                        try simp only [Act.put, List.setIfInBounds_toArray, List.set_cons_zero, List.set_cons_succ]
                        refine wpAnyH_take (i := 11) (oi := { dst := some 100, op := Op.nilCheck (Operand.tmp 99), type := 0, pos := _, after := #[{ on := 10, ground := Ground.data }, { on := 9, ground := Ground.guard }], guard := some (9, true) }) (v := undef) rfl (by kernel_rfl) (by kernel_rfl) (by kernel_rfl) (fun _ _ _ h => h)
                          (Or.inr ⟨by rfl, rfl⟩) hHeld ?_
                        try simp only [Act.put, List.setIfInBounds_toArray, List.set_cons_zero, List.set_cons_succ]
                        refine wpAnyH_take (i := 12) (oi := { dst := some 101, op := Op.fieldAddr 61 (Operand.tmp 100) 1, type := 0, pos := _, after := #[{ on := 11, ground := Ground.data }, { on := 9, ground := Ground.guard }], guard := some (9, true) }) (v := undef) rfl (by kernel_rfl) (by kernel_rfl) (by kernel_rfl) (fun _ _ _ h => h)
                          (Or.inr ⟨by rfl, rfl⟩) hHeld ?_
                        try simp only [Act.put, List.setIfInBounds_toArray, List.set_cons_zero, List.set_cons_succ]
                        refine wpAnyH_take (i := 13) (oi := { dst := some 102, op := Op.load 22 (Operand.tmp 101), type := 22, pos := _, after := #[{ on := 12, ground := Ground.data }, { on := 9, ground := Ground.guard }], guard := some (9, true) }) (v := undef) rfl (by kernel_rfl) (by kernel_rfl) (by kernel_rfl) (fun _ _ _ h => h)
                          (Or.inr ⟨by rfl, rfl⟩) hHeld ?_
                        try simp only [Act.put, List.setIfInBounds_toArray, List.set_cons_zero, List.set_cons_succ]
                        refine wpAnyH_take (i := 14) (oi := { dst := some 103, op := Op.move (Operand.tmp 12), type := 3, pos := _, after := #[{ on := 9, ground := Ground.guard }], guard := some (9, true) }) (v := undef) rfl (by kernel_rfl) (by kernel_rfl) (by kernel_rfl) (fun _ _ _ h => h)
                          (Or.inr ⟨by rfl, rfl⟩) hHeld ?_
                        try simp only [Act.put, List.setIfInBounds_toArray, List.set_cons_zero, List.set_cons_succ]
                        refine wpAnyH_take (i := 15) (oi := { dst := some 104, op := Op.indexAddr 22 (Operand.tmp 102) (Operand.tmp 103), type := 0, pos := _, after := #[{ on := 13, ground := Ground.data }, { on := 14, ground := Ground.data }, { on := 9, ground := Ground.guard }], guard := some (9, true) }) (v := undef) rfl (by kernel_rfl) (by kernel_rfl) (by kernel_rfl) (fun _ _ _ h => h)
                          (Or.inr ⟨by rfl, rfl⟩) hHeld ?_
                        try simp only [Act.put, List.setIfInBounds_toArray, List.set_cons_zero, List.set_cons_succ]
                        refine wpAnyH_take (i := 16) (oi := { dst := some 105, op := Op.load 40 (Operand.tmp 104), type := 40, pos := _, after := #[{ on := 15, ground := Ground.data }, { on := 9, ground := Ground.guard }], guard := some (9, true) }) (v := undef) rfl (by kernel_rfl) (by kernel_rfl) (by kernel_rfl) (fun _ _ _ h => h)
                          (Or.inr ⟨by rfl, rfl⟩) hHeld ?_
                        try simp only [Act.put, List.setIfInBounds_toArray, List.set_cons_zero, List.set_cons_succ]
                        refine wpAnyH_take (i := 17) (oi := { dst := some 106, op := Op.load 40 (Operand.tmp 9), type := 40, pos := _, after := #[{ on := 9, ground := Ground.guard }], guard := some (9, true) }) (v := undef) rfl (by kernel_rfl) (by kernel_rfl) (by kernel_rfl) (fun _ _ _ h => h)
                          (Or.inr ⟨by rfl, rfl⟩) hHeld ?_
                        try simp only [Act.put, List.setIfInBounds_toArray, List.set_cons_zero, List.set_cons_succ]
                        refine wpAnyH_take (i := 18) (oi := { dst := some 107, op := Op.call { callee := Callee.value (Operand.func 71), args := #[Operand.tmp 105, Operand.tmp 106], argTypes := #[40, 40] }, type := 4, pos := _, after := #[{ on := 16, ground := Ground.data }, { on := 17, ground := Ground.data }, { on := 9, ground := Ground.chain }, { on := 9, ground := Ground.guard }], guard := some (9, true) }) (v := undef) rfl (by kernel_rfl) (by kernel_rfl) (by kernel_rfl) (fun _ _ _ h => h)
                          (Or.inr ⟨by rfl, rfl⟩) hHeld ?_
                        try simp only [Act.put, List.setIfInBounds_toArray, List.set_cons_zero, List.set_cons_succ]
                        refine wpAnyH_take (i := 19) (oi := { dst := some 108, op := Op.pick (Operand.tmp 98) (Operand.tmp 107) (Operand.const (Value.bool false)), type := 4, pos := _, after := #[{ on := 9, ground := Ground.data }, { on := 18, ground := Ground.data }], guard := none }) (v := .bool false) rfl (by kernel_rfl) (by kernel_rfl) (by kernel_rfl) (fun _ _ _ h => h) (Or.inl ⟨by rfl, ?_⟩) hHeld ?_
                        · intro u hu
                          go_simp
                        try simp only [Act.put, List.setIfInBounds_toArray, List.set_cons_zero, List.set_cons_succ]
                        refine wpAnyH_done (by kernel_rfl) ?_ _
                        have I3 := I.to (fun bs h => n4_no h gt3 (by rw [hpw.out, hw.out]; rfl))
                        have I9 := I3.later hHeld
                        have st9 := st.next (Stp.of_below hHeld (fun x => x = r)) (fun x hx => .inl hx)
                        go_wp2_with fail
                        go_roundw
                        case rel => exact ⟨i + 1, by omega, by go_num, I9, st9⟩
                        case measure => simp [intOf]; try omega
                      | false =>
                        cases hm : meet t.p p with
                        | false =>
                          refine wpAnyH_take (i := 0) (oi := { dst := some 89, op := Op.move (Operand.tmp 0), type := 26, pos := _, after := #[], guard := none }) (v := .pointer (some ⟨g, 0, none⟩)) rfl (by kernel_rfl) (by kernel_rfl) (by kernel_rfl) (fun _ _ _ h => h) (Or.inl ⟨by rfl, ?_⟩) hHeld ?_
                          · intro u hu
                            go_simp
                          try simp only [Act.put, List.setIfInBounds_toArray, List.set_cons_zero, List.set_cons_succ]
                          refine wpAnyH_take (i := 1) (oi := { dst := some 90, op := Op.nilCheck (Operand.tmp 89), type := 0, pos := _, after := #[{ on := 0, ground := Ground.data }], guard := none }) (v := .pointer (some ⟨g, 0, none⟩)) rfl (by kernel_rfl) (by kernel_rfl) (by kernel_rfl) (fun _ _ _ h => h) (Or.inl ⟨by rfl, ?_⟩) hHeld ?_
                          · intro u hu
                            go_simp
                          try simp only [Act.put, List.setIfInBounds_toArray, List.set_cons_zero, List.set_cons_succ]
                          refine wpAnyH_take (i := 2) (oi := { dst := some 91, op := Op.fieldAddr 61 (Operand.tmp 90) 1, type := 0, pos := _, after := #[{ on := 1, ground := Ground.data }], guard := none }) (v := .pointer (some ⟨g, 1, none⟩)) rfl (by kernel_rfl) (by kernel_rfl) (by kernel_rfl) (fun _ _ _ h => h) (Or.inl ⟨by rfl, ?_⟩) hHeld ?_
                          · intro u hu
                            go_simp
                          try simp only [Act.put, List.setIfInBounds_toArray, List.set_cons_zero, List.set_cons_succ]
                          refine wpAnyH_take (i := 3) (oi := { dst := some 92, op := Op.load 22 (Operand.tmp 91), type := 22, pos := _, after := #[{ on := 2, ground := Ground.data }], guard := none }) (v := .slice (some ⟨b, 0, none⟩) L.length c) rfl (by kernel_rfl) (by kernel_rfl) (by kernel_rfl) (fun _ _ _ h => h) (Or.inl ⟨by rfl, ?_⟩) hHeld ?_
                          · intro u hu
                            have x1 := (Stp.of_below hu (fun _ => False)).cell z1 id; go_simp
                          try simp only [Act.put, List.setIfInBounds_toArray, List.set_cons_zero, List.set_cons_succ]
                          refine wpAnyH_take (i := 4) (oi := { dst := some 93, op := Op.move (Operand.tmp 12), type := 3, pos := _, after := #[], guard := none }) (v := .int .i64 (i : Int)) rfl (by kernel_rfl) (by kernel_rfl) (by kernel_rfl) (fun _ _ _ h => h) (Or.inl ⟨by rfl, ?_⟩) hHeld ?_
                          · intro u hu
                            go_simp
                          try simp only [Act.put, List.setIfInBounds_toArray, List.set_cons_zero, List.set_cons_succ]
                          refine wpAnyH_take (i := 5) (oi := { dst := some 94, op := Op.indexAddr 22 (Operand.tmp 92) (Operand.tmp 93), type := 0, pos := _, after := #[{ on := 3, ground := Ground.data }, { on := 4, ground := Ground.data }], guard := none }) (v := .pointer (some ⟨b, i * 9, none⟩)) rfl (by kernel_rfl) (by kernel_rfl) (by kernel_rfl) (fun _ _ _ h => h) (Or.inl ⟨by rfl, ?_⟩) hHeld ?_
                          · intro u hu
                            go_simp
                          try simp only [Act.put, List.setIfInBounds_toArray, List.set_cons_zero, List.set_cons_succ]
                          refine wpAnyH_take (i := 6) (oi := { dst := some 95, op := Op.fieldAddr 40 (Operand.tmp 94) 8, type := 0, pos := _, after := #[{ on := 5, ground := Ground.data }], guard := none }) (v := .pointer (some ⟨b, i * 9 + 8, none⟩)) rfl (by kernel_rfl) (by kernel_rfl) (by kernel_rfl) (fun _ _ _ h => h) (Or.inl ⟨by rfl, ?_⟩) hHeld ?_
                          · intro u hu
                            go_simp
                          try simp only [Act.put, List.setIfInBounds_toArray, List.set_cons_zero, List.set_cons_succ]
                          refine wpAnyH_take (i := 7) (oi := { dst := some 96, op := Op.load 4 (Operand.tmp 95), type := 4, pos := _, after := #[{ on := 6, ground := Ground.data }], guard := none }) (v := .bool false) rfl (by kernel_rfl) (by kernel_rfl) (by kernel_rfl) (fun _ _ _ h => h) (Or.inl ⟨by rfl, ?_⟩) hHeld ?_
                          · intro u hu
                            have x1 := (Stp.of_below hu (fun _ => False)).cell (Pe.at9 hrt).2.2.2.2.2.2.2.2 id; rw [hw.out] at x1; go_simp
                          try simp only [Act.put, List.setIfInBounds_toArray, List.set_cons_zero, List.set_cons_succ]
                          refine wpAnyH_take (i := 8) (oi := { dst := some 97, op := Op.unOp UnOp.not 4 (Operand.tmp 96), type := 4, pos := _, after := #[{ on := 7, ground := Ground.data }], guard := none }) (v := .bool true) rfl (by kernel_rfl) (by kernel_rfl) (by kernel_rfl) (fun _ _ _ h => h) (Or.inl ⟨by rfl, ?_⟩) hHeld ?_
                          · intro u hu
                            go_simp
                          try simp only [Act.put, List.setIfInBounds_toArray, List.set_cons_zero, List.set_cons_succ]
                          refine wpAnyH_take (i := 9) (oi := { dst := some 98, op := Op.move (Operand.tmp 97), type := 4, pos := _, after := #[{ on := 8, ground := Ground.data }], guard := none }) (v := .bool true) rfl (by kernel_rfl) (by kernel_rfl) (by kernel_rfl) (fun _ _ _ h => h) (Or.inl ⟨by rfl, ?_⟩) hHeld ?_
                          · intro u hu
                            go_simp
                          try simp only [Act.put, List.setIfInBounds_toArray, List.set_cons_zero, List.set_cons_succ]
                          refine wpAnyH_take (i := 10) (oi := { dst := some 99, op := Op.move (Operand.tmp 0), type := 26, pos := _, after := #[{ on := 9, ground := Ground.guard }], guard := some (9, true) }) (v := .pointer (some ⟨g, 0, none⟩)) rfl (by kernel_rfl) (by kernel_rfl) (by kernel_rfl) (fun _ _ _ h => h) (Or.inl ⟨by rfl, ?_⟩) hHeld ?_
                          · intro u hu
                            go_simp
                          try simp only [Act.put, List.setIfInBounds_toArray, List.set_cons_zero, List.set_cons_succ]
                          refine wpAnyH_take (i := 11) (oi := { dst := some 100, op := Op.nilCheck (Operand.tmp 99), type := 0, pos := _, after := #[{ on := 10, ground := Ground.data }, { on := 9, ground := Ground.guard }], guard := some (9, true) }) (v := .pointer (some ⟨g, 0, none⟩)) rfl (by kernel_rfl) (by kernel_rfl) (by kernel_rfl) (fun _ _ _ h => h) (Or.inl ⟨by rfl, ?_⟩) hHeld ?_
                          · intro u hu
                            go_simp
                          try simp only [Act.put, List.setIfInBounds_toArray, List.set_cons_zero, List.set_cons_succ]
                          refine wpAnyH_take (i := 12) (oi := { dst := some 101, op := Op.fieldAddr 61 (Operand.tmp 100) 1, type := 0, pos := _, after := #[{ on := 11, ground := Ground.data }, { on := 9, ground := Ground.guard }], guard := some (9, true) }) (v := .pointer (some ⟨g, 1, none⟩)) rfl (by kernel_rfl) (by kernel_rfl) (by kernel_rfl) (fun _ _ _ h => h) (Or.inl ⟨by rfl, ?_⟩) hHeld ?_
                          · intro u hu
                            go_simp
                          try simp only [Act.put, List.setIfInBounds_toArray, List.set_cons_zero, List.set_cons_succ]
                          refine wpAnyH_take (i := 13) (oi := { dst := some 102, op := Op.load 22 (Operand.tmp 101), type := 22, pos := _, after := #[{ on := 12, ground := Ground.data }, { on := 9, ground := Ground.guard }], guard := some (9, true) }) (v := .slice (some ⟨b, 0, none⟩) L.length c) rfl (by kernel_rfl) (by kernel_rfl) (by kernel_rfl) (fun _ _ _ h => h) (Or.inl ⟨by rfl, ?_⟩) hHeld ?_
                          · intro u hu
                            have x1 := (Stp.of_below hu (fun _ => False)).cell z1 id; go_simp
                          try simp only [Act.put, List.setIfInBounds_toArray, List.set_cons_zero, List.set_cons_succ]
                          refine wpAnyH_take (i := 14) (oi := { dst := some 103, op := Op.move (Operand.tmp 12), type := 3, pos := _, after := #[{ on := 9, ground := Ground.guard }], guard := some (9, true) }) (v := .int .i64 (i : Int)) rfl (by kernel_rfl) (by kernel_rfl) (by kernel_rfl) (fun _ _ _ h => h) (Or.inl ⟨by rfl, ?_⟩) hHeld ?_
                          · intro u hu
                            go_simp
                          try simp only [Act.put, List.setIfInBounds_toArray, List.set_cons_zero, List.set_cons_succ]
                          refine wpAnyH_take (i := 15) (oi := { dst := some 104, op := Op.indexAddr 22 (Operand.tmp 102) (Operand.tmp 103), type := 0, pos := _, after := #[{ on := 13, ground := Ground.data }, { on := 14, ground := Ground.data }, { on := 9, ground := Ground.guard }], guard := some (9, true) }) (v := .pointer (some ⟨b, i * 9, none⟩)) rfl (by kernel_rfl) (by kernel_rfl) (by kernel_rfl) (fun _ _ _ h => h) (Or.inl ⟨by rfl, ?_⟩) hHeld ?_
                          · intro u hu
                            go_simp
                          try simp only [Act.put, List.setIfInBounds_toArray, List.set_cons_zero, List.set_cons_succ]
                          refine wpAnyH_take (i := 16) (oi := { dst := some 105, op := Op.load 40 (Operand.tmp 104), type := 40, pos := _, after := #[{ on := 15, ground := Ground.data }, { on := 9, ground := Ground.guard }], guard := some (9, true) }) (v := .agg t.cs.toArray) rfl (by kernel_rfl) (by kernel_rfl) (by kernel_rfl) (fun _ _ _ h => h)
                            (yields_E (by rfl) _ (by rfl) b (i * 9) (by rfl) t (fun u hu => (Stp.of_below hu (fun _ => False)).range hrt id)) hHeld ?_
                          try simp only [Act.put, List.setIfInBounds_toArray, List.set_cons_zero, List.set_cons_succ]
                          refine wpAnyH_take (i := 17) (oi := { dst := some 106, op := Op.load 40 (Operand.tmp 9), type := 40, pos := _, after := #[{ on := 9, ground := Ground.guard }], guard := some (9, true) }) (v := .agg (p.cs d ⟨na, p.needs.length, nc⟩).toArray) rfl (by kernel_rfl) (by kernel_rfl) (by kernel_rfl) (fun _ _ _ h => h)
                            (yields_P (by rfl) _ (by rfl) g5 (by rfl) p d ⟨na, p.needs.length, nc⟩ (fun u hu => r8.later hu)) hHeld ?_
                          try simp only [Act.put, List.setIfInBounds_toArray, List.set_cons_zero, List.set_cons_succ]
                          refine wpAnyH_ready (rs := [18]) (by kernel_rfl) (by simp) ?_
                          refine (AllReadyH.cons (o := { dst := some 107, op := Op.call { callee := Callee.value (Operand.func 71), args := #[Operand.tmp 105, Operand.tmp 106], argTypes := #[40, 40] }, type := 4, pos := _, after := #[{ on := 16, ground := Ground.data }, { on := 17, ground := Ground.data }, { on := 9, ground := Ground.chain }, { on := 9, ground := Ground.guard }], guard := some (9, true) }) rfl (fun K hK => ?_) AllReadyH.nil)
                          go_simp
                          refine (hM _).mono ?_
                          rw [hm]
                          rintro e w7 ⟨rfl, q7⟩
                          try go_wp2_with fail
                          refine hK.out _ _ (bnext (by assumption) q7 (Nat.le_refl _)) (fun hHeld => ?_)
                          clear hK K
                          try simp only [Act.put, List.setIfInBounds_toArray, List.set_cons_zero, List.set_cons_succ]
                          refine wpAnyH_take (i := 19) (oi := { dst := some 108, op := Op.pick (Operand.tmp 98) (Operand.tmp 107) (Operand.const (Value.bool false)), type := 4, pos := _, after := #[{ on := 9, ground := Ground.data }, { on := 18, ground := Ground.data }], guard := none }) (v := .bool false) rfl (by kernel_rfl) (by kernel_rfl) (by kernel_rfl) (fun _ _ _ h => h) (Or.inl ⟨by rfl, ?_⟩) hHeld ?_
                          · intro u hu
                            go_simp
                          try simp only [Act.put, List.setIfInBounds_toArray, List.set_cons_zero, List.set_cons_succ]
                          refine wpAnyH_done (by kernel_rfl) ?_ _
                          have I3 := I.to (fun bs h => n4_no h gt3 (by rw [hpw.out, hw.out, hm]; rfl))
                          have I9 := I3.later hHeld
                          have st9 := st.next (Stp.of_below hHeld (fun x => x = r)) (fun x hx => .inl hx)
                          go_wp2_with fail
                          go_roundw
                          case rel => exact ⟨i + 1, by omega, by go_num, I9, st9⟩
                          case measure => simp [intOf]; try omega
                        | true =>
                          refine wpAnyH_take (i := 0) (oi := { dst := some 89, op := Op.move (Operand.tmp 0), type := 26, pos := _, after := #[], guard := none }) (v := .pointer (some ⟨g, 0, none⟩)) rfl (by kernel_rfl) (by kernel_rfl) (by kernel_rfl) (fun _ _ _ h => h) (Or.inl ⟨by rfl, ?_⟩) hHeld ?_
                          · intro u hu
                            go_simp
                          try simp only [Act.put, List.setIfInBounds_toArray, List.set_cons_zero, List.set_cons_succ]
                          refine wpAnyH_take (i := 1) (oi := { dst := some 90, op := Op.nilCheck (Operand.tmp 89), type := 0, pos := _, after := #[{ on := 0, ground := Ground.data }], guard := none }) (v := .pointer (some ⟨g, 0, none⟩)) rfl (by kernel_rfl) (by kernel_rfl) (by kernel_rfl) (fun _ _ _ h => h) (Or.inl ⟨by rfl, ?_⟩) hHeld ?_
                          · intro u hu
                            go_simp
                          try simp only [Act.put, List.setIfInBounds_toArray, List.set_cons_zero, List.set_cons_succ]
                          refine wpAnyH_take (i := 2) (oi := { dst := some 91, op := Op.fieldAddr 61 (Operand.tmp 90) 1, type := 0, pos := _, after := #[{ on := 1, ground := Ground.data }], guard := none }) (v := .pointer (some ⟨g, 1, none⟩)) rfl (by kernel_rfl) (by kernel_rfl) (by kernel_rfl) (fun _ _ _ h => h) (Or.inl ⟨by rfl, ?_⟩) hHeld ?_
                          · intro u hu
                            go_simp
                          try simp only [Act.put, List.setIfInBounds_toArray, List.set_cons_zero, List.set_cons_succ]
                          refine wpAnyH_take (i := 3) (oi := { dst := some 92, op := Op.load 22 (Operand.tmp 91), type := 22, pos := _, after := #[{ on := 2, ground := Ground.data }], guard := none }) (v := .slice (some ⟨b, 0, none⟩) L.length c) rfl (by kernel_rfl) (by kernel_rfl) (by kernel_rfl) (fun _ _ _ h => h) (Or.inl ⟨by rfl, ?_⟩) hHeld ?_
                          · intro u hu
                            have x1 := (Stp.of_below hu (fun _ => False)).cell z1 id; go_simp
                          try simp only [Act.put, List.setIfInBounds_toArray, List.set_cons_zero, List.set_cons_succ]
                          refine wpAnyH_take (i := 4) (oi := { dst := some 93, op := Op.move (Operand.tmp 12), type := 3, pos := _, after := #[], guard := none }) (v := .int .i64 (i : Int)) rfl (by kernel_rfl) (by kernel_rfl) (by kernel_rfl) (fun _ _ _ h => h) (Or.inl ⟨by rfl, ?_⟩) hHeld ?_
                          · intro u hu
                            go_simp
                          try simp only [Act.put, List.setIfInBounds_toArray, List.set_cons_zero, List.set_cons_succ]
                          refine wpAnyH_take (i := 5) (oi := { dst := some 94, op := Op.indexAddr 22 (Operand.tmp 92) (Operand.tmp 93), type := 0, pos := _, after := #[{ on := 3, ground := Ground.data }, { on := 4, ground := Ground.data }], guard := none }) (v := .pointer (some ⟨b, i * 9, none⟩)) rfl (by kernel_rfl) (by kernel_rfl) (by kernel_rfl) (fun _ _ _ h => h) (Or.inl ⟨by rfl, ?_⟩) hHeld ?_
                          · intro u hu
                            go_simp
                          try simp only [Act.put, List.setIfInBounds_toArray, List.set_cons_zero, List.set_cons_succ]
                          refine wpAnyH_take (i := 6) (oi := { dst := some 95, op := Op.fieldAddr 40 (Operand.tmp 94) 8, type := 0, pos := _, after := #[{ on := 5, ground := Ground.data }], guard := none }) (v := .pointer (some ⟨b, i * 9 + 8, none⟩)) rfl (by kernel_rfl) (by kernel_rfl) (by kernel_rfl) (fun _ _ _ h => h) (Or.inl ⟨by rfl, ?_⟩) hHeld ?_
                          · intro u hu
                            go_simp
                          try simp only [Act.put, List.setIfInBounds_toArray, List.set_cons_zero, List.set_cons_succ]
                          refine wpAnyH_take (i := 7) (oi := { dst := some 96, op := Op.load 4 (Operand.tmp 95), type := 4, pos := _, after := #[{ on := 6, ground := Ground.data }], guard := none }) (v := .bool false) rfl (by kernel_rfl) (by kernel_rfl) (by kernel_rfl) (fun _ _ _ h => h) (Or.inl ⟨by rfl, ?_⟩) hHeld ?_
                          · intro u hu
                            have x1 := (Stp.of_below hu (fun _ => False)).cell (Pe.at9 hrt).2.2.2.2.2.2.2.2 id; rw [hw.out] at x1; go_simp
                          try simp only [Act.put, List.setIfInBounds_toArray, List.set_cons_zero, List.set_cons_succ]
                          refine wpAnyH_take (i := 8) (oi := { dst := some 97, op := Op.unOp UnOp.not 4 (Operand.tmp 96), type := 4, pos := _, after := #[{ on := 7, ground := Ground.data }], guard := none }) (v := .bool true) rfl (by kernel_rfl) (by kernel_rfl) (by kernel_rfl) (fun _ _ _ h => h) (Or.inl ⟨by rfl, ?_⟩) hHeld ?_
                          · intro u hu
                            go_simp
                          try simp only [Act.put, List.setIfInBounds_toArray, List.set_cons_zero, List.set_cons_succ]
                          refine wpAnyH_take (i := 9) (oi := { dst := some 98, op := Op.move (Operand.tmp 97), type := 4, pos := _, after := #[{ on := 8, ground := Ground.data }], guard := none }) (v := .bool true) rfl (by kernel_rfl) (by kernel_rfl) (by kernel_rfl) (fun _ _ _ h => h) (Or.inl ⟨by rfl, ?_⟩) hHeld ?_
                          · intro u hu
                            go_simp
                          try simp only [Act.put, List.setIfInBounds_toArray, List.set_cons_zero, List.set_cons_succ]
                          refine wpAnyH_take (i := 10) (oi := { dst := some 99, op := Op.move (Operand.tmp 0), type := 26, pos := _, after := #[{ on := 9, ground := Ground.guard }], guard := some (9, true) }) (v := .pointer (some ⟨g, 0, none⟩)) rfl (by kernel_rfl) (by kernel_rfl) (by kernel_rfl) (fun _ _ _ h => h) (Or.inl ⟨by rfl, ?_⟩) hHeld ?_
                          · intro u hu
                            go_simp
                          try simp only [Act.put, List.setIfInBounds_toArray, List.set_cons_zero, List.set_cons_succ]
                          refine wpAnyH_take (i := 11) (oi := { dst := some 100, op := Op.nilCheck (Operand.tmp 99), type := 0, pos := _, after := #[{ on := 10, ground := Ground.data }, { on := 9, ground := Ground.guard }], guard := some (9, true) }) (v := .pointer (some ⟨g, 0, none⟩)) rfl (by kernel_rfl) (by kernel_rfl) (by kernel_rfl) (fun _ _ _ h => h) (Or.inl ⟨by rfl, ?_⟩) hHeld ?_
                          · intro u hu
                            go_simp
                          try simp only [Act.put, List.setIfInBounds_toArray, List.set_cons_zero, List.set_cons_succ]
                          refine wpAnyH_take (i := 12) (oi := { dst := some 101, op := Op.fieldAddr 61 (Operand.tmp 100) 1, type := 0, pos := _, after := #[{ on := 11, ground := Ground.data }, { on := 9, ground := Ground.guard }], guard := some (9, true) }) (v := .pointer (some ⟨g, 1, none⟩)) rfl (by kernel_rfl) (by kernel_rfl) (by kernel_rfl) (fun _ _ _ h => h) (Or.inl ⟨by rfl, ?_⟩) hHeld ?_
                          · intro u hu
                            go_simp
                          try simp only [Act.put, List.setIfInBounds_toArray, List.set_cons_zero, List.set_cons_succ]
                          refine wpAnyH_take (i := 13) (oi := { dst := some 102, op := Op.load 22 (Operand.tmp 101), type := 22, pos := _, after := #[{ on := 12, ground := Ground.data }, { on := 9, ground := Ground.guard }], guard := some (9, true) }) (v := .slice (some ⟨b, 0, none⟩) L.length c) rfl (by kernel_rfl) (by kernel_rfl) (by kernel_rfl) (fun _ _ _ h => h) (Or.inl ⟨by rfl, ?_⟩) hHeld ?_
                          · intro u hu
                            have x1 := (Stp.of_below hu (fun _ => False)).cell z1 id; go_simp
                          try simp only [Act.put, List.setIfInBounds_toArray, List.set_cons_zero, List.set_cons_succ]
                          refine wpAnyH_take (i := 14) (oi := { dst := some 103, op := Op.move (Operand.tmp 12), type := 3, pos := _, after := #[{ on := 9, ground := Ground.guard }], guard := some (9, true) }) (v := .int .i64 (i : Int)) rfl (by kernel_rfl) (by kernel_rfl) (by kernel_rfl) (fun _ _ _ h => h) (Or.inl ⟨by rfl, ?_⟩) hHeld ?_
                          · intro u hu
                            go_simp
                          try simp only [Act.put, List.setIfInBounds_toArray, List.set_cons_zero, List.set_cons_succ]
                          refine wpAnyH_take (i := 15) (oi := { dst := some 104, op := Op.indexAddr 22 (Operand.tmp 102) (Operand.tmp 103), type := 0, pos := _, after := #[{ on := 13, ground := Ground.data }, { on := 14, ground := Ground.data }, { on := 9, ground := Ground.guard }], guard := some (9, true) }) (v := .pointer (some ⟨b, i * 9, none⟩)) rfl (by kernel_rfl) (by kernel_rfl) (by kernel_rfl) (fun _ _ _ h => h) (Or.inl ⟨by rfl, ?_⟩) hHeld ?_
                          · intro u hu
                            go_simp
                          try simp only [Act.put, List.setIfInBounds_toArray, List.set_cons_zero, List.set_cons_succ]
                          refine wpAnyH_take (i := 16) (oi := { dst := some 105, op := Op.load 40 (Operand.tmp 104), type := 40, pos := _, after := #[{ on := 15, ground := Ground.data }, { on := 9, ground := Ground.guard }], guard := some (9, true) }) (v := .agg t.cs.toArray) rfl (by kernel_rfl) (by kernel_rfl) (by kernel_rfl) (fun _ _ _ h => h)
                            (yields_E (by rfl) _ (by rfl) b (i * 9) (by rfl) t (fun u hu => (Stp.of_below hu (fun _ => False)).range hrt id)) hHeld ?_
                          try simp only [Act.put, List.setIfInBounds_toArray, List.set_cons_zero, List.set_cons_succ]
                          refine wpAnyH_take (i := 17) (oi := { dst := some 106, op := Op.load 40 (Operand.tmp 9), type := 40, pos := _, after := #[{ on := 9, ground := Ground.guard }], guard := some (9, true) }) (v := .agg (p.cs d ⟨na, p.needs.length, nc⟩).toArray) rfl (by kernel_rfl) (by kernel_rfl) (by kernel_rfl) (fun _ _ _ h => h)
                            (yields_P (by rfl) _ (by rfl) g5 (by rfl) p d ⟨na, p.needs.length, nc⟩ (fun u hu => r8.later hu)) hHeld ?_
                          try simp only [Act.put, List.setIfInBounds_toArray, List.set_cons_zero, List.set_cons_succ]
                          refine wpAnyH_ready (rs := [18]) (by kernel_rfl) (by simp) ?_
                          refine (AllReadyH.cons (o := { dst := some 107, op := Op.call { callee := Callee.value (Operand.func 71), args := #[Operand.tmp 105, Operand.tmp 106], argTypes := #[40, 40] }, type := 4, pos := _, after := #[{ on := 16, ground := Ground.data }, { on := 17, ground := Ground.data }, { on := 9, ground := Ground.chain }, { on := 9, ground := Ground.guard }], guard := some (9, true) }) rfl (fun K hK => ?_) AllReadyH.nil)
                          go_simp
                          refine (hM _).mono ?_
                          rw [hm]
                          rintro e w7 ⟨rfl, q7⟩
                          try go_wp2_with fail
                          refine hK.out _ _ (bnext (by assumption) q7 (Nat.le_refl _)) (fun hHeld => ?_)
                          clear hK K
                          try simp only [Act.put, List.setIfInBounds_toArray, List.set_cons_zero, List.set_cons_succ]
                          refine wpAnyH_take (i := 19) (oi := { dst := some 108, op := Op.pick (Operand.tmp 98) (Operand.tmp 107) (Operand.const (Value.bool false)), type := 4, pos := _, after := #[{ on := 9, ground := Ground.data }, { on := 18, ground := Ground.data }], guard := none }) (v := .bool true) rfl (by kernel_rfl) (by kernel_rfl) (by kernel_rfl) (fun _ _ _ h => h) (Or.inl ⟨by rfl, ?_⟩) hHeld ?_
                          · intro u hu
                            go_simp
                          try simp only [Act.put, List.setIfInBounds_toArray, List.set_cons_zero, List.set_cons_succ]
                          refine wpAnyH_done (by kernel_rfl) ?_ _
                          have Ih := I.later hHeld
                          have cy := Ih.cell gt3
                          have fy := Ih.froz i
                          obtain ⟨I9, s9⟩ := Ih.set i a1 (fun bs h => n4_yes h gt3 (by rw [hpw.out, hw.out, hm]; rfl))
                          have st9 := (st.next (Stp.of_below hHeld (fun x => x = r)) (fun x hx => .inl hx)).next s9 (fun x hx => .inl hx)
                          go_wp2_with fail
                          go_roundw
                          case rel => exact ⟨i + 1, by omega, by go_num, I9, st9⟩
                          case measure => simp [intOf]; try omega
                  · have p9 : ¬ (i : Int) < (k : Int) := by omega
                    have I2 := I.to (fun bs h => n4_end h hget (.inl (by omega)) hi hy.out)
                    clear c8
                    go_wp2_with fail
                    go_roundw
                    case rel => exact ⟨k, by omega, by go_num, I2⟩
                    case measure => simp [intOf]; try omega
end Go.Proofs.Ytdfifneikmlmoaa
namespace Go.Proofs.Ytdfifneikmlmoaa
open Go.ChangeShapes Go.WideShapes Go.ChangeAt Go.RowKit
set_option linter.unusedVariables false
set_option linter.unusedSimpArgs false

theorem up2 {f : FuncId} {args : Array Value} {w : World} {l l' : List Int} (h : Calls Try.prog f args w fun e w' => ∃ v, e = .returned v ∧ OwV w' v l ∧ New w.heap.size v ∧ Below w.heap.size w w') (e : l = l') (hw : ∀ x ∈ l', wfi x) :
    Calls Try.prog f args w fun e w' => ∃ s : Sv, e = .returned (.slice s.a s.n s.c) ∧ InsS w' s l' ∧ Below w.heap.size w w' ∧ InE (fun x => w.heap.size ≤ x ∧ x < w'.heap.size) s := by
  subst e
  refine h.mono ?_
  rintro e w' ⟨v, rfl, o, n, b⟩
  obtain ⟨s, rfl, _, i, e⟩ := o.ins hw n
  exact ⟨s, rfl, i, b, e⟩
theorem rdS_len (l : List Pt) : ∀ (W late : List Pt), (rdS l late W).length ≤ W.length
  | [], _ => by simp [rdS]
  | a :: t, late => by
    unfold rdS
    split
    · have := rdS_len l t (late ++ [a]); simp; omega
    · have := rdS_len l t late; simp; omega
theorem wf_ids {Z : GZ} (ok : Z.ok 2000) (q : Pt → Bool) : ∀ x ∈ ids (Z.l.filter q), wfi x := fun x hx => by
  unfold ids at hx
  obtain ⟨p, hp, rfl⟩ := List.mem_map.1 hx
  exact (ok.wfp (List.mem_filter.1 hp).1).i
theorem wf_rdy {Z : GZ} (ok : Z.ok 2000) (s : Int) : ∀ x ∈ rdy Z.l s, wfi x := fun x hx => by
  unfold rdy ids at hx
  obtain ⟨p, hp, rfl⟩ := List.mem_map.1 hx
  exact (ok.wfp (wtP_mem.1 (rdS_sub _ _ _ p hp)).1).i
theorem wf_nd {Z : GZ} (ok : Z.ok 2000) (is : List Int) : ∀ x ∈ ids (nd is Z.l), wfi x := fun x hx => by
  unfold ids at hx
  obtain ⟨p, hp, rfl⟩ := List.mem_map.1 hx
  exact (ok.wfp (nd_sub is _ p hp)).i
theorem wf_secs {Z : GZ} (ok : Z.ok 2000) : ∀ x ∈ secs Z.l, wfi x := fun x hx => by
  have h1 := secs_mem.1 hx
  obtain ⟨y, hy⟩ := List.exists_mem_of_ne_nil _ h1
  obtain ⟨p, q1, q2, q3, _⟩ := wts_mem.1 hy
  have := fit_to (ok.ft p q1)
  exact wfi_of (by omega)
theorem len_ids {Z : GZ} (ok : Z.ok 2000) (q : Pt → Bool) : (ids (Z.l.filter q)).length ≤ 100000 := by
  unfold ids
  rw [List.length_map]
  have := List.length_filter_le q Z.l
  have := ok.few
  omega
theorem len_rdy {Z : GZ} (ok : Z.ok 2000) (s : Int) : (rdy Z.l s).length ≤ 100000 := by
  unfold rdy ids
  rw [List.length_map]
  have := rdS_len Z.l (wtP Z.l s) []
  have := ok.fewW s
  omega
theorem len_nd {Z : GZ} (ok : Z.ok 2000) (is : List Int) : (ids (nd is Z.l)).length ≤ 100000 := by
  rw [ids_len]
  have := nd_len is Z.l
  have := ok.few
  omega
theorem len_secs {Z : GZ} (ok : Z.ok 2000) : (secs Z.l).length ≤ 100000 := by
  have := secs_len ok
  omega
theorem wf_last {Z : GZ} (ok : Z.ok 2000) : wfi Z.last := wfi_of (by have := ok.l0; have := ok.lt; omega)
theorem two_i (w : World) (x y : Int) (hx : wfi x) (hy : wfi y) : InsS (w.alloc (.cells #[.int .i64 x, .int .i64 y] 3)) ⟨some ⟨w.heap.size, 0, none⟩, 2, 2⟩ [x, y] := by
  have h := Cs.made w [.int .i64 x, .int .i64 y] 3 (by simp [Value.oneCell'])
  refine ⟨⟨rfl, Nat.le_refl _, (show 2 ≤ maxLen by decide), ?_, fun _ => ⟨w.heap.size, 0, rfl, fun i hi => ?_⟩⟩, fun e => by cases e⟩
  rotate_left
  · simp only at hi
    have h2 : i = 0 ∨ i = 1 := by omega
    rcases h2 with rfl | rfl
    · exact h.cell 0 _ rfl
    · exact h.cell 1 _ rfl
  · intro z hz
    simp at hz
    rcases hz with rfl | rfl
    · exact hx
    · exact hy
theorem cs2_ins {w : World} {g : Nat} {x y : Int} (h : Cs w g [.int .i64 x, .int .i64 y]) (hx : wfi x) (hy : wfi y) : InsS w ⟨some ⟨g, 0, none⟩, 2, 2⟩ [x, y] := by
  refine ⟨⟨rfl, Nat.le_refl _, (show 2 ≤ maxLen by decide), ?_, fun _ => ⟨g, 0, rfl, fun i hi => ?_⟩⟩, fun e => by cases e⟩
  rotate_left
  · simp only at hi
    have h2 : i = 0 ∨ i = 1 := by omega
    rcases h2 with rfl | rfl
    · exact h.cell 0 _ rfl
    · exact h.cell 1 _ rfl
  · intro z hz
    simp at hz
    rcases hz with rfl | rfl
    · exact hx
    · exact hy
theorem build_two (x y : Int) (w : World) : (Instr.buildSlice 23 2 #[(0, .int .i64 x), (1, .int .i64 y)]).run Try.prog w = .ok (.slice (some ⟨w.heap.size, 0, none⟩) 2 2) (w.alloc (.cells #[.int .i64 x, .int .i64 y] 3)) := by kernel_rfl
theorem step_bs2I {ops : Array Oper} {o : Oper} {a : Act} {w : World} {K : Act → World → Prop} {Q : Exit → Act → World → Prop} {R : Prop} (hw : Region.wanted o (yielded ops a.tmps) = true) (u v : Operand) (ho : o.op = .buildSlice 23 2 #[(0, u), (1, v)]) (x y : Int) (hx : a.eval u = .int .i64 x) (hy : a.eval v = .int .i64 y)
    (h : ∀ g w', w.heap.size ≤ g → g < w'.heap.size → Cs w' g [.int .i64 x, .int .i64 y] → Below w.heap.size w w' → K (a.put o.dst (.slice (some ⟨g, 0, none⟩) 2 2)) w') : if Region.wanted o (yielded ops a.tmps) = true then Oper.wp Try.prog o a w K Q else R := by
  rw [if_pos hw]
  have hr : (execOp a.eval o).run Try.prog w = .ok (.value (.slice (some ⟨w.heap.size, 0, none⟩) 2 2)) (w.alloc (.cells #[.int .i64 x, .int .i64 y] 3)) := by simp [execOp, ho, hx, hy, build_two]
  unfold Oper.wp
  rw [hr]
  exact h w.heap.size _ (Nat.le_refl _) (by simp) (Cs.made w [.int .i64 x, .int .i64 y] 3 (by simp [Value.oneCell'])) ((Below.refl _ _).alloc (Nat.le_refl _) _)
end Go.Proofs.Ytdfifneikmlmoaa
namespace Go.Proofs.Ytdfifneikmlmoaa
open Go.ChangeShapes Go.WideShapes Go.ChangeAt Go.RowKit
set_option linter.unusedVariables false
set_option linter.unusedSimpArgs false

theorem Rh.step {w w' : World} {h : Nat} {Z : GZ} {R F : Nat → Prop} (H : Rh w h Z R) (k : Stp F w w') (hg : ¬ F h) (hR : ∀ x, R x → ¬ F x) : Rh w' h Z R := by
  obtain ⟨a, c, L, H⟩ := H
  exact ⟨a, c, L, H.step k hg hR⟩
theorem Rh.later {w w' : World} {h : Nat} {Z : GZ} {R : Nat → Prop} (H : Rh w h Z R) (k : Below w.heap.size w w') : Rh w' h Z R := H.step (Stp.of_below k (fun _ => False)) id (fun _ _ => id)
theorem Rh.lt {w : World} {h : Nat} {Z : GZ} {R : Nat → Prop} (H : Rh w h Z R) : h < w.heap.size ∧ ∀ x, R x → x < w.heap.size := by
  obtain ⟨a, c, L, H⟩ := H
  exact ⟨H.cc.lt, H.lt⟩
theorem Rh.last {w : World} {h : Nat} {Z : GZ} {R : Nat → Prop} (H : Rh w h Z R) : w.cell? ⟨h, 0, none⟩ = some (.int .i64 Z.last) := by
  obtain ⟨a, c, L, H⟩ := H
  exact H.cells.1
theorem Gh.ok {w : World} {g : Nat} {Z : GZ} {E F : Nat → Prop} (H : Gh w g Z E F) : Z.ok 2000 := by obtain ⟨_, _, _, _, H⟩ := H; exact H.ok
theorem Gh.lt {w : World} {g : Nat} {Z : GZ} {E F : Nat → Prop} (H : Gh w g Z E F) : (∀ x, F x → x < w.heap.size) ∧ (∀ x, E x → x < w.heap.size) ∧ ∀ x, E x → ¬ F x := by obtain ⟨_, _, _, _, H⟩ := H; exact ⟨H.lt, H.el, H.ef⟩
/-- Both graphs, with the same patches, apart, and behind N. -/
structure Bx (N : Nat) (w : World) (g h : Nat) (Z : GZ) (k : Nat) (E F R : Nat → Prop) : Prop where
  gh : Gh w g Z E F
  rh : Rh w h Z R
  hF : ∀ x, F x → N ≤ x ∧ x ≠ h ∧ ¬ R x
  hE : ∀ x, E x → N ≤ x ∧ x ≠ h
  hR : ∀ x, R x → N ≤ x
  hN : N ≤ h
  n6 : ∀ p ∈ Z.l, p.needs.length ≤ 6
  la : Z.last ≤ (k : Int)
section
variable {N g h k k' : Nat} {w w1 w2 w3 : World} {Z Z' : GZ} {E F R E' F' R3 : Nat → Prop}
theorem Bx.later (B : Bx N w g h Z k E F R) (b : Below w.heap.size w w1) : Bx N w1 g h Z k E F R := ⟨B.gh.later b, B.rh.later b, B.hF, B.hE, B.hR, B.hN, B.n6, B.la⟩
theorem Bx.few (B : Bx N w g h Z k E F R) : (Z.l.length : Int) ≤ k := by
  have ok := B.gh.ok
  have := rising_len Z.l 0 Z.last ok.srt (fun p hp => by have := ok.rng p hp; omega) ok.l0
  have := B.la
  omega
theorem Bx.nl (B : Bx N w g h Z k E F R) : ∀ p ∈ Z.l, p.needs.length ≤ 100000 := fun p hp => by have := B.n6 p hp; omega
theorem Bx.size (B : Bx N w g h Z k E F R) : N ≤ w.heap.size := by have := B.hN; have := B.rh.lt.1; omega
/-- The code's graph goes on, then the document's. -/
theorem Bx.pair (B : Bx N w g h Z k E F R) (gh : Gh w1 g Z' E' F') (s1 : Stp F w w1) (gF : Grew F F' w w1) (gE : Grew E E' w w1) (b12 : Below w1.heap.size w1 w2) (rh : Rh w3 h Z' R3) (hR3 : ∀ x, R3 x → R x ∨ Made w2 w3 x) (s3 : Stp (fun x => x = h) w2 w3) (n6 : ∀ p ∈ Z'.l, p.needs.length ≤ 6) (la : Z'.last ≤ (k' : Int)) :
    Bx N w3 g h Z' k' E' F' R3 ∧ Stp (fun y => F y ∨ y = h) w w3 := by
  obtain ⟨h1, h2⟩ := B.rh.lt
  obtain ⟨f1, e1, _⟩ := B.gh.lt
  have hNw := B.size
  have z1 := s1.size
  have z2 := b12.size
  have neh : ∀ x, F' x → ¬ x = h := fun x hx e => by
    rcases gF x hx with q | q
    · exact (B.hF x q).2.1 e
    · omega
  have neE : ∀ x, E' x → ¬ x = h := fun x hx e => by
    rcases gE x hx with q | q
    · exact (B.hE x q).2 e
    · omega
  refine ⟨⟨(gh.later b12).step s3 neh neE, rh, fun x hx => ⟨?_, neh x hx, fun hr => ?_⟩, fun x hx => ⟨?_, neE x hx⟩, fun x hx => ?_, B.hN, n6, la⟩, ?_⟩
  · rcases gF x hx with q | q
    · exact (B.hF x q).1
    · omega
  · rcases gF x hx with q | q
    · rcases hR3 x hr with r | r
      · exact (B.hF x q).2.2 r
      · have := f1 x q; have := r.1; omega
    · rcases hR3 x hr with r | r
      · have := h2 x r; omega
      · have := r.1; omega
  · rcases gE x hx with q | q
    · exact (B.hE x q).1
    · omega
  · rcases hR3 x hx with r | r
    · exact B.hR x r
    · have := r.1; omega
  · exact ((s1.mono (fun x e => .inl (.inl e))).trans (Stp.of_below b12 _)).trans (s3.mono (fun x e => .inl (.inr e)))
theorem Bx.low (B : Bx N w g h Z k E F R) (s : Stp (fun y => F y ∨ y = h) w w1) : Below N w w1 := s.below B.size (fun x e => by rcases e with e | e; exact (B.hF x e).1; rw [e]; exact B.hN)
end
theorem add_n6 {Z : GZ} (h : ∀ p ∈ Z.l, p.needs.length ≤ 6) (p : Pt) (hp : p.needs.length ≤ 6) : ∀ q ∈ (Z.add p).l, q.needs.length ≤ 6 := by
  unfold GZ.add
  split
  · intro q hq
    rcases List.mem_append.1 hq with hq | hq
    · exact h q hq
    · rw [List.mem_singleton.1 hq]; exact hp
  · exact h
theorem add_la {Z : GZ} {k : Nat} (h : Z.last ≤ (k : Int)) (p : Pt) : (Z.add p).last ≤ ((k + 1 : Nat) : Int) := by
  unfold GZ.add
  split
  · simp only; omega
  · omega
end Go.Proofs.Ytdfifneikmlmoaa
namespace Go.Proofs.Ytdfifneikmlmoaa
open Go.ChangeShapes Go.WideShapes Go.ChangeAt Go.RowKit
set_option linter.unusedVariables false
set_option linter.unusedSimpArgs false

/-- A slice that reads as the patches L; what it holds lies in E. -/
structure Ps (w : World) (E : Nat → Prop) (s : Sv) (L : List Pe) : Prop where
  len : L.length = s.n
  le : s.n ≤ s.c
  cap : s.c ≤ maxLen
  nil : s.a = none → s.c = 0
  cell : 0 < s.n → ∃ b o, s.a = some ⟨b, o, none⟩ ∧ E b ∧ ∀ i (t : Pe), L[i]? = some t → w.rangeAt b (o + i * 9) t.cs
  wf : ∀ t ∈ L, t.p.wfp
  ms : ∀ t ∈ L, PtM w E t.p t.d t.n
theorem Ps.step {w w' : World} {E F : Nat → Prop} {s : Sv} {L : List Pe} (h : Ps w E s L) (k : Stp F w w') (hE : ∀ x, E x → ¬ F x) : Ps w' E s L :=
  ⟨h.len, h.le, h.cap, h.nil, fun hn => by
    obtain ⟨b, o, e, hb, hc⟩ := h.cell hn
    exact ⟨b, o, e, hb, fun i t ht => k.range (hc i t ht) (hE b hb)⟩, h.wf, fun t ht => (h.ms t ht).step k hE⟩
theorem Ps.later {w w' : World} {E : Nat → Prop} {s : Sv} {L : List Pe} (h : Ps w E s L) (k : Below w.heap.size w w') : Ps w' E s L := h.step (Stp.of_below k (fun _ => False)) (fun _ _ => id)
theorem Ps.mono {w : World} {E E' : Nat → Prop} {s : Sv} {L : List Pe} (h : Ps w E s L) (k : ∀ x, E x → E' x) : Ps w E' s L :=
  ⟨h.len, h.le, h.cap, h.nil, fun hn => by
    obtain ⟨b, o, e, hb, hc⟩ := h.cell hn
    exact ⟨b, o, e, k b hb, hc⟩, h.wf, fun t ht => (h.ms t ht).mono k⟩
theorem Ps.nilS (w : World) (E : Nat → Prop) : Ps w E Sv.nil [] :=
  ⟨rfl, Nat.le_refl _, Nat.zero_le _, fun _ => rfl, fun h => absurd h (by decide), (fun t ht => by cases ht), (fun t ht => by cases ht)⟩
/-- The patches themselves. -/
def pts (L : List Pe) : List Pt := L.map (·.p)
end Go.Proofs.Ytdfifneikmlmoaa
namespace Go.Proofs.Ytdfifneikmlmoaa
open Go.ChangeShapes Go.WideShapes Go.ChangeAt Go.RowKit
set_option linter.unusedVariables false
set_option linter.unusedSimpArgs false

section
variable {H : Type} {enc : TypeId × Value → H} {w : World} {base : Nat} {spare : Nat → Bool} {held : Bool}
theorem pts_of_trod {fuel : Nat} {cs : List Value} {x : DataW H × List MemPlace} (h : DataW.trod enc Try.prog w base spare held fuel 22 cs = some x) : ∃ a n c L, cs = [.slice a n c] ∧ Ps w (fun x => x < w.heap.size) ⟨a, n, c⟩ L := by
  have inE : ∀ (s : Sv) (l : List Int), BsS w s l → InE (fun x => x < w.heap.size) s := fun s l hs ad e hn => by
    obtain ⟨b, o, e2, hc⟩ := hs.cell hn
    rw [e] at e2; injection e2 with e2; subst e2
    exact World.block_lt_of_cell? w _ (hc 0 hn)
  have inI : ∀ (s : Sv) (l : List Int), InsS w s l → InE (fun x => x < w.heap.size) s := fun s l hs ad e hn => by
    obtain ⟨b, o, e2, hc⟩ := hs.i.cell hn
    rw [e] at e2; injection e2 with e2; subst e2
    exact World.block_lt_of_cell? w _ (hc 0 hn)
  rcases Deep.open_slice (e := 40) (by kernel_rfl) h with ⟨hcs, _⟩ | ⟨a, len, cap, m, n, D, Pl, hcs, _, hl, hm, hmm, _, hx⟩
  · exact ⟨none, 0, 0, [], hcs, Ps.nilS _ _⟩
  · have c9 : Try.prog.cellsOf 40 = 9 := by kernel_rfl
    have hlm : len ≤ m := by rw [hmm]; split <;> omega
    have each : ∀ i, i < len → ∃ y : Pe, (∀ j v, y.cs[j]? = some v → w.cell? (a.add (i * 9 + j)) = some v) ∧ y.p.wfp ∧ BsS w y.d y.p.data ∧ InsS w y.n y.p.needs := fun i hi => by
      obtain ⟨cs', h1, h2⟩ := hx i (by omega)
      rw [c9] at h1
      obtain ⟨p, d, n, e1, e2, e3, e4⟩ := pt_of_trod h2
      obtain ⟨_, hlen, hcell⟩ := World.cells?_some h1
      refine ⟨⟨p, d, n⟩, fun j v hv => ?_, e2, e3, e4⟩
      have hj : j < 9 := by have := (List.getElem?_eq_some_iff.1 hv).1; rw [Pe.cs_len] at this; exact this
      have := hcell j hj
      have e1' : (⟨p, d, n⟩ : Pe).cs = cs' := e1
      rw [Deep.add_add, ← e1', hv] at this
      exact this
    have hspec : ∀ t ∈ ((List.range len).map fun i => if hi : i < len then Classical.choose (each i hi) else Pe.zero), t.p.wfp ∧ BsS w t.d t.p.data ∧ InsS w t.n t.p.needs := fun t ht => by
      obtain ⟨i, hi, rfl⟩ := List.mem_map.1 ht
      have hi' : i < len := by simpa using hi
      simp only [dif_pos hi']
      exact (Classical.choose_spec (each i hi')).2
    refine ⟨_, _, _, (List.range len).map fun i => if hi : i < len then Classical.choose (each i hi) else Pe.zero, hcs, by simp, hl, hm, (fun e => by cases e), fun hn => ?_, fun t ht => (hspec t ht).1, fun t ht => ⟨(hspec t ht).2.1, (hspec t ht).2.2, inE _ _ (hspec t ht).2.1, inI _ _ (hspec t ht).2.2⟩⟩
    obtain ⟨b, o, spot⟩ := a
    have h00 : w.cell? ((⟨b, o, spot⟩ : Addr).add (0 * 9 + 0)) ≠ none := by
      obtain ⟨y, hy, _⟩ := each 0 hn
      rw [hy 0 (.int .i64 y.p.id) rfl]; simp
    have hspot : spot = none := by
      obtain ⟨y, hy, _⟩ := each 0 hn
      have := hy 0 (.int .i64 y.p.id) rfl
      simpa [Addr.add] using World.cell?_spot this
    subst hspot
    have hblt : b < w.heap.size := by
      obtain ⟨y, hy, _⟩ := each 0 hn
      have := hy 0 (.int .i64 y.p.id) rfl
      exact World.block_lt_of_cell? w _ this
    refine ⟨b, o, rfl, hblt, fun i t ht => ?_⟩
    have hi : i < len := by have := (List.getElem?_eq_some_iff.1 ht).1; simpa using this
    rw [List.getElem?_map, List.getElem?_range hi] at ht
    simp only [Option.map_some, dif_pos hi, Option.some.injEq] at ht
    subst ht
    intro j v hv
    have := (Classical.choose_spec (each i hi)).1 j v hv
    rw [Addr.add_mid] at this
    rw [show o + i * 9 + j = o + (i * 9 + j) by omega]; exact this
end
end Go.Proofs.Ytdfifneikmlmoaa
namespace Go.Proofs.Ytdfifneikmlmoaa
open Go.ChangeShapes Go.WideShapes Go.ChangeAt Go.RowKit
set_option linter.unusedVariables false
set_option linter.unusedSimpArgs false

/-- The first k numbers are others. -/
def mpL (f : Int → Int) (l : List Int) (k : Nat) : List Int := (l.take k).map f ++ l.drop k
theorem mpL_len (f : Int → Int) (l : List Int) (k : Nat) : (mpL f l k).length = l.length := by unfold mpL; simp; omega
theorem mpL_zero (f : Int → Int) (l : List Int) : mpL f l 0 = l := by unfold mpL; simp
theorem mpL_get {f : Int → Int} {l : List Int} {k : Nat} (h : k < l.length) : (mpL f l k).getD k 0 = l.getD k 0 := by
  unfold mpL
  rw [List.getD_eq_getElem?_getD, List.getElem?_append_right (by simp; omega), List.getElem?_drop, List.getD_eq_getElem?_getD]
  congr 2
  simp; omega
theorem mpL_set {f : Int → Int} {l : List Int} {k : Nat} (h : k < l.length) : (mpL f l k).set k (f (l.getD k 0)) = mpL f l (k + 1) := by
  unfold mpL
  rw [List.set_append_right _ _ (by simp; omega), List.take_add_one, List.getElem?_eq_getElem h, List.getD_eq_getElem?_getD, List.getElem?_eq_getElem h, List.drop_eq_getElem_cons h]
  have : k - ((l.take k).map f).length = 0 := by simp; omega
  rw [this]
  simp only [List.set_cons_zero, List.map_append, List.append_assoc, Option.toList_some, List.map_cons, List.map_nil, List.cons_append, List.nil_append, Option.getD_some]
theorem mpL_wf {f : Int → Int} {l : List Int} {k : Nat} (hf : ∀ x, wfi (f x)) (hw : ∀ x ∈ l, wfi x) : ∀ x ∈ mpL f l k, wfi x := by
  intro x hx
  unfold mpL at hx
  rcases List.mem_append.1 hx with hx | hx
  · obtain ⟨y, _, rfl⟩ := List.mem_map.1 hx; exact hf y
  · exact hw x (List.mem_of_mem_drop hx)
/-- One of the numbers that were given. -/
def gvn (last : Nat) (x : Int) : Int := 1 + (among x last : Nat)
theorem gvn_wf {last : Nat} (h : 0 < last) (hl : last ≤ 100000) (x : Int) : wfi (gvn last x) := by
  have := among_lt x last h
  unfold gvn; exact wfi_of (by omega)
theorem fewP_self {p : Pt} (h1 : p.data.length ≤ 70) (h2 : p.needs.length ≤ 6) : fewP p = p := by
  unfold fewP
  rw [List.take_of_length_le h1, List.take_of_length_le h2]
theorem add_un {Z : GZ} (h : ∀ p ∈ Z.l, p.wr = false) (q : Pt) : ∀ p ∈ (Z.add q).l, p.wr = false := by
  unfold GZ.add
  split
  · intro p hp
    rcases List.mem_append.1 hp with hp | hp
    · exact h p hp
    · rw [List.mem_singleton.1 hp]
  · exact h
theorem held_same {l l' : List Pt} (h : ∀ i, has l' i = has l i) {p p' : Pt} (e : p'.needs = p.needs) : held l' p' = held l p := by
  unfold held; rw [e]; congr 1; funext i; exact h i
theorem wr1_wh {Z : GZ} (hs : Rise Z.l) (h : Wh Z.l) (i : Int) : Wh (Z.wr1 i).l := by
  unfold GZ.wr1
  split
  · rename_i he
    intro q hq hw
    have hh : ∀ k, has (setW Z.l i) k = has Z.l k := fun k => by rw [has_ids, setW_id, ← has_ids]
    obtain ⟨p, h1, h2⟩ := setW_mem.1 hq
    by_cases e : p.id = i
    · rw [if_pos e] at h2
      rw [held_same (p := p) hh (by rw [h2])]
      unfold wE at he
      rw [← e, fnd_of hs h1] at he
      simp only at he
      by_cases hc : (p.wr || held Z.l p || bhd Z.l p) = true
      · rw [if_pos hc] at he; cases he
      · simp at hc; exact hc.1.2
    · rw [if_neg e] at h2
      subst h2
      rw [held_same (p := q) hh rfl]; exact h q h1 hw
  · exact h
theorem wr_wh {Z : GZ} (hs : Rise Z.l) (h : Wh Z.l) (i : Int) : Wh (Z.wr [i]).l := by
  have := wr1_wh hs h i
  unfold GZ.wr GZ.wr
  split
  · exact this
  · exact h
theorem wr_la' {Z : GZ} {k : Nat} (h : Z.last ≤ (k : Int)) (l : List Int) : (Z.wr l).last ≤ (k : Int) := by
  rw [(core_wr l Z).2]; exact h
set_option maxRecDepth 100000 in
set_option maxHeartbeats 8000000 in
theorem made_any {w : World} {E0 : Nat → Prop} {s : Sv} {L : List Pe} (H : Ps w E0 s L) {s2 : Sv} {wl : List Int} (hwl : InsS w s2 wl) :
    Calls Try.prog 7 #[.slice s.a s.n s.c, .slice s2.a s2.n s2.c] w fun e w' => ∃ g h, e = .returned (.tuple #[.pointer (some ⟨g, 0, none⟩), .pointer (some ⟨h, 0, none⟩)]) ∧ (∃ Z, (∃ E F R, Bx w.heap.size w' g h Z 30 E F R) ∧ Wh Z.l) ∧ Below w.heap.size w w' := by
  have hcap : s.n ≤ 9223372036854775807 := by have := H.le; have := H.cap; unfold maxLen at this; omega
  have hlen := H.len
  obtain ⟨sa, sn, sc⟩ := s
  simp only at hcap hlen
  subst hlen
  have hl2 := hwl.i.len
  obtain ⟨ta, tn, tc⟩ := s2
  simp only at hl2
  subst hl2
  have hcap2 : wl.length ≤ 9223372036854775807 := by have := hwl.i.le; have := hwl.i.cap; unfold maxLen at this; simp only at *; omega
  go_enter Try.func7, Try.ntmps7
  go_wp2_with (first
    | (go_at_call 20; refine (new_any _).mono ?_; rintro e w1 ⟨g, rfl, E1, F1, G1, f1, x1, b1⟩)
    | (go_at_call 22; refine (rnew_any _).mono ?_; rintro e w2 ⟨rfl, R2, b2⟩))
  obtain ⟨h, hh⟩ : ∃ h, h = w1.heap.size := ⟨_, rfl⟩
  rw [← hh] at R2 ⊢
  have st : Bx w.heap.size w2 g h GZ.new 0 E1 F1 (fun _ => False) := by
    obtain ⟨k1, k2, k3⟩ := Gh.lt G1
    exact ⟨Gh.later G1 b2, R2, fun x hx => ⟨f1 x hx, by have := k1 x hx; omega, id⟩, fun x hx => ⟨x1 x hx, by have := k2 x hx; omega⟩, (fun x hx => hx.elim), by have := b1.size; omega, (fun p hp => by cases hp), by show (0 : Int) ≤ 0; omega⟩
  have W2 := bnext b1 b2 (Nat.le_refl _)
  clear R2 b1 b2 hh G1 f1 x1
  go_loopw [8] (fun v wr => ∃ (i : Nat) (Z : GZ) (E F R : Nat → Prop), i ≤ L.length ∧ i ≤ 30 ∧ v = .int .i64 (i : Int) ∧ Bx w.heap.size wr g h Z i E F R ∧ (∀ p ∈ Z.l, p.wr = false) ∧ Below w.heap.size w wr) (fun v _ => 30 - (intOf v).toNat)
  case atStart => exact ⟨0, GZ.new, E1, F1, _, Nat.zero_le _, Nat.zero_le _, rfl, st, (fun p hp => by cases hp), W2⟩
  case round =>
    clear st W2
    rename World => wq
    obtain ⟨i, Z, E, F, R, hi, hi30, rfl, B, hun0, BW⟩ := hrel
    by_cases hgo : i < L.length ∧ i < 30
    · have a9 : (i : Int) < (L.length : Int) := by omega
      have a8 : (i : Int) < 30 := by omega
      have hun : Hid (∀ p ∈ Z.l, p.wr = false) := hun0
      have Hr := H.later (w' := wq) BW
      obtain ⟨bb, o, e0, hbE, hcell⟩ := Hr.cell (by simpa using (by omega : 0 < L.length))
      simp only at e0
      subst e0
      obtain ⟨T, hT⟩ : ∃ T, L[i]? = some T := ⟨L[i], List.getElem?_eq_getElem hgo.1⟩
      have hrg := hcell i T hT
      have hmem := List.mem_of_getElem? hT
      have hwf := H.wf T hmem
      have hPM := Hr.ms T hmem
      have HF := few_any T.p T.d T.n hPM.bs hPM.is
      obtain ⟨m, hm⟩ : ∃ m : Nat, Z.last = (m : Int) := ⟨Z.last.toNat, by have := B.gh.ok.l0; omega⟩
      have hm30 : m ≤ 30 := by have := B.la; omega
      have hlt2 : Hid (Z.last < 2000) := by show _ < _; omega
      have hFw : Hid (∀ y, F y → y < wq.heap.size) := B.gh.lt.1
      have hhw : Hid (h < wq.heap.size) := B.rh.lt.1
      clear hcell hbE hPM hun0
      have hq0 : (fewP T.p).wfp := ⟨hwf.i, hwf.s, hwf.o, hwf.k, hwf.w, hwf.c⟩
      have hq1 : (fewP T.p).data.length ≤ 70 := by unfold fewP; simp; omega
      have hq2 : (fewP T.p).needs.length ≤ 6 := by unfold fewP; simp; omega
      generalize fewP T.p = q0 at *
      have t1 : Hid True := trivial
      have t2 : Hid True := trivial
      have t3 : Hid True := trivial
      have t6 : Hid True := trivial
      have t7 : Hid True := trivial
      go_wp2_with (first
        | (clear t1; refine at_getE _ (by rfl) (by rfl) bb (o + i * 9) (by rfl) T hrg ?_)
        | (go_at_call 23; refine HF.mono ?_; rintro e w3 ⟨d', n', rfl, m3, b3, o3, n3, ap3⟩; clear HF)
        | (clear t2; refine at_newP (by rfl) (by rfl) ?_; intro g9 w4 a4 a4' r4 b4)
        | (clear t3; refine at_putP (by rfl) _ _ (by rfl) g9 (by rfl) q0 d' n' (by rfl) _ r4 rfl ?_; intro w5 r5 s5))
      have z3 := b3.size
      have z4 := b4.size
      have z5 := s5.size
      have m5 := (m3.later b4).step s5 (fun y hy e => by have := hy.2; omega)
      have o5 := (o3.later b4).step s5 (fun r hr e => by have := o3.lt hr; omega)
      have BW5 : Below wq.heap.size wq w5 := ((Stp.of_below (bnext b3 b4 (Nat.le_refl _)) (fun _ => False)).next s5 (fun y e => .inr (by omega))).below (Nat.le_refl _) (fun y e => e.elim)
      have hg9 : Hid (¬ F g9) := fun e => by have := hFw.out g9 e; omega
      have hg9h : wq.heap.size ≤ g9 := by omega
      have hob : ∀ r, (Value.slice n'.a n'.n n'.c).ownBlock = some r → wq.heap.size ≤ r ∧ r < w3.heap.size := fun r hr => ⟨n3 r hr, o3.lt hr⟩
      have hnl : q0.needs.length = n'.n := m5.is.i.len
      have hwfn := m5.is.i.wf
      have zl : w5.cell? ⟨h, 0, none⟩ = some (.int .i64 (m : Int)) := by have := (B.rh.later BW5).last; rw [hm] at this; exact this
      obtain ⟨na, nn, nc⟩ := n'
      simp only at hnl hob o5 n3 ap3
      have c5 := (Pt.cells r5).2.2.2.2.2.1
      simp only at c5
      clear m3 o3 r4 b4 s5 b3 hrg hmem
      by_cases h0 : 0 < m
      · have hl0 : (0 : Int) < (m : Int) := by omega
        have hA := fun (y : Int) (u : World) => among_any y m u h0 (by omega)
        have hC5 : Hid (w5.cell? ⟨g9, 5, none⟩ = some (.slice na nn nc)) := c5
        have hzl : Hid (w5.cell? ⟨h, 0, none⟩ = some (.int .i64 (m : Int))) := zl
        have hob9 : (Value.slice na nn nc).ownBlock ≠ some g9 := fun e => by have := hob g9 e; omega
        have hobh : (Value.slice na nn nc).ownBlock ≠ some h := fun e => by have := hob h e; have := hhw.out; omega
        subst hnl
        clear c5 zl
        have hnn6 : (q0.needs.length : Int) ≤ 6 := by omega
        go_loopw [10] (fun v wx => ∃ k : Nat, k ≤ q0.needs.length ∧ v = .int .i64 (k : Int) ∧ Stp (fun y => (Value.slice na q0.needs.length nc).ownBlock = some y) w5 wx ∧ OwV wx (.slice na q0.needs.length nc) (mpL (gvn m) q0.needs k)) (fun v _ => q0.needs.length - (intOf v).toNat)
        case atStart => exact ⟨0, Nat.zero_le _, rfl, Stp.refl _ _, by rw [mpL_zero]; exact o5⟩
        case round =>
          rename World => wx
          obtain ⟨k, hk, rfl, sk, ow⟩ := hrel
          have c5 := sk.cell hC5.out hob9
          have zl := sk.cell hzl.out hobh
          by_cases hkl : k < q0.needs.length
          · obtain ⟨rb, cap, cur, e1, -⟩ := ow.row1 (fun e => by have := mpL_len (gvn m) q0.needs k; rw [e, List.length_nil] at this; omega)
            rw [mpL_len] at e1
            injection e1 with e1 e2 e3
            subst e1; subst e3; clear e2
            have hset := ow.set k (by rw [mpL_len]; exact hkl) (gvn m (q0.needs.getD k 0))
            rw [mpL_get hkl, mpL_set hkl] at hset
            obtain ⟨ck, fk, ow2⟩ := hset
            have hnr : gvn m (q0.needs.getD k 0) = 1 + (among (q0.needs.getD k 0) m : Nat) := rfl
            have hal := among_lt (q0.needs.getD k 0) m h0
            have hwr : IntKind.i64.wrap (1 + (among (q0.needs.getD k 0) m : Nat)) = gvn m (q0.needs.getD k 0) := by rw [hnr, IntKind.wrap_i64]; omega
            have hA2 := hA (q0.needs.getD k 0)
            have ow2' : Hid (OwV (wx.setCell ⟨rb, k, none⟩ (.int .i64 (gvn m (q0.needs.getD k 0)))) (.slice (some ⟨rb, 0, none⟩) q0.needs.length nc) (mpL (gvn m) q0.needs (k + 1))) := ow2
            have b9 : (k : Int) < (q0.needs.length : Int) := by omega
            clear ow2 hA hnr hal
            generalize gvn m (q0.needs.getD k 0) = y at *
            generalize q0.needs.getD k 0 = y0 at *
            go_wp2_with fail
            have b8 : (0 : Int) ≤ (k : Int) := by omega
            refine wp_region_last (S := fun u => Below wx.heap.size wx u) _ _ (by simp only [List.pop_toArray, List.dropLast_cons_cons, List.dropLast_singleton]; rfl) (by simp only [List.back?_toArray, List.getLast?_cons_cons, List.getLast?_singleton]; rfl) (by kernel_rfl) (by kernel_rfl) (Below.refl _ _).drew (fun hHeld => ?_)
            refine wpAnyH_take (i := 0) (oi := { dst := some 43, op := Op.fieldAddr 40 (Operand.tmp 9) 5, type := 0, pos := _, after := #[], guard := none }) (v := .pointer (some ⟨g9, 5, none⟩)) rfl (by kernel_rfl) (by kernel_rfl) (by kernel_rfl) (fun _ _ _ h => h) (Or.inl ⟨by rfl, ?_⟩) hHeld ?_
            · intro u hu
              go_simp
            try simp only [Act.put, List.setIfInBounds_toArray, List.set_cons_zero, List.set_cons_succ]
            refine wpAnyH_take (i := 1) (oi := { dst := some 44, op := Op.load 23 (Operand.tmp 43), type := 23, pos := _, after := #[{ on := 0, ground := Ground.data }], guard := none }) (v := .slice (some ⟨rb, 0, none⟩) q0.needs.length nc) rfl (by kernel_rfl) (by kernel_rfl) (by kernel_rfl) (fun _ _ _ h => h) (Or.inl ⟨by rfl, ?_⟩) hHeld ?_
            · intro u hu
              have x1 := (Stp.of_below hu (fun _ => False)).cell c5 id; go_simp
            try simp only [Act.put, List.setIfInBounds_toArray, List.set_cons_zero, List.set_cons_succ]
            refine wpAnyH_take (i := 2) (oi := { dst := some 45, op := Op.move (Operand.tmp 10), type := 3, pos := _, after := #[], guard := none }) (v := .int .i64 (k : Int)) rfl (by kernel_rfl) (by kernel_rfl) (by kernel_rfl) (fun _ _ _ h => h) (Or.inl ⟨by rfl, ?_⟩) hHeld ?_
            · intro u hu
              go_simp
            try simp only [Act.put, List.setIfInBounds_toArray, List.set_cons_zero, List.set_cons_succ]
            refine wpAnyH_take (i := 3) (oi := { dst := some 46, op := Op.fieldAddr 40 (Operand.tmp 9) 5, type := 0, pos := _, after := #[], guard := none }) (v := .pointer (some ⟨g9, 5, none⟩)) rfl (by kernel_rfl) (by kernel_rfl) (by kernel_rfl) (fun _ _ _ h => h) (Or.inl ⟨by rfl, ?_⟩) hHeld ?_
            · intro u hu
              go_simp
            try simp only [Act.put, List.setIfInBounds_toArray, List.set_cons_zero, List.set_cons_succ]
            refine wpAnyH_take (i := 4) (oi := { dst := some 47, op := Op.load 23 (Operand.tmp 46), type := 23, pos := _, after := #[{ on := 3, ground := Ground.data }], guard := none }) (v := .slice (some ⟨rb, 0, none⟩) q0.needs.length nc) rfl (by kernel_rfl) (by kernel_rfl) (by kernel_rfl) (fun _ _ _ h => h) (Or.inl ⟨by rfl, ?_⟩) hHeld ?_
            · intro u hu
              have x1 := (Stp.of_below hu (fun _ => False)).cell c5 id; go_simp
            try simp only [Act.put, List.setIfInBounds_toArray, List.set_cons_zero, List.set_cons_succ]
            refine wpAnyH_take (i := 5) (oi := { dst := some 48, op := Op.move (Operand.tmp 10), type := 3, pos := _, after := #[], guard := none }) (v := .int .i64 (k : Int)) rfl (by kernel_rfl) (by kernel_rfl) (by kernel_rfl) (fun _ _ _ h => h) (Or.inl ⟨by rfl, ?_⟩) hHeld ?_
            · intro u hu
              go_simp
            try simp only [Act.put, List.setIfInBounds_toArray, List.set_cons_zero, List.set_cons_succ]
            refine wpAnyH_take (i := 6) (oi := { dst := some 49, op := Op.indexAddr 23 (Operand.tmp 47) (Operand.tmp 48), type := 0, pos := _, after := #[{ on := 4, ground := Ground.data }, { on := 5, ground := Ground.data }], guard := none }) (v := .pointer (some ⟨rb, k, none⟩)) rfl (by kernel_rfl) (by kernel_rfl) (by kernel_rfl) (fun _ _ _ h => h) (Or.inl ⟨by rfl, ?_⟩) hHeld ?_
            · intro u hu
              go_simp
            try simp only [Act.put, List.setIfInBounds_toArray, List.set_cons_zero, List.set_cons_succ]
            refine wpAnyH_take (i := 7) (oi := { dst := some 50, op := Op.load 3 (Operand.tmp 49), type := 3, pos := _, after := #[{ on := 6, ground := Ground.data }], guard := none }) (v := .int .i64 y0) rfl (by kernel_rfl) (by kernel_rfl) (by kernel_rfl) (fun _ _ _ h => h) (Or.inl ⟨by rfl, ?_⟩) hHeld ?_
            · intro u hu
              have x1 := (Stp.of_below hu (fun _ => False)).cell ck id; go_simp
            try simp only [Act.put, List.setIfInBounds_toArray, List.set_cons_zero, List.set_cons_succ]
            refine wpAnyH_take (i := 8) (oi := { dst := some 51, op := Op.move (Operand.tmp 7), type := 26, pos := _, after := #[], guard := none }) (v := .pointer (some ⟨h, 0, none⟩)) rfl (by kernel_rfl) (by kernel_rfl) (by kernel_rfl) (fun _ _ _ h => h) (Or.inl ⟨by rfl, ?_⟩) hHeld ?_
            · intro u hu
              go_simp
            try simp only [Act.put, List.setIfInBounds_toArray, List.set_cons_zero, List.set_cons_succ]
            refine wpAnyH_take (i := 9) (oi := { dst := some 52, op := Op.nilCheck (Operand.tmp 51), type := 0, pos := _, after := #[{ on := 8, ground := Ground.data }], guard := none }) (v := .pointer (some ⟨h, 0, none⟩)) rfl (by kernel_rfl) (by kernel_rfl) (by kernel_rfl) (fun _ _ _ h => h) (Or.inl ⟨by rfl, ?_⟩) hHeld ?_
            · intro u hu
              go_simp
            try simp only [Act.put, List.setIfInBounds_toArray, List.set_cons_zero, List.set_cons_succ]
            refine wpAnyH_take (i := 10) (oi := { dst := some 53, op := Op.fieldAddr 61 (Operand.tmp 52) 0, type := 0, pos := _, after := #[{ on := 9, ground := Ground.data }], guard := none }) (v := .pointer (some ⟨h, 0, none⟩)) rfl (by kernel_rfl) (by kernel_rfl) (by kernel_rfl) (fun _ _ _ h => h) (Or.inl ⟨by rfl, ?_⟩) hHeld ?_
            · intro u hu
              go_simp
            try simp only [Act.put, List.setIfInBounds_toArray, List.set_cons_zero, List.set_cons_succ]
            refine wpAnyH_take (i := 11) (oi := { dst := some 54, op := Op.load 3 (Operand.tmp 53), type := 3, pos := _, after := #[{ on := 10, ground := Ground.data }], guard := none }) (v := .int .i64 (m : Int)) rfl (by kernel_rfl) (by kernel_rfl) (by kernel_rfl) (fun _ _ _ h => h) (Or.inl ⟨by rfl, ?_⟩) hHeld ?_
            · intro u hu
              have x1 := (Stp.of_below hu (fun _ => False)).cell zl id; go_simp
            try simp only [Act.put, List.setIfInBounds_toArray, List.set_cons_zero, List.set_cons_succ]
            refine wpAnyH_ready (rs := [12]) (by kernel_rfl) (by simp) ?_
            refine (AllReadyH.cons (o := { dst := some 55, op := Op.call { callee := Callee.value (Operand.func 24), args := #[Operand.tmp 50, Operand.tmp 54], argTypes := #[3, 3] }, type := 3, pos := _, after := #[{ on := 7, ground := Ground.data }, { on := 11, ground := Ground.data }], guard := none }) rfl (fun K hK => ?_) AllReadyH.nil)
            go_simp
            refine (hA2 _).mono ?_
            rintro e w6 ⟨rfl, rfl⟩
            try go_wp2_with fail
            refine hK.out _ _ (hHeld) (fun hHeld => ?_)
            clear hK K
            try simp only [Act.put, List.setIfInBounds_toArray, List.set_cons_zero, List.set_cons_succ]
            refine wpAnyH_take (i := 13) (oi := { dst := some 56, op := Op.binOp BinOp.add 3 (Operand.const (Value.int IntKind.i64 1)) (Operand.tmp 55) 3, type := 3, pos := _, after := #[{ on := 12, ground := Ground.data }], guard := none }) (v := .int .i64 y) rfl (by kernel_rfl) (by kernel_rfl) (by kernel_rfl) (fun _ _ _ h => h) (Or.inl ⟨by rfl, ?_⟩) hHeld ?_
            · intro u hu
              go_simp
            try simp only [Act.put, List.setIfInBounds_toArray, List.set_cons_zero, List.set_cons_succ]
            refine wpAnyH_take (i := 14) (oi := { dst := some 57, op := Op.indexAddr 23 (Operand.tmp 44) (Operand.tmp 45), type := 0, pos := _, after := #[{ on := 1, ground := Ground.data }, { on := 2, ground := Ground.data }, { on := 0, ground := Ground.phase }, { on := 1, ground := Ground.phase }, { on := 2, ground := Ground.phase }, { on := 3, ground := Ground.phase }, { on := 4, ground := Ground.phase }, { on := 5, ground := Ground.phase }, { on := 6, ground := Ground.phase }, { on := 7, ground := Ground.phase }, { on := 8, ground := Ground.phase }, { on := 9, ground := Ground.phase }, { on := 10, ground := Ground.phase }, { on := 11, ground := Ground.phase }, { on := 12, ground := Ground.phase }, { on := 13, ground := Ground.phase }], guard := none }) (v := .pointer (some ⟨rb, k, none⟩)) rfl (by kernel_rfl) (by kernel_rfl) (by kernel_rfl) (fun _ _ _ h => h) (Or.inl ⟨by rfl, ?_⟩) hHeld ?_
            · intro u hu
              go_simp
            try simp only [Act.put, List.setIfInBounds_toArray, List.set_cons_zero, List.set_cons_succ]
            refine wpAnyH_done (by kernel_rfl) ?_ _
            have ow3 : OwV (wx.drew.setCell ⟨rb, k, none⟩ (.int .i64 y)) (.slice (some ⟨rb, 0, none⟩) q0.needs.length nc) (mpL (gvn m) q0.needs (k + 1)) := ow2'.out
            have ckd : wx.drew.cell? ⟨rb, k, none⟩ = some (.int .i64 y0) := ck
            have fkd : wx.drew.frozen? ⟨rb, k, none⟩ = false := fk
            have s9 : Stp (fun y => (Value.slice (some ⟨rb, 0, none⟩) q0.needs.length nc).ownBlock = some y) w5 (wx.drew.setCell ⟨rb, k, none⟩ (.int .i64 y)) := (sk.drew).setCell (p := ⟨rb, k, none⟩) (.inl rfl) _
            show wpList _ _ _ [_] _ _
            refine op_unit (by rfl) (wx.drew.setCell ⟨rb, k, none⟩ (.int .i64 y)) (by simp [execOp, Instr.storeAt, Instr.sureAddr]; go_simp) ?_
            clear hHeld c5 ck fk ckd fkd zl
            go_wp2_with fail
            go_roundw
            case rel => exact ⟨k + 1, by omega, by go_num, s9, ow3⟩
            case measure => simp [intOf]; omega
          · have hk' : k = q0.needs.length := by omega
            subst hk'
            have hqq : ∃ q : Pt, q = { q0 with needs := mpL (gvn m) q0.needs q0.needs.length } := ⟨_, rfl⟩
            obtain ⟨q, hq⟩ := hqq
            have hcsq : q.cs d' ⟨na, q0.needs.length, nc⟩ = q0.cs d' ⟨na, q0.needs.length, nc⟩ := by rw [hq]; rfl
            have r7 : Cs wx g9 (q.cs d' ⟨na, q0.needs.length, nc⟩) := by rw [hcsq]; exact r5.step sk hob9
            have hqw : q.wfp := by rw [hq]; exact ⟨hq0.i, hq0.s, hq0.o, hq0.k, hq0.w, hq0.c⟩
            have hqd : Hid (q.data.length ≤ 70) := by show _ ≤ _; rw [hq]; exact hq1
            have hqn : Hid (q.needs.length ≤ 6) := by show _ ≤ _; rw [hq]; simp only; rw [mpL_len]; exact hq2
            have hself : Hid (fewP q = q) := fewP_self hqd.out hqn.out
            have zx := sk.size
            have m7 : PtM wx (Made wq wx) q d' ⟨na, q0.needs.length, nc⟩ := by
              obtain ⟨sv, e1, e2, e3, e4⟩ := ow.ins (B := wq.heap.size) (mpL_wf (gvn_wf h0 (by omega)) hwfn) (fun r hr => (hob r hr).1)
              have e5 : (⟨na, q0.needs.length, nc⟩ : Sv) = sv := by
                obtain ⟨sa, sn, sc⟩ := sv
                injection e1 with f1 f2 f3
                subst f1; subst f2; subst f3; rfl
              subst e5
              refine ⟨?_, by rw [hq]; exact e3, m5.ed.mono (fun y hy => ⟨hy.1, by have := hy.2; omega⟩), e4⟩
              rw [hq]
              exact m5.bs.step (E := fun y => Made wq w3 y ∧ (Value.slice na q0.needs.length nc).ownBlock ≠ some y) sk (fun ad h1 h2 => ⟨m5.ed ad h1 h2, fun e => ap3 _ e ad h1 h2 rfl⟩) (fun y hy e => hy.2 e)
            have BW7' : Below wq.heap.size wq wx := BW5.trans (sk.below BW5.size (fun y e => (hob y e).1))
            have BW7 := bnext BW BW7' (Nat.le_refl _)
            have B7 := B.later BW7'
            generalize hnn : q0.needs.length = nn at *
            clear hq hcsq
            go_wp2_with (first
              | (clear t6; refine at_getP0 (by rfl) _ (by rfl) g9 (by rfl) q d' ⟨na, nn, nc⟩ r7 ?_)
              | (go_at_call 23; refine (few_any q d' ⟨na, nn, nc⟩ m7.bs m7.is).mono ?_; rintro e w8 ⟨d8, n8, rfl, m8, b8, -, -, -⟩
                 rw [hself.out] at m8 ⊢
                 have B8 := B7.later b8
                 obtain ⟨mp8, mw8, f8, fw8, H8⟩ := B8.gh
                 have hAd := add_any H8 q d8 n8 hqw m8 (fun y hy e => by have := B7.gh.lt.1 y e; have := hy.1; omega) hlt2.out (by have := hqd.out; omega) (by have := hqn.out; omega)
                 clear H8 m8)
              | (go_at_call 21; refine hAd.mono ?_; rintro e w9' ⟨rfl, E9, F9, G9, s9, gF, gE⟩; clear hAd
                 have r9 := (r7.later b8).step s9 (fun e => hg9.out e)
                 have m9 := (m7.later b8).step s9 (fun y hy e => by have := hFw.out y e; have := hy.1; omega)
                 obtain ⟨ra, rc, rL, R9⟩ := B8.rh.step s9 (fun e => (B.hF h e).2.1 rfl) (fun y hy e => (B.hF y e).2.2 hy)
                 have hRd := radd_any R9 q d' ⟨na, nn, nc⟩ hqw m9 (fun y hy e => by have := hhw.out; have := hy.1; omega) hlt2.out (by have := hqd.out; omega) (by have := hqn.out; omega))
              | (clear t7; refine at_getP0 (by rfl) _ (by rfl) g9 (by rfl) q d' ⟨na, nn, nc⟩ r9 ?_)
              | (go_at_call 25; refine hRd.mono ?_; rintro e w10 ⟨rfl, R10, s10⟩; clear hRd))
            obtain ⟨B10, b10⟩ := B8.pair (k' := i + 1) G9 s9 gF gE (Below.refl _ _) R10 (fun y hy => hy.1) s10 (add_n6 B.n6 _ hqn.out) (add_la B.la _)
            have L10 : Below w.heap.size w w10 := (bnext BW7 b8 (Nat.le_refl _)).trans (B8.low b10)
            have U10 := add_un hun.out q
            generalize Z.addN q = e1 at *
            generalize Z.addE q = e2 at *
            go_wp2_with fail
            go_roundw
            case rel => exact ⟨i + 1, _, _, _, _, by omega, by omega, by go_num, B10, U10, L10⟩
            case measure => simp [intOf]; omega
      · have hm0 : m = 0 := by omega
        subst hm0
        have hq : Hid (fewP q0 = q0) := fewP_self hq1 hq2
        obtain ⟨q, rfl⟩ : ∃ q, q = q0 := ⟨_, rfl⟩
        have hqd : Hid (q.data.length ≤ 70) := hq1
        have hqn : Hid (q.needs.length ≤ 6) := hq2
        have hself : Hid (fewP q = q) := hq
        have hqw := hq0
        have r7 := r5
        have m7 : PtM w5 (Made wq w5) q d' ⟨na, nn, nc⟩ := m5.mono (fun y hy => ⟨hy.1, by have := hy.2; omega⟩)
        have BW7 := bnext BW BW5 (Nat.le_refl _)
        have B7 := B.later BW5
        refine wp_loop_rounds 1 ?_
        rw [rounds_succ]
        by_cases hn0 : (0 : Int) < (nn : Int)
        · skip
          go_wp2_with (first
            | (clear t6; refine at_getP0 (by rfl) _ (by rfl) g9 (by rfl) q d' ⟨na, nn, nc⟩ r7 ?_)
            | (go_at_call 23; refine (few_any q d' ⟨na, nn, nc⟩ m7.bs m7.is).mono ?_; rintro e w8 ⟨d8, n8, rfl, m8, b8, -, -, -⟩
               rw [hself.out] at m8 ⊢
               have B8 := B7.later b8
               obtain ⟨mp8, mw8, f8, fw8, H8⟩ := B8.gh
               have hAd := add_any H8 q d8 n8 hqw m8 (fun y hy e => by have := B7.gh.lt.1 y e; have := hy.1; omega) hlt2.out (by have := hqd.out; omega) (by have := hqn.out; omega)
               clear H8 m8)
            | (go_at_call 21; refine hAd.mono ?_; rintro e w9' ⟨rfl, E9, F9, G9, s9, gF, gE⟩; clear hAd
               have r9 := (r7.later b8).step s9 (fun e => hg9.out e)
               have m9 := (m7.later b8).step s9 (fun y hy e => by have := hFw.out y e; have := hy.1; omega)
               obtain ⟨ra, rc, rL, R9⟩ := B8.rh.step s9 (fun e => (B.hF h e).2.1 rfl) (fun y hy e => (B.hF y e).2.2 hy)
               have hRd := radd_any R9 q d' ⟨na, nn, nc⟩ hqw m9 (fun y hy e => by have := hhw.out; have := hy.1; omega) hlt2.out (by have := hqd.out; omega) (by have := hqn.out; omega))
            | (clear t7; refine at_getP0 (by rfl) _ (by rfl) g9 (by rfl) q d' ⟨na, nn, nc⟩ r9 ?_)
            | (go_at_call 25; refine hRd.mono ?_; rintro e w10 ⟨rfl, R10, s10⟩; clear hRd))
          obtain ⟨B10, b10⟩ := B8.pair (k' := i + 1) G9 s9 gF gE (Below.refl _ _) R10 (fun y hy => hy.1) s10 (add_n6 B.n6 _ hqn.out) (add_la B.la _)
          have L10 : Below w.heap.size w w10 := (bnext BW7 b8 (Nat.le_refl _)).trans (B8.low b10)
          have U10 := add_un hun.out q
          generalize Z.addN q = e1 at *
          generalize Z.addE q = e2 at *
          go_wp2_with fail
          go_roundw
          case rel => exact ⟨i + 1, _, _, _, _, by omega, by omega, by go_num, B10, U10, L10⟩
          case measure => simp [intOf]; omega
        · have hn1 : (nn : Int) = 0 := by omega
          go_wp2_with (first
            | (clear t6; refine at_getP0 (by rfl) _ (by rfl) g9 (by rfl) q d' ⟨na, nn, nc⟩ r7 ?_)
            | (go_at_call 23; refine (few_any q d' ⟨na, nn, nc⟩ m7.bs m7.is).mono ?_; rintro e w8 ⟨d8, n8, rfl, m8, b8, -, -, -⟩
               rw [hself.out] at m8 ⊢
               have B8 := B7.later b8
               obtain ⟨mp8, mw8, f8, fw8, H8⟩ := B8.gh
               have hAd := add_any H8 q d8 n8 hqw m8 (fun y hy e => by have := B7.gh.lt.1 y e; have := hy.1; omega) hlt2.out (by have := hqd.out; omega) (by have := hqn.out; omega)
               clear H8 m8)
            | (go_at_call 21; refine hAd.mono ?_; rintro e w9' ⟨rfl, E9, F9, G9, s9, gF, gE⟩; clear hAd
               have r9 := (r7.later b8).step s9 (fun e => hg9.out e)
               have m9 := (m7.later b8).step s9 (fun y hy e => by have := hFw.out y e; have := hy.1; omega)
               obtain ⟨ra, rc, rL, R9⟩ := B8.rh.step s9 (fun e => (B.hF h e).2.1 rfl) (fun y hy e => (B.hF y e).2.2 hy)
               have hRd := radd_any R9 q d' ⟨na, nn, nc⟩ hqw m9 (fun y hy e => by have := hhw.out; have := hy.1; omega) hlt2.out (by have := hqd.out; omega) (by have := hqn.out; omega))
            | (clear t7; refine at_getP0 (by rfl) _ (by rfl) g9 (by rfl) q d' ⟨na, nn, nc⟩ r9 ?_)
            | (go_at_call 25; refine hRd.mono ?_; rintro e w10 ⟨rfl, R10, s10⟩; clear hRd))
          obtain ⟨B10, b10⟩ := B8.pair (k' := i + 1) G9 s9 gF gE (Below.refl _ _) R10 (fun y hy => hy.1) s10 (add_n6 B.n6 _ hqn.out) (add_la B.la _)
          have L10 : Below w.heap.size w w10 := (bnext BW7 b8 (Nat.le_refl _)).trans (B8.low b10)
          have U10 := add_un hun.out q
          generalize Z.addN q = e1 at *
          generalize Z.addE q = e2 at *
          go_wp2_with fail
          go_roundw
          case rel => exact ⟨i + 1, _, _, _, _, by omega, by omega, by go_num, B10, U10, L10⟩
          case measure => simp [intOf]; omega
    · have hBz : Bx w.heap.size wq g h Z 30 E F R := ⟨B.gh, B.rh, B.hF, B.hE, B.hR, B.hN, B.n6, by have := B.la; omega⟩
      have hWz : Wh Z.l := fun q hq hw => by rw [hun0 q hq] at hw; cases hw
      have hcase : ¬ i < L.length ∨ (i < L.length ∧ ¬ i < 30) := by omega
      clear B hun0 hgo
      rcases hcase with hc | ⟨hc, hd⟩
      · have a9 : ¬ (i : Int) < (L.length : Int) := by omega
        clear hc
        go_wp2_with fail
        go_loopw [11] (fun v wr => ∃ (k : Nat) (Z : GZ) (E F R : Nat → Prop), k ≤ wl.length ∧ k ≤ 4 ∧ v = .int .i64 (k : Int) ∧ Bx w.heap.size wr g h Z 30 E F R ∧ Wh Z.l ∧ Below w.heap.size w wr) (fun v _ => 4 - (intOf v).toNat)
        case atStart => exact ⟨0, Z, E, F, R, Nat.zero_le _, Nat.zero_le _, rfl, hBz, hWz, BW⟩
        case round =>
          rename World => wx
          clear hBz hWz BW
          obtain ⟨k, Z, E, F, R, hk, hk4, rfl, B, hWz, BW⟩ := hrel
          by_cases hkl : k < wl.length
          · have a9 : (k : Int) < (wl.length : Int) := by omega
            by_cases hk3 : k < 4
            · have a8 : (k : Int) < 4 := by omega
              have h2 := hwl.later BW
              obtain ⟨bb, o, e, hcs⟩ := h2.i.cell (by simpa using (by omega : 0 < wl.length))
              have ck := hcs k (by simpa using hkl)
              simp only at e
              subst e
              have hwx : wfi (wl.getD k 0) := by
                rw [List.getD_eq_getElem?_getD, List.getElem?_eq_getElem hkl]; exact hwl.i.wf _ (List.getElem_mem _)
              have hbw : Hid (bb < w.heap.size) := by
                obtain ⟨b', o', e', hc'⟩ := hwl.i.cell (by simpa using (by omega : 0 < wl.length))
                simp only at e'
                injection e' with e'; injection e' with e'
                subst e'
                exact World.block_lt_of_cell? w _ (hc' 0 (by simpa using (by omega : 0 < wl.length)))
              clear hcs h2
              generalize wl.getD k 0 = y at *
              have ba : Below wx.heap.size wx (wx.alloc (.cells #[.int .i64 y] 3)) := (Below.refl _ wx).alloc (Nat.le_refl _) _
              have hi1 := one_i wx y hwx
              have B1 := B.later ba
              have hWr := write_any B1.gh hi1 (inE_at (N := wx.heap.size) (Nat.le_refl _)) (fun x hx hf => by have := B.gh.lt.1 x hf; omega) (by simp) B.nl
              go_wp2_with (first
                | (go_at_call 26; refine hWr.mono ?_; rintro e w5 ⟨rfl, g5, s5⟩; clear hWr
                   have ck5 := (s5.cell ((Stp.of_below ba (fun _ => False)).cell ck id) (fun e => by have := (B.hF bb e).1; have := hbw.out; omega))
                   have R5 := B1.rh.step s5 (fun e => (B.hF h e).2.1 rfl) (fun x hx e => (B.hF x e).2.2 hx)
                   have ba5 : Below w5.heap.size w5 (w5.alloc (.cells #[.int .i64 y] 3)) := (Below.refl _ w5).alloc (Nat.le_refl _) _
                   have hi5 := one_i w5 y hwx
                   have hWs := rwrite_any (R5.later ba5) hi5 ((inE_at (N := w5.heap.size) (Nat.le_refl _)).mono (fun x hx e => by have := R5.lt.1; omega)) (by simp))
                | (go_at_call 27; refine hWs.mono ?_; rintro e w6 ⟨rfl, R6, s6⟩; clear hWs))
              obtain ⟨B6, b6⟩ := B1.pair (k' := 30) g5 s5 (Grew.refl _ _ _) (Grew.refl _ _ _) ba5 R6 (fun x hx => hx.1) s6 (wr_needs _ B.n6) (wr_la' B.la _)
              have L6 : Below w.heap.size w w6 := (bnext BW ba (Nat.le_refl _)).trans (B1.low b6)
              have W6 := wr_wh B.gh.ok.srt hWz y
              generalize Z.wrE [y] = e1 at *
              go_wp2_with fail
              go_roundw
              case rel => exact ⟨k + 1, _, _, _, _, by omega, by omega, by go_num, B6, W6, L6⟩
              case measure => simp [intOf]; omega
            · have a8 : ¬ (k : Int) < 4 := by omega
              go_wp2_with fail
              go_returns
              exact ⟨g, h, rfl, ⟨Z, ⟨E, F, R, B⟩, hWz⟩, BW⟩
          · have a9 : ¬ (k : Int) < (wl.length : Int) := by omega
            go_wp2_with fail
            go_returns
            exact ⟨g, h, rfl, ⟨Z, ⟨E, F, R, B⟩, hWz⟩, BW⟩
      · have a9 : (i : Int) < (L.length : Int) := by omega
        have a8 : ¬ (i : Int) < 30 := by omega
        clear hc hd
        go_wp2_with fail
        go_loopw [11] (fun v wr => ∃ (k : Nat) (Z : GZ) (E F R : Nat → Prop), k ≤ wl.length ∧ k ≤ 4 ∧ v = .int .i64 (k : Int) ∧ Bx w.heap.size wr g h Z 30 E F R ∧ Wh Z.l ∧ Below w.heap.size w wr) (fun v _ => 4 - (intOf v).toNat)
        case atStart => exact ⟨0, Z, E, F, R, Nat.zero_le _, Nat.zero_le _, rfl, hBz, hWz, BW⟩
        case round =>
          rename World => wx
          clear hBz hWz BW
          obtain ⟨k, Z, E, F, R, hk, hk4, rfl, B, hWz, BW⟩ := hrel
          by_cases hkl : k < wl.length
          · have a9 : (k : Int) < (wl.length : Int) := by omega
            by_cases hk3 : k < 4
            · have a8 : (k : Int) < 4 := by omega
              have h2 := hwl.later BW
              obtain ⟨bb, o, e, hcs⟩ := h2.i.cell (by simpa using (by omega : 0 < wl.length))
              have ck := hcs k (by simpa using hkl)
              simp only at e
              subst e
              have hwx : wfi (wl.getD k 0) := by
                rw [List.getD_eq_getElem?_getD, List.getElem?_eq_getElem hkl]; exact hwl.i.wf _ (List.getElem_mem _)
              have hbw : Hid (bb < w.heap.size) := by
                obtain ⟨b', o', e', hc'⟩ := hwl.i.cell (by simpa using (by omega : 0 < wl.length))
                simp only at e'
                injection e' with e'; injection e' with e'
                subst e'
                exact World.block_lt_of_cell? w _ (hc' 0 (by simpa using (by omega : 0 < wl.length)))
              clear hcs h2
              generalize wl.getD k 0 = y at *
              have ba : Below wx.heap.size wx (wx.alloc (.cells #[.int .i64 y] 3)) := (Below.refl _ wx).alloc (Nat.le_refl _) _
              have hi1 := one_i wx y hwx
              have B1 := B.later ba
              have hWr := write_any B1.gh hi1 (inE_at (N := wx.heap.size) (Nat.le_refl _)) (fun x hx hf => by have := B.gh.lt.1 x hf; omega) (by simp) B.nl
              go_wp2_with (first
                | (go_at_call 26; refine hWr.mono ?_; rintro e w5 ⟨rfl, g5, s5⟩; clear hWr
                   have ck5 := (s5.cell ((Stp.of_below ba (fun _ => False)).cell ck id) (fun e => by have := (B.hF bb e).1; have := hbw.out; omega))
                   have R5 := B1.rh.step s5 (fun e => (B.hF h e).2.1 rfl) (fun x hx e => (B.hF x e).2.2 hx)
                   have ba5 : Below w5.heap.size w5 (w5.alloc (.cells #[.int .i64 y] 3)) := (Below.refl _ w5).alloc (Nat.le_refl _) _
                   have hi5 := one_i w5 y hwx
                   have hWs := rwrite_any (R5.later ba5) hi5 ((inE_at (N := w5.heap.size) (Nat.le_refl _)).mono (fun x hx e => by have := R5.lt.1; omega)) (by simp))
                | (go_at_call 27; refine hWs.mono ?_; rintro e w6 ⟨rfl, R6, s6⟩; clear hWs))
              obtain ⟨B6, b6⟩ := B1.pair (k' := 30) g5 s5 (Grew.refl _ _ _) (Grew.refl _ _ _) ba5 R6 (fun x hx => hx.1) s6 (wr_needs _ B.n6) (wr_la' B.la _)
              have L6 : Below w.heap.size w w6 := (bnext BW ba (Nat.le_refl _)).trans (B1.low b6)
              have W6 := wr_wh B.gh.ok.srt hWz y
              generalize Z.wrE [y] = e1 at *
              go_wp2_with fail
              go_roundw
              case rel => exact ⟨k + 1, _, _, _, _, by omega, by omega, by go_num, B6, W6, L6⟩
              case measure => simp [intOf]; omega
            · have a8 : ¬ (k : Int) < 4 := by omega
              go_wp2_with fail
              go_returns
              exact ⟨g, h, rfl, ⟨Z, ⟨E, F, R, B⟩, hWz⟩, BW⟩
          · have a9 : ¬ (k : Int) < (wl.length : Int) := by omega
            go_wp2_with fail
            go_returns
            exact ⟨g, h, rfl, ⟨Z, ⟨E, F, R, B⟩, hWz⟩, BW⟩
end Go.Proofs.Ytdfifneikmlmoaa
namespace Go.Proofs.Ytdfifneikmlmoaa
open Go.ChangeShapes Go.WideShapes Go.ChangeAt Go.RowKit
set_option linter.unusedVariables false
set_option linter.unusedSimpArgs false

/-- Whether x is among l. -/
def hsI (l : List Int) (x : Int) : Bool := l.any fun y => y == x
theorem hsI_iff (l : List Int) (x : Int) : hsI l x = true ↔ x ∈ l := by
  unfold hsI; rw [List.any_eq_true]
  constructor
  · rintro ⟨y, h, e⟩; rw [beq_iff_eq] at e; subst e; exact h
  · intro h; exact ⟨x, h, by simp⟩
theorem hsI_step (l : List Int) (x : Int) (k : Nat) (hk : k < l.length) (h : hsI (l.take k) x = false) : hsI (l.take (k + 1)) x = (l.getD k 0 == x) := by
  unfold hsI at *
  rw [List.take_add_one, List.getElem?_eq_getElem hk, List.any_append, h, List.getD_eq_getElem?_getD, List.getElem?_eq_getElem hk]; simp
theorem hsI_yes (l : List Int) (x : Int) (k : Nat) (hk : k < l.length) (h : l.getD k 0 = x) : hsI l x = true := by
  rw [hsI_iff, ← h, List.getD_eq_getElem?_getD, List.getElem?_eq_getElem hk]; exact List.getElem_mem hk
set_option maxRecDepth 100000 in
set_option maxHeartbeats 1000000 in
theorem bhas_any {w : World} {s : Sv} {l : List Int} (h : InsS w s l) (x : Int) :
    Calls Try.prog 13 #[.slice s.a s.n s.c, .int .i64 x] w fun e w' => e = .returned (.bool (hsI l x)) ∧ w = w' := by
  have hl := h.i.len
  have hcap : s.n ≤ 9223372036854775807 := by have := h.i.le; have := h.i.cap; unfold maxLen at this; omega
  have hcell := h.i.cell
  obtain ⟨sa, sn, sc⟩ := s
  simp only at hl hcell hcap ⊢
  subst hl
  clear h
  obtain ⟨r, hr⟩ : ∃ r : Bool, Hid (hsI l x = r) := ⟨_, rfl⟩
  rw [hr.out]
  go_enter Try.func13, Try.ntmps13
  go_wp2
  go_loopw [5] (fun v wr => wr = w ∧ ∃ k : Nat, k ≤ l.length ∧ v = .int .i64 (k : Int) ∧ hsI (l.take k) x = false) (fun v _ => l.length - (intOf v).toNat)
  case atStart => exact ⟨rfl, 0, Nat.zero_le _, rfl, rfl⟩
  case round =>
    obtain ⟨rfl, k, hk, rfl, hg⟩ := hrel
    by_cases hlt : k < l.length
    · obtain ⟨b, o, rfl, hcs⟩ := hcell (by omega)
      have ck := hcs k hlt
      have a9 : (k : Int) < (l.length : Int) := by omega
      have hyes := hsI_yes l x k hlt
      have hst : Hid (hsI (l.take (k + 1)) x = (l.getD k 0 == x)) := hsI_step l x k hlt hg
      generalize l.getD k 0 = y at *
      clear hcs hcell
      by_cases hy : y = x
      · have hrr : true = r := (hyes hy).symm.trans hr.out
        subst hrr
        subst hy
        clear hyes hst hr hg
        go_wp2
        go_returns
        exact ⟨rfl, rfl⟩
      · have hn : hsI (l.take (k + 1)) x = false := by rw [hst.out]; simp [hy]
        clear hyes hst hr hg
        go_wp2
        go_roundw
        case rel => exact ⟨trivial, k + 1, by omega, by go_num, hn⟩
        case measure => simp [intOf]; omega
    · have a9 : ¬ (k : Int) < (l.length : Int) := by omega
      rw [List.take_of_length_le (by omega)] at hg
      have hrr : false = r := hg.symm.trans hr.out
      subst hrr
      clear hr hg
      go_wp2
      go_returns
      exact ⟨rfl, rfl⟩
set_option maxRecDepth 100000 in
set_option maxHeartbeats 1000000 in
theorem phas_any {w : World} {s : Sv} {l : List Int} (h : InsS w s l) (x : Int) :
    Calls Try.prog 43 #[.slice s.a s.n s.c, .int .i64 x] w fun e w' => e = .returned (.bool (hsI l x)) ∧ w = w' := by
  have hl := h.i.len
  have hcap : s.n ≤ 9223372036854775807 := by have := h.i.le; have := h.i.cap; unfold maxLen at this; omega
  have hcell := h.i.cell
  obtain ⟨sa, sn, sc⟩ := s
  simp only at hl hcell hcap ⊢
  subst hl
  clear h
  obtain ⟨r, hr⟩ : ∃ r : Bool, Hid (hsI l x = r) := ⟨_, rfl⟩
  rw [hr.out]
  go_enter Try.func43, Try.ntmps43
  go_wp2
  go_loopw [5] (fun v wr => wr = w ∧ ∃ k : Nat, k ≤ l.length ∧ v = .int .i64 (k : Int) ∧ hsI (l.take k) x = false) (fun v _ => l.length - (intOf v).toNat)
  case atStart => exact ⟨rfl, 0, Nat.zero_le _, rfl, rfl⟩
  case round =>
    obtain ⟨rfl, k, hk, rfl, hg⟩ := hrel
    by_cases hlt : k < l.length
    · obtain ⟨b, o, rfl, hcs⟩ := hcell (by omega)
      have ck := hcs k hlt
      have a9 : (k : Int) < (l.length : Int) := by omega
      have hyes := hsI_yes l x k hlt
      have hst : Hid (hsI (l.take (k + 1)) x = (l.getD k 0 == x)) := hsI_step l x k hlt hg
      generalize l.getD k 0 = y at *
      clear hcs hcell
      by_cases hy : y = x
      · have hrr : true = r := (hyes hy).symm.trans hr.out
        subst hrr
        subst hy
        clear hyes hst hr hg
        go_wp2
        go_returns
        exact ⟨rfl, rfl⟩
      · have hn : hsI (l.take (k + 1)) x = false := by rw [hst.out]; simp [hy]
        clear hyes hst hr hg
        go_wp2
        go_roundw
        case rel => exact ⟨trivial, k + 1, by omega, by go_num, hn⟩
        case measure => simp [intOf]; omega
    · have a9 : ¬ (k : Int) < (l.length : Int) := by omega
      rw [List.take_of_length_le (by omega)] at hg
      have hrr : false = r := hg.symm.trans hr.out
      subst hrr
      clear hr hg
      go_wp2
      go_returns
      exact ⟨rfl, rfl⟩
end Go.Proofs.Ytdfifneikmlmoaa
