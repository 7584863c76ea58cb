/-
  The walk of DiskPlays: for every number and acts the law returns true: the statement's frame follows in the next text.
-/
import Derived.Test.YtdjkdkekcjmokaaRfW
namespace Go.Proofs.Ytdjkdkekcjmokaa.diskPlays
open Go.ChangeShapes Go.WideShapes Go.ChangeAt Go.RowKit
set_option linter.unusedVariables false

set_option maxRecDepth 100000 in
set_option maxHeartbeats 1000000 in
theorem walk (a0 : Int) (a1 : Option Addr) (n1 c1 : Nat) (l : List AC) (w : World) (w0 : (Lit.int .i64 a0).wf = true) (w1 : Acs w a1 n1 c1 l) (hz : ∀ (i : Nat) (y : AC), l[i]? = some y → y.kn * 8 ≤ reachBytes) :
    Calls Try.prog 3 #[.int .i64 a0, .slice a1 n1 c1] w fun e w' => e = .returned (.bool true) ∧ Below w.heap.size w w' := by
  go_enter Try.func3, Try.ntmps3
  go_wp2_with fail
  refine (pnew_any w).mono ?_
  rintro e v1 ⟨rfl, b1, p1, z1⟩
  have Z1 : Hid (v1.heap.size = w.heap.size + 1) := z1
  clear z1
  go_wp2_with fail
  refine (rnew_any v1).mono ?_
  rintro e v2 ⟨rfl, b2, p2, z2⟩
  have Z2 : Hid (v2.heap.size = v1.heap.size + 1) := z2
  clear z2
  by_cases hn : a0 < 1 ∨ 2048 < a0
  · go_wp2_with fail
    refine (new_bad a0 _ _ hn).mono ?_
    rintro e u ⟨rfl, rfl⟩
    go_wp2_with fail
    refine (rnew_bad a0 _ _ hn).mono ?_
    rintro e u ⟨rfl, rfl⟩
    clear hn
    have hT := bnext b1 b2 (Nat.le_refl _)
    have hbd := w1.cap
    have hn1 := w1.le
    unfold maxLen at hbd
    clear b1 p1 Z1 b2 p2 Z2 w1 hz w0
    go_wp2_with fail
    go_loopw [11] (fun i wr => i = .int .i64 0 ∧ wr = v2) (fun _ _ => 0)
    case atStart => exact ⟨rfl, rfl⟩
    case round =>
      obtain ⟨rfl, rfl⟩ := hrel
      by_cases hlt : 0 < n1
      all_goals
        go_wp2_with fail
        refine (works_any _).mono ?_
        rintro e x9 ⟨rfl, bx9⟩
        go_wp2
        go_returns
        exact ⟨rfl, bnext hT bx9 (Nat.le_refl _)⟩
  · obtain ⟨N, rfl⟩ : ∃ N : Nat, a0 = (N : Int) := ⟨a0.toNat, by omega⟩
    have hN1 : 1 ≤ N := by omega
    have hN2 : N ≤ 2048 := by omega
    clear hn
    go_wp2_with fail
    refine (new_any N _ _ hN1 hN2).mono ?_
    rintro e v3 ⟨rfl, b3, z3, d3⟩
    have Z3 : Hid (v3.heap.size = v2.heap.size + 3) := z3
    clear z3
    go_wp2_with fail
    refine (rnew_disk N v1.heap.size _ hN1 hN2).mono ?_
    rintro e v4 ⟨y, R, rfl, b4, r4, hR⟩
    have hP := Pl.start hN1 hN2 rfl b1 p1 Z1.out rfl b2 p2 Z2.out b3 Z3.out d3 b4 r4 hR
    obtain ⟨g, hg⟩ : ∃ g, g = v2.heap.size + 2 := ⟨_, rfl⟩
    obtain ⟨F, hF⟩ : ∃ F : Nat → Prop, F = (fun x => v2.heap.size ≤ x ∧ x < v2.heap.size + 3) := ⟨_, rfl⟩
    obtain ⟨q, hq⟩ : ∃ q, q = v1.heap.size := ⟨_, rfl⟩
    obtain ⟨pg, hpg⟩ : ∃ pg, pg = w.heap.size := ⟨_, rfl⟩
    rw [← hF, ← hg, ← hq, ← hpg] at hP
    rw [← hg, ← hq, ← hpg]
    clear hF hg hq hpg b1 p1 Z1 b2 p2 Z2 b3 d3 Z3 b4 r4 hR hN1 hN2 w0
    have hn1 := w1.le
    have hn2 := w1.cap
    unfold maxLen at hn2
    go_wp2_with fail
    go_loopw [11] (fun i wr => ∃ k : Nat, k ≤ n1 ∧ k ≤ 60 ∧ i = .int .i64 k ∧ ∃ S p F R, Pl w wr g pg y q k S p F R) (fun i _ => 60 - (intOf i).toNat)
    case atStart => exact ⟨0, Nat.zero_le _, Nat.zero_le _, rfl, _, _, _, _, hP⟩
    case round =>
      clear hP
      obtain ⟨k, hk, hk60, rfl, S, p, F', R', hI⟩ := hrel
      by_cases hlt : k < n1 ∧ k < 60
      · obtain ⟨hlt1, hlt2⟩ := hlt
        obtain ⟨b, o, rfl, hc⟩ := (w1.later hI.bel).cell (by omega)
        obtain ⟨x, hx0, hx1, hx2⟩ := hc k hlt1
        have hbl : b < w.heap.size := w1.lt (by omega)
        have s39 : (Try.prog.info? 39).map (·.size) = some x.cs.length := by rw [x.cs_len]; kernel_rfl
        have u39 := Try.underlying39
        have i1 : (0 : Int) ≤ (k : Int) := by omega
        have i2 : (k : Int) < (n1 : Int) := by omega
        have hkn : x.kn * 8 ≤ 140737488355328 := Nat.le_trans (hz k x hx0) (Nat.le_of_lt reachBytes_lt)
        have hKeep : ∀ z : Addr, 0 < x.kn → x.ka = some z → ¬ Foot pg q F' R' z.block := fun zz h0 hz0 hf => by
          obtain ⟨b', o', e', hc'⟩ := w1.cell (by omega)
          obtain ⟨x', hx0', _, hok'⟩ := hc' k hlt1
          rw [hx0] at hx0'; injection hx0' with hx0'; subst hx0'
          obtain ⟨b2, o2, e2, hc2⟩ := hok'.k.cell h0
          rw [hz0] at e2; injection e2 with e2; subst e2
          have h3 := World.block_lt_of_cell? w ⟨b2, o2 + 0, none⟩ (hc2 0 h0)
          have h4 := hI.f _ hf
          simp only at h3 h4
          omega
        have hSr : ∀ u, Stp (fun x => w.heap.size ≤ x) wr u → u.rangeAt b (o + k * 67) x.cs := fun u s => s.range hx1 (by omega)
        have hJ := hI.b.step (Stp.refl (fun _ => False) wr).drew (fun _ _ => id)
        have hok : x.ok wr.drew := hx2.later ((Below.refl _ _).drew)
        have hDo := do_any hJ (by omega) x hok hx2.z hkn hKeep
        clear hc
        go_wp2_with fail
        refine wp_region_noPanic ?_
        refine wp_region_held_drew (S := fun u => u.rangeAt b (o + k * 67) x.cs) (by kernel_rfl) (hSr _ (Stp.refl _ _).drew) (fun hHeld => ?_)
        refine wpAnyH_take (i := 0) (oi := { dst := some 57, op := Op.move (Operand.tmp 7), type := 27, pos := _, after := #[], guard := none }) (v := .pointer (some ⟨g, 0, none⟩)) rfl (by kernel_rfl) (by kernel_rfl) (by kernel_rfl) (fun _ _ _ h => h) (Or.inl ⟨by rfl, ?_⟩) hHeld ?_
        · intro u hu
          go_simp
        try simp only [Act.put, List.setIfInBounds_toArray, List.set_cons_zero, List.set_cons_succ]
        refine wpAnyH_take (i := 1) (oi := { dst := some 58, op := Op.move (Operand.tmp 9), type := 31, pos := _, after := #[], guard := none }) (v := .pointer (some ⟨y, 0, none⟩)) rfl (by kernel_rfl) (by kernel_rfl) (by kernel_rfl) (fun _ _ _ h => h) (Or.inl ⟨by rfl, ?_⟩) hHeld ?_
        · intro u hu
          go_simp
        try simp only [Act.put, List.setIfInBounds_toArray, List.set_cons_zero, List.set_cons_succ]
        refine wpAnyH_take (i := 2) (oi := { dst := some 59, op := Op.move (Operand.tmp 5), type := 23, pos := _, after := #[], guard := none }) (v := .pointer (some ⟨pg, 0, none⟩)) rfl (by kernel_rfl) (by kernel_rfl) (by kernel_rfl) (fun _ _ _ h => h) (Or.inl ⟨by rfl, ?_⟩) hHeld ?_
        · intro u hu
          go_simp
        try simp only [Act.put, List.setIfInBounds_toArray, List.set_cons_zero, List.set_cons_succ]
        refine wpAnyH_take (i := 3) (oi := { dst := some 60, op := Op.move (Operand.tmp 6), type := 25, pos := _, after := #[], guard := none }) (v := .pointer (some ⟨q, 0, none⟩)) rfl (by kernel_rfl) (by kernel_rfl) (by kernel_rfl) (fun _ _ _ h => h) (Or.inl ⟨by rfl, ?_⟩) hHeld ?_
        · intro u hu
          go_simp
        try simp only [Act.put, List.setIfInBounds_toArray, List.set_cons_zero, List.set_cons_succ]
        refine wpAnyH_take (i := 4) (oi := { dst := some 61, op := Op.move (Operand.tmp 1), type := 22, pos := _, after := #[], guard := none }) (v := .slice (some ⟨b, o, none⟩) n1 c1) rfl (by kernel_rfl) (by kernel_rfl) (by kernel_rfl) (fun _ _ _ h => h) (Or.inl ⟨by rfl, ?_⟩) hHeld ?_
        · intro u hu
          go_simp
        try simp only [Act.put, List.setIfInBounds_toArray, List.set_cons_zero, List.set_cons_succ]
        refine wpAnyH_take (i := 5) (oi := { dst := some 62, op := Op.move (Operand.tmp 11), type := 3, pos := _, after := #[], guard := none }) (v := .int .i64 (k : Int)) rfl (by kernel_rfl) (by kernel_rfl) (by kernel_rfl) (fun _ _ _ h => h) (Or.inl ⟨by rfl, ?_⟩) hHeld ?_
        · intro u hu
          go_simp
        try simp only [Act.put, List.setIfInBounds_toArray, List.set_cons_zero, List.set_cons_succ]
        refine wpAnyH_take (i := 6) (oi := { dst := some 63, op := Op.indexAddr 22 (Operand.tmp 61) (Operand.tmp 62), type := 0, pos := _, after := #[{ on := 4, ground := Ground.data }, { on := 5, ground := Ground.data }], guard := none }) (v := .pointer (some ⟨b, o + k * 67, none⟩)) rfl (by kernel_rfl) (by kernel_rfl) (by kernel_rfl) (fun _ _ _ h => h) (Or.inl ⟨by rfl, ?_⟩) hHeld ?_
        · intro u hu
          go_simp
        try simp only [Act.put, List.setIfInBounds_toArray, List.set_cons_zero, List.set_cons_succ]
        refine wpAnyH_take (i := 7) (oi := { dst := some 64, op := Op.load 39 (Operand.tmp 63), type := 39, pos := _, after := #[{ on := 6, ground := Ground.data }], guard := none }) (v := .agg x.cs.toArray) rfl (by kernel_rfl) (by kernel_rfl) (by kernel_rfl) (fun _ _ _ h => h)
          (yieldsIf_load_mid (by rfl) 39 (.tmp 63) rfl b (o + k * 67) rfl x.cs _ (fun v hv => hv) u39 rfl s39) hHeld ?_
        try simp only [Act.put, List.setIfInBounds_toArray, List.set_cons_zero, List.set_cons_succ]
        refine wpAnyH_ready (rs := [8]) (by kernel_rfl) (by simp) ?_
        refine AllReadyH.cons (o := { dst := some 65, op := Op.call { callee := Callee.value (Operand.func 8), args := #[Operand.tmp 57, Operand.tmp 58, Operand.tmp 59, Operand.tmp 60, Operand.tmp 64], argTypes := #[27, 31, 23, 25, 39] }, type := 4, pos := _, after := #[{ on := 0, ground := Ground.data }, { on := 1, ground := Ground.data }, { on := 2, ground := Ground.data }, { on := 3, ground := Ground.data }, { on := 7, ground := Ground.data }], guard := none }) rfl (fun K hK => ?_) AllReadyH.nil
        go_simp
        refine hDo.mono ?_
        rintro e w2 ⟨rfl, Dn⟩
        obtain ⟨⟨S2, p2, F2, R2, hI2⟩, k9⟩ := hI.done (Dn.before (Stp.refl (fun _ => False) wr).drew)
        try go_wp2_with fail
        refine hK.out _ _ (hSr _ (k9.mono (fun x hx => .inl (hI.f x hx)))) (fun hHeld => ?_)
        clear hK K
        try simp only [Act.put, List.setIfInBounds_toArray, List.set_cons_zero, List.set_cons_succ]
        clear hDo hJ hok Dn
        refine wpAnyH_more (S' := fun u => u = w2) (fun u e => e ▸ hHeld) _ _ _ _ ?_
        clear hHeld
        have hHeld : (fun u => u = w2) w2 := rfl
        obtain ⟨s, t, v, hRk⟩ := hI2.b.r
        have c1' := hRk.c1
        have c3' := hRk.c3
        have c2' : w2.cell? ⟨q, 2, none⟩ = some (.bool p2.gone) := hI2.b.s.c2
        refine wpAnyH_take (i := 9) (oi := { dst := some 66, op := Op.unOp UnOp.not 4 (Operand.tmp 65), type := 4, pos := _, after := #[{ on := 8, ground := Ground.data }], guard := none }) (v := .bool false) rfl (by kernel_rfl) (by kernel_rfl) (by kernel_rfl) (fun _ _ _ h => h) (Or.inl ⟨by rfl, ?_⟩) hHeld ?_
        · intro u hu
          subst hu
          go_simp
        try simp only [Act.put, List.setIfInBounds_toArray, List.set_cons_zero, List.set_cons_succ]
        refine wpAnyH_take (i := 10) (oi := { dst := some 67, op := Op.move (Operand.tmp 66), type := 4, pos := _, after := #[{ on := 9, ground := Ground.data }, { on := 8, ground := Ground.chain }], guard := none }) (v := .bool false) rfl (by kernel_rfl) (by kernel_rfl) (by kernel_rfl) (fun _ _ _ h => h) (Or.inl ⟨by rfl, ?_⟩) hHeld ?_
        · intro u hu
          subst hu
          go_simp
        try simp only [Act.put, List.setIfInBounds_toArray, List.set_cons_zero, List.set_cons_succ]
        refine wpAnyH_take (i := 11) (oi := { dst := some 68, op := Op.move (Operand.tmp 7), type := 27, pos := _, after := #[{ on := 10, ground := Ground.guard }], guard := some (10, false) }) (v := .pointer (some ⟨g, 0, none⟩)) rfl (by kernel_rfl) (by kernel_rfl) (by kernel_rfl) (fun _ _ _ h => h) (Or.inl ⟨by rfl, ?_⟩) hHeld ?_
        · intro u hu
          subst hu
          go_simp
        try simp only [Act.put, List.setIfInBounds_toArray, List.set_cons_zero, List.set_cons_succ]
        refine wpAnyH_take (i := 13) (oi := { dst := some 70, op := Op.move (Operand.tmp 9), type := 31, pos := _, after := #[{ on := 10, ground := Ground.guard }], guard := some (10, false) }) (v := .pointer (some ⟨y, 0, none⟩)) rfl (by kernel_rfl) (by kernel_rfl) (by kernel_rfl) (fun _ _ _ h => h) (Or.inl ⟨by rfl, ?_⟩) hHeld ?_
        · intro u hu
          subst hu
          go_simp
        try simp only [Act.put, List.setIfInBounds_toArray, List.set_cons_zero, List.set_cons_succ]
        refine wpAnyH_take (i := 14) (oi := { dst := some 71, op := Op.nilCheck (Operand.tmp 70), type := 0, pos := _, after := #[{ on := 13, ground := Ground.data }, { on := 10, ground := Ground.guard }], guard := some (10, false) }) (v := .pointer (some ⟨y, 0, none⟩)) rfl (by kernel_rfl) (by kernel_rfl) (by kernel_rfl) (fun _ _ _ h => h) (Or.inl ⟨by rfl, ?_⟩) hHeld ?_
        · intro u hu
          subst hu
          go_simp
        try simp only [Act.put, List.setIfInBounds_toArray, List.set_cons_zero, List.set_cons_succ]
        refine wpAnyH_take (i := 15) (oi := { dst := some 72, op := Op.fieldAddr 44 (Operand.tmp 71) 3, type := 0, pos := _, after := #[{ on := 14, ground := Ground.data }, { on := 10, ground := Ground.guard }], guard := some (10, false) }) (v := .pointer (some ⟨y, 3, none⟩)) rfl (by kernel_rfl) (by kernel_rfl) (by kernel_rfl) (fun _ _ _ h => h) (Or.inl ⟨by rfl, ?_⟩) hHeld ?_
        · intro u hu
          subst hu
          go_simp
        try simp only [Act.put, List.setIfInBounds_toArray, List.set_cons_zero, List.set_cons_succ]
        refine wpAnyH_take (i := 16) (oi := { dst := some 73, op := Op.load 3 (Operand.tmp 72), type := 3, pos := _, after := #[{ on := 15, ground := Ground.data }, { on := 10, ground := Ground.guard }], guard := some (10, false) }) (v := .int .i64 S2.wr) rfl (by kernel_rfl) (by kernel_rfl) (by kernel_rfl) (fun _ _ _ h => h) (Or.inl ⟨by rfl, ?_⟩) hHeld ?_
        · intro u hu
          subst hu
          go_simp
        try simp only [Act.put, List.setIfInBounds_toArray, List.set_cons_zero, List.set_cons_succ]
        refine wpAnyH_ready (rs := [12]) (by kernel_rfl) (by simp) ?_
        refine AllReadyH.cons (o := { dst := some 69, op := Op.call { callee := Callee.value (Operand.func 9), args := #[Operand.tmp 68], argTypes := #[27] }, type := 3, pos := _, after := #[{ on := 11, ground := Ground.data }, { on := 10, ground := Ground.chain }, { on := 10, ground := Ground.guard }], guard := some (10, false) }) rfl (fun K hK => ?_) AllReadyH.nil
        go_simp
        refine (writes_any hI2.b.d.d).mono ?_
        rintro e u ⟨rfl, rfl⟩
        try go_wp2_with fail
        refine hK.out _ _ rfl (fun hHeld => ?_)
        clear hK K
        try simp only [Act.put, List.setIfInBounds_toArray, List.set_cons_zero, List.set_cons_succ]
        refine wpAnyH_take (i := 17) (oi := { dst := some 74, op := Op.binOp BinOp.neq 3 (Operand.tmp 69) (Operand.tmp 73) 3, type := 4, pos := _, after := #[{ on := 12, ground := Ground.data }, { on := 16, ground := Ground.data }, { on := 10, ground := Ground.guard }], guard := some (10, false) }) (v := .bool false) rfl (by kernel_rfl) (by kernel_rfl) (by kernel_rfl) (fun _ _ _ h => h) (Or.inl ⟨by rfl, ?_⟩) hHeld ?_
        · intro u hu
          subst hu
          go_simp
        try simp only [Act.put, List.setIfInBounds_toArray, List.set_cons_zero, List.set_cons_succ]
        refine wpAnyH_take (i := 18) (oi := { dst := some 75, op := Op.pick (Operand.tmp 67) (Operand.const (Value.bool true)) (Operand.tmp 74), type := 4, pos := _, after := #[{ on := 10, ground := Ground.data }, { on := 17, ground := Ground.data }], guard := none }) (v := .bool false) rfl (by kernel_rfl) (by kernel_rfl) (by kernel_rfl) (fun _ _ _ h => h) (Or.inl ⟨by rfl, ?_⟩) hHeld ?_
        · intro u hu
          subst hu
          go_simp
        try simp only [Act.put, List.setIfInBounds_toArray, List.set_cons_zero, List.set_cons_succ]
        refine wpAnyH_take (i := 19) (oi := { dst := some 76, op := Op.move (Operand.tmp 75), type := 4, pos := _, after := #[{ on := 18, ground := Ground.data }, { on := 12, ground := Ground.chain }], guard := none }) (v := .bool false) rfl (by kernel_rfl) (by kernel_rfl) (by kernel_rfl) (fun _ _ _ h => h) (Or.inl ⟨by rfl, ?_⟩) hHeld ?_
        · intro u hu
          subst hu
          go_simp
        try simp only [Act.put, List.setIfInBounds_toArray, List.set_cons_zero, List.set_cons_succ]
        refine wpAnyH_take (i := 20) (oi := { dst := some 77, op := Op.move (Operand.tmp 7), type := 27, pos := _, after := #[{ on := 19, ground := Ground.guard }], guard := some (19, false) }) (v := .pointer (some ⟨g, 0, none⟩)) rfl (by kernel_rfl) (by kernel_rfl) (by kernel_rfl) (fun _ _ _ h => h) (Or.inl ⟨by rfl, ?_⟩) hHeld ?_
        · intro u hu
          subst hu
          go_simp
        try simp only [Act.put, List.setIfInBounds_toArray, List.set_cons_zero, List.set_cons_succ]
        refine wpAnyH_take (i := 22) (oi := { dst := some 79, op := Op.move (Operand.tmp 9), type := 31, pos := _, after := #[{ on := 19, ground := Ground.guard }], guard := some (19, false) }) (v := .pointer (some ⟨y, 0, none⟩)) rfl (by kernel_rfl) (by kernel_rfl) (by kernel_rfl) (fun _ _ _ h => h) (Or.inl ⟨by rfl, ?_⟩) hHeld ?_
        · intro u hu
          subst hu
          go_simp
        try simp only [Act.put, List.setIfInBounds_toArray, List.set_cons_zero, List.set_cons_succ]
        refine wpAnyH_take (i := 23) (oi := { dst := some 80, op := Op.nilCheck (Operand.tmp 79), type := 0, pos := _, after := #[{ on := 22, ground := Ground.data }, { on := 19, ground := Ground.guard }], guard := some (19, false) }) (v := .pointer (some ⟨y, 0, none⟩)) rfl (by kernel_rfl) (by kernel_rfl) (by kernel_rfl) (fun _ _ _ h => h) (Or.inl ⟨by rfl, ?_⟩) hHeld ?_
        · intro u hu
          subst hu
          go_simp
        try simp only [Act.put, List.setIfInBounds_toArray, List.set_cons_zero, List.set_cons_succ]
        refine wpAnyH_take (i := 24) (oi := { dst := some 81, op := Op.fieldAddr 44 (Operand.tmp 80) 1, type := 0, pos := _, after := #[{ on := 23, ground := Ground.data }, { on := 19, ground := Ground.guard }], guard := some (19, false) }) (v := .pointer (some ⟨y, 1, none⟩)) rfl (by kernel_rfl) (by kernel_rfl) (by kernel_rfl) (fun _ _ _ h => h) (Or.inl ⟨by rfl, ?_⟩) hHeld ?_
        · intro u hu
          subst hu
          go_simp
        try simp only [Act.put, List.setIfInBounds_toArray, List.set_cons_zero, List.set_cons_succ]
        refine wpAnyH_take (i := 25) (oi := { dst := some 82, op := Op.load 41 (Operand.tmp 81), type := 41, pos := _, after := #[{ on := 24, ground := Ground.data }, { on := 19, ground := Ground.guard }], guard := some (19, false) }) (v := .slice (some ⟨s, 0, none⟩) S2.n S2.n) rfl (by kernel_rfl) (by kernel_rfl) (by kernel_rfl) (fun _ _ _ h => h) (Or.inl ⟨by rfl, ?_⟩) hHeld ?_
        · intro u hu
          subst hu
          go_simp
        try simp only [Act.put, List.setIfInBounds_toArray, List.set_cons_zero, List.set_cons_succ]
        refine wpAnyH_take (i := 26) (oi := { dst := some 83, op := Op.call { callee := Callee.builtin Builtin.len, args := #[Operand.tmp 82], argTypes := #[41] }, type := 3, pos := _, after := #[{ on := 25, ground := Ground.data }, { on := 19, ground := Ground.guard }], guard := some (19, false) }) (v := .int .i64 (S2.n : Int)) rfl (by kernel_rfl) (by kernel_rfl) (by kernel_rfl) (fun _ _ _ h => h) (Or.inl ⟨by rfl, ?_⟩) hHeld ?_
        · intro u hu
          subst hu
          go_simp
        try simp only [Act.put, List.setIfInBounds_toArray, List.set_cons_zero, List.set_cons_succ]
        refine wpAnyH_ready (rs := [21]) (by kernel_rfl) (by simp) ?_
        refine AllReadyH.cons (o := { dst := some 78, op := Op.call { callee := Callee.value (Operand.func 10), args := #[Operand.tmp 77], argTypes := #[27] }, type := 3, pos := _, after := #[{ on := 20, ground := Ground.data }, { on := 19, ground := Ground.chain }, { on := 19, ground := Ground.guard }], guard := some (19, false) }) rfl (fun K hK => ?_) AllReadyH.nil
        go_simp
        refine (len_any hI2.b.d.d).mono ?_
        rintro e u ⟨rfl, rfl⟩
        try go_wp2_with fail
        refine hK.out _ _ rfl (fun hHeld => ?_)
        clear hK K
        try simp only [Act.put, List.setIfInBounds_toArray, List.set_cons_zero, List.set_cons_succ]
        refine wpAnyH_take (i := 27) (oi := { dst := some 84, op := Op.binOp BinOp.neq 3 (Operand.tmp 78) (Operand.tmp 83) 3, type := 4, pos := _, after := #[{ on := 21, ground := Ground.data }, { on := 26, ground := Ground.data }, { on := 19, ground := Ground.guard }], guard := some (19, false) }) (v := .bool false) rfl (by kernel_rfl) (by kernel_rfl) (by kernel_rfl) (fun _ _ _ h => h) (Or.inl ⟨by rfl, ?_⟩) hHeld ?_
        · intro u hu
          subst hu
          go_simp
        try simp only [Act.put, List.setIfInBounds_toArray, List.set_cons_zero, List.set_cons_succ]
        refine wpAnyH_take (i := 28) (oi := { dst := some 85, op := Op.pick (Operand.tmp 76) (Operand.const (Value.bool true)) (Operand.tmp 84), type := 4, pos := _, after := #[{ on := 19, ground := Ground.data }, { on := 27, ground := Ground.data }], guard := none }) (v := .bool false) rfl (by kernel_rfl) (by kernel_rfl) (by kernel_rfl) (fun _ _ _ h => h) (Or.inl ⟨by rfl, ?_⟩) hHeld ?_
        · intro u hu
          subst hu
          go_simp
        try simp only [Act.put, List.setIfInBounds_toArray, List.set_cons_zero, List.set_cons_succ]
        refine wpAnyH_take (i := 29) (oi := { dst := some 86, op := Op.move (Operand.tmp 85), type := 4, pos := _, after := #[{ on := 28, ground := Ground.data }, { on := 21, ground := Ground.chain }], guard := none }) (v := .bool false) rfl (by kernel_rfl) (by kernel_rfl) (by kernel_rfl) (fun _ _ _ h => h) (Or.inl ⟨by rfl, ?_⟩) hHeld ?_
        · intro u hu
          subst hu
          go_simp
        try simp only [Act.put, List.setIfInBounds_toArray, List.set_cons_zero, List.set_cons_succ]
        refine wpAnyH_take (i := 30) (oi := { dst := some 87, op := Op.move (Operand.tmp 5), type := 23, pos := _, after := #[{ on := 29, ground := Ground.guard }], guard := some (29, false) }) (v := .pointer (some ⟨pg, 0, none⟩)) rfl (by kernel_rfl) (by kernel_rfl) (by kernel_rfl) (fun _ _ _ h => h) (Or.inl ⟨by rfl, ?_⟩) hHeld ?_
        · intro u hu
          subst hu
          go_simp
        try simp only [Act.put, List.setIfInBounds_toArray, List.set_cons_zero, List.set_cons_succ]
        refine wpAnyH_take (i := 32) (oi := { dst := some 89, op := Op.move (Operand.tmp 6), type := 25, pos := _, after := #[{ on := 29, ground := Ground.guard }], guard := some (29, false) }) (v := .pointer (some ⟨q, 0, none⟩)) rfl (by kernel_rfl) (by kernel_rfl) (by kernel_rfl) (fun _ _ _ h => h) (Or.inl ⟨by rfl, ?_⟩) hHeld ?_
        · intro u hu
          subst hu
          go_simp
        try simp only [Act.put, List.setIfInBounds_toArray, List.set_cons_zero, List.set_cons_succ]
        refine wpAnyH_take (i := 33) (oi := { dst := some 90, op := Op.nilCheck (Operand.tmp 89), type := 0, pos := _, after := #[{ on := 32, ground := Ground.data }, { on := 29, ground := Ground.guard }], guard := some (29, false) }) (v := .pointer (some ⟨q, 0, none⟩)) rfl (by kernel_rfl) (by kernel_rfl) (by kernel_rfl) (fun _ _ _ h => h) (Or.inl ⟨by rfl, ?_⟩) hHeld ?_
        · intro u hu
          subst hu
          go_simp
        try simp only [Act.put, List.setIfInBounds_toArray, List.set_cons_zero, List.set_cons_succ]
        refine wpAnyH_take (i := 34) (oi := { dst := some 91, op := Op.fieldAddr 47 (Operand.tmp 90) 2, type := 0, pos := _, after := #[{ on := 33, ground := Ground.data }, { on := 29, ground := Ground.guard }], guard := some (29, false) }) (v := .pointer (some ⟨q, 2, none⟩)) rfl (by kernel_rfl) (by kernel_rfl) (by kernel_rfl) (fun _ _ _ h => h) (Or.inl ⟨by rfl, ?_⟩) hHeld ?_
        · intro u hu
          subst hu
          go_simp
        try simp only [Act.put, List.setIfInBounds_toArray, List.set_cons_zero, List.set_cons_succ]
        refine wpAnyH_take (i := 35) (oi := { dst := some 92, op := Op.load 4 (Operand.tmp 91), type := 4, pos := _, after := #[{ on := 34, ground := Ground.data }, { on := 29, ground := Ground.guard }], guard := some (29, false) }) (v := .bool p2.gone) rfl (by kernel_rfl) (by kernel_rfl) (by kernel_rfl) (fun _ _ _ h => h) (Or.inl ⟨by rfl, ?_⟩) hHeld ?_
        · intro u hu
          subst hu
          go_simp
        try simp only [Act.put, List.setIfInBounds_toArray, List.set_cons_zero, List.set_cons_succ]
        refine wpAnyH_ready (rs := [31]) (by kernel_rfl) (by simp) ?_
        refine AllReadyH.cons (o := { dst := some 88, op := Op.call { callee := Callee.value (Operand.func 11), args := #[Operand.tmp 87], argTypes := #[23] }, type := 4, pos := _, after := #[{ on := 30, ground := Ground.data }, { on := 29, ground := Ground.chain }, { on := 29, ground := Ground.guard }], guard := some (29, false) }) rfl (fun K hK => ?_) AllReadyH.nil
        go_simp
        refine (pgone_any pg p2 _ hI2.b.pw).mono ?_
        rintro e u ⟨rfl, rfl⟩
        try go_wp2_with fail
        refine hK.out _ _ rfl (fun hHeld => ?_)
        clear hK K
        try simp only [Act.put, List.setIfInBounds_toArray, List.set_cons_zero, List.set_cons_succ]
        refine wpAnyH_take (i := 36) (oi := { dst := some 93, op := Op.binOp BinOp.neq 4 (Operand.tmp 88) (Operand.tmp 92) 4, type := 4, pos := _, after := #[{ on := 31, ground := Ground.data }, { on := 35, ground := Ground.data }, { on := 29, ground := Ground.guard }], guard := some (29, false) }) (v := .bool false) rfl (by kernel_rfl) (by kernel_rfl) (by kernel_rfl) (fun _ _ _ h => h) (Or.inl ⟨by rfl, ?_⟩) hHeld ?_
        · intro u hu
          subst hu
          go_simp
        try simp only [Act.put, List.setIfInBounds_toArray, List.set_cons_zero, List.set_cons_succ]
        refine wpAnyH_take (i := 37) (oi := { dst := some 94, op := Op.pick (Operand.tmp 86) (Operand.const (Value.bool true)) (Operand.tmp 93), type := 4, pos := _, after := #[{ on := 29, ground := Ground.data }, { on := 36, ground := Ground.data }], guard := none }) (v := .bool false) rfl (by kernel_rfl) (by kernel_rfl) (by kernel_rfl) (fun _ _ _ h => h) (Or.inl ⟨by rfl, ?_⟩) hHeld ?_
        · intro u hu
          subst hu
          go_simp
        try simp only [Act.put, List.setIfInBounds_toArray, List.set_cons_zero, List.set_cons_succ]
        refine wpAnyH_done (by kernel_rfl) ?_ _
        refine NoPanic.normal ?_
        clear c1' c2' c3' hHeld hRk hI hx1 hx2 hSr k9 hKeep hkn s39 u39 hx0
        have nB := hI2.b.r.ok.n2
        have nA := hI2.b.r.ok.n1
        have wN := hI2.b.r.ok.wt
        obtain ⟨L, hL, hL12, hLn⟩ : ∃ L : Nat, (if (12 : Int) < (S2.n : Int) then (12 : Int) else (S2.n : Int)) = (L : Int) ∧ L ≤ 12 ∧ L ≤ S2.n := ⟨min S2.n 12, by split <;> omega, by omega, by omega⟩
        have cc1 := (Classical.choose_spec (Classical.choose_spec (Classical.choose_spec hI2.b.r))).c1
        have e36 := eq36
        have g36 := guard36
        have f36 := fold36
        go_wp2_with fail
        clear cc1
        go_loopw [12] (fun i wr => ∃ m : Nat, m ≤ L + 2 ∧ i = .int .i64 ((m : Int) - 1) ∧ Pl w wr g pg y q (k + 1) S2 p2 F2 R2) (fun i _ => L + 2 - (intOf i + 1).toNat)
        case atStart => exact ⟨0, Nat.zero_le _, rfl, hI2⟩
        case round =>
          clear hI2
          obtain ⟨m, hm, rfl, hA⟩ := hrel
          obtain ⟨s, t, v, hRk⟩ := hA.b.r
          have cc1 := hRk.c1
          have cc2 := hRk.c2
          by_cases hlt3 : m < L + 2
          · by_cases m0 : m = 0
            · subst m0
              rw [show ((0 : Nat) : Int) - 1 = -1 from rfl]
              have w0 : S2.wt (-1) = [] := wN (-1) (by unfold DS.inn; omega)
              have hwf : (Lit.int .i64 (-1)).wf = true := by simp [Lit.wf, IntKind.min, IntKind.max, IntKind.bits, IntKind.signed]
              go_wp2_with fail
              refine (read_any hA.b.d.d (-1) hwf).mono ?_
              rintro e y1 ⟨rfl, bb1⟩
              have hA1 := (hA.later bb1).later (below_made y1 (.cells (S2.shown (-1)).cs.toArray 36))
              have r1 := made_range y1 (S2.shown (-1)).cs 36
              clear hA bb1 cc1 cc2 hRk
              go_wp2_with (first
                | (refine at_alloc (by rfl) (by rfl) ?_)
                | (refine at_store (by rfl) _ _ (by rfl) _ _ (by rfl) (S2.shown (-1)) (by rfl) (there_made y1) ?_; rw [setCells_made]))
              refine (rread_any hA1.b.r (-1) hwf).mono ?_
              rintro e y2 ⟨rfl, bb2⟩
              have hA2 := (hA1.later bb2).later (below_made y2 (.cells (S2.shown (-1)).cs.toArray 36))
              have r2 := ((Stp.of_below bb2 (fun _ => False)).range r1 id)
              have r3 := (Stp.of_below (below_made y2 (.cells (S2.shown (-1)).cs.toArray 36)) (fun _ => False)).range r2 id
              have r4 := made_range y2 (S2.shown (-1)).cs 36
              have hWt := waits_any hA2.b.d.d (-1) hwf
              have hlb := hA2.b.wt (-1)
              clear hA1 bb2 r1 r2
              obtain ⟨s, t, v, hRk⟩ := hA2.b.r
              have cc1 := hRk.c1
              have cc2 := hRk.c2
              rw [w0] at hWt
              go_wp2_with (first
                | (refine at_alloc (by rfl) (by rfl) ?_)
                | (refine at_store (by rfl) _ _ (by rfl) _ _ (by rfl) (S2.shown (-1)) (by rfl) (there_made y2) ?_; rw [setCells_made])
                | (refine at_load (by rfl) _ (by rfl) _ _ (by rfl) (S2.shown (-1)) r3 ?_)
                | (refine at_load (by rfl) _ (by rfl) _ _ (by rfl) (S2.shown (-1)) r4 ?_)
                | (go_at_call 14; refine hWt.mono ?_; rintro e u ⟨rfl, rfl⟩))
              go_roundw
              case rel => exact ⟨1, by omega, by go_num, hA2⟩
              case measure => simp [intOf]
            · obtain ⟨j, rfl⟩ : ∃ j, m = j + 1 := ⟨m - 1, by omega⟩
              rw [show ((j + 1 : Nat) : Int) - 1 = (j : Int) by omega]
              by_cases hj : j < S2.n
              · have hwf : (Lit.int .i64 ((j : Int))).wf = true := by simp [Lit.wf, IntKind.min, IntKind.max, IntKind.bits, IntKind.signed]; omega
                have j0 : (0 : Int) ≤ (j : Int) := by omega
                have j1 : (j : Int) < (S2.n : Int) := by omega
                go_wp2_with fail
                refine (read_any hA.b.d.d ((j : Int)) hwf).mono ?_
                rintro e y1 ⟨rfl, bb1⟩
                have hA1 := (hA.later bb1).later (below_made y1 (.cells (S2.shown ((j : Int))).cs.toArray 36))
                have r1 := made_range y1 (S2.shown ((j : Int))).cs 36
                clear hA bb1 cc1 cc2 hRk
                go_wp2_with (first
                  | (refine at_alloc (by rfl) (by rfl) ?_)
                  | (refine at_store (by rfl) _ _ (by rfl) _ _ (by rfl) (S2.shown ((j : Int))) (by rfl) (there_made y1) ?_; rw [setCells_made]))
                refine (rread_any hA1.b.r ((j : Int)) hwf).mono ?_
                rintro e y2 ⟨rfl, bb2⟩
                have hA2 := (hA1.later bb2).later (below_made y2 (.cells (S2.shown ((j : Int))).cs.toArray 36))
                have r2 := ((Stp.of_below bb2 (fun _ => False)).range r1 id)
                have r3 := (Stp.of_below (below_made y2 (.cells (S2.shown ((j : Int))).cs.toArray 36)) (fun _ => False)).range r2 id
                have r4 := made_range y2 (S2.shown ((j : Int))).cs 36
                have hWt := waits_any hA2.b.d.d ((j : Int)) hwf
                have hlb := hA2.b.wt ((j : Int))
                clear hA1 bb2 r1 r2
                obtain ⟨s, t, v, hRk⟩ := hA2.b.r
                have cc1 := hRk.c1
                have cc2 := hRk.c2
                have wc := hRk.wc j hj
                obtain ⟨wa, wc2, wv, _, _⟩ := hRk.wv j hj
                rw [wv] at wc
                go_wp2_with (first
                  | (refine at_alloc (by rfl) (by rfl) ?_)
                  | (refine at_store (by rfl) _ _ (by rfl) _ _ (by rfl) (S2.shown ((j : Int))) (by rfl) (there_made y2) ?_; rw [setCells_made])
                  | (refine at_load (by rfl) _ (by rfl) _ _ (by rfl) (S2.shown ((j : Int))) r3 ?_)
                  | (refine at_load (by rfl) _ (by rfl) _ _ (by rfl) (S2.shown ((j : Int))) r4 ?_)
                  | (go_at_call 14; refine hWt.mono ?_; rintro e u ⟨rfl, rfl⟩))
                go_roundw
                case rel => exact ⟨j + 2, by omega, by go_num, hA2⟩
                case measure => simp [intOf]; omega
              · have hwf : (Lit.int .i64 ((j : Int))).wf = true := by simp [Lit.wf, IntKind.min, IntKind.max, IntKind.bits, IntKind.signed]; omega
                have j0 : (0 : Int) ≤ (j : Int) := by omega
                have j1 : ¬ (j : Int) < (S2.n : Int) := by omega
                have w0 : S2.wt (j : Int) = [] := wN (j : Int) (by unfold DS.inn; omega)
                go_wp2_with fail
                refine (read_any hA.b.d.d ((j : Int)) hwf).mono ?_
                rintro e y1 ⟨rfl, bb1⟩
                have hA1 := (hA.later bb1).later (below_made y1 (.cells (S2.shown ((j : Int))).cs.toArray 36))
                have r1 := made_range y1 (S2.shown ((j : Int))).cs 36
                clear hA bb1 cc1 cc2 hRk
                go_wp2_with (first
                  | (refine at_alloc (by rfl) (by rfl) ?_)
                  | (refine at_store (by rfl) _ _ (by rfl) _ _ (by rfl) (S2.shown ((j : Int))) (by rfl) (there_made y1) ?_; rw [setCells_made]))
                refine (rread_any hA1.b.r ((j : Int)) hwf).mono ?_
                rintro e y2 ⟨rfl, bb2⟩
                have hA2 := (hA1.later bb2).later (below_made y2 (.cells (S2.shown ((j : Int))).cs.toArray 36))
                have r2 := ((Stp.of_below bb2 (fun _ => False)).range r1 id)
                have r3 := (Stp.of_below (below_made y2 (.cells (S2.shown ((j : Int))).cs.toArray 36)) (fun _ => False)).range r2 id
                have r4 := made_range y2 (S2.shown ((j : Int))).cs 36
                have hWt := waits_any hA2.b.d.d ((j : Int)) hwf
                have hlb := hA2.b.wt ((j : Int))
                clear hA1 bb2 r1 r2
                obtain ⟨s, t, v, hRk⟩ := hA2.b.r
                have cc1 := hRk.c1
                have cc2 := hRk.c2
                rw [w0] at hWt
                go_wp2_with (first
                  | (refine at_alloc (by rfl) (by rfl) ?_)
                  | (refine at_store (by rfl) _ _ (by rfl) _ _ (by rfl) (S2.shown ((j : Int))) (by rfl) (there_made y2) ?_; rw [setCells_made])
                  | (refine at_load (by rfl) _ (by rfl) _ _ (by rfl) (S2.shown ((j : Int))) r3 ?_)
                  | (refine at_load (by rfl) _ (by rfl) _ _ (by rfl) (S2.shown ((j : Int))) r4 ?_)
                  | (go_at_call 14; refine hWt.mono ?_; rintro e u ⟨rfl, rfl⟩))
                go_roundw
                case rel => exact ⟨j + 2, by omega, by go_num, hA2⟩
                case measure => simp [intOf]; omega
          · obtain rfl : m = L + 2 := by omega
            rw [show ((L + 2 : Nat) : Int) - 1 = (L : Int) + 1 by omega]
            go_wp2_with fail
            refine (image_any hA.b.d.d).mono ?_
            rintro e y5 ⟨g3, rfl, bb5, _, _, own5⟩
            have hA5 := (hA.later bb5).later ((Below.refl _ _).drew)
            have rg5 : y5.rangeAt g3 0 (S2.st 0).cs := by
              obtain ⟨b', o', e', hc'⟩ := (Bls.own own5 (img_len S2)).cell (by omega)
              injection e' with e'; injection e' with e1 e2; subst e1; subst e2
              have := hc' 0 (by omega)
              rwa [img_get S2 0 (by omega)] at this
            have rg : y5.drew.rangeAt g3 0 (S2.st 0).cs := (Stp.refl (fun _ => False) y5).drew.range rg5 id
            clear hA hRk cc1 cc2 bb5 own5 rg5
            obtain ⟨s, t, v, hRk⟩ := hA5.b.r
            have cc1 := hRk.c1
            have rs : y5.drew.rangeAt s 0 (S2.st 0).cs := hRk.st 0 (by omega)
            have z0 : (0 : Int) < (S2.n : Int) := by omega
            go_wp2_with fail
            refine wp_region_noPanic ?_
            refine wp_region_held_drew (S := fun u => u = y5.drew) (by kernel_rfl) rfl (fun hHeld => ?_)
            clear hHeld
            generalize y5.drew = y6 at *
            have hHeld : (fun u => u = y6) y6 := rfl
            refine wpAnyH_take (i := 0) (oi := { dst := some 154, op := Op.move (Operand.tmp 18), type := 41, pos := _, after := #[], guard := none }) (v := .slice (some ⟨g3, 0, none⟩) S2.n S2.n) rfl (by kernel_rfl) (by kernel_rfl) (by kernel_rfl) (fun _ _ _ h => h) (Or.inl ⟨by rfl, ?_⟩) hHeld ?_
            · intro u hu
              subst hu
              go_simp
            try simp only [Act.put, List.setIfInBounds_toArray, List.set_cons_zero, List.set_cons_succ]
            refine wpAnyH_take (i := 1) (oi := { dst := some 155, op := Op.call { callee := Callee.builtin Builtin.len, args := #[Operand.tmp 154], argTypes := #[41] }, type := 3, pos := _, after := #[{ on := 0, ground := Ground.data }], guard := none }) (v := .int .i64 (S2.n : Int)) rfl (by kernel_rfl) (by kernel_rfl) (by kernel_rfl) (fun _ _ _ h => h) (Or.inl ⟨by rfl, ?_⟩) hHeld ?_
            · intro u hu
              subst hu
              go_simp
            try simp only [Act.put, List.setIfInBounds_toArray, List.set_cons_zero, List.set_cons_succ]
            refine wpAnyH_take (i := 2) (oi := { dst := some 156, op := Op.move (Operand.tmp 9), type := 31, pos := _, after := #[], guard := none }) (v := .pointer (some ⟨y, 0, none⟩)) rfl (by kernel_rfl) (by kernel_rfl) (by kernel_rfl) (fun _ _ _ h => h) (Or.inl ⟨by rfl, ?_⟩) hHeld ?_
            · intro u hu
              subst hu
              go_simp
            try simp only [Act.put, List.setIfInBounds_toArray, List.set_cons_zero, List.set_cons_succ]
            refine wpAnyH_take (i := 3) (oi := { dst := some 157, op := Op.nilCheck (Operand.tmp 156), type := 0, pos := _, after := #[{ on := 2, ground := Ground.data }], guard := none }) (v := .pointer (some ⟨y, 0, none⟩)) rfl (by kernel_rfl) (by kernel_rfl) (by kernel_rfl) (fun _ _ _ h => h) (Or.inl ⟨by rfl, ?_⟩) hHeld ?_
            · intro u hu
              subst hu
              go_simp
            try simp only [Act.put, List.setIfInBounds_toArray, List.set_cons_zero, List.set_cons_succ]
            refine wpAnyH_take (i := 4) (oi := { dst := some 158, op := Op.fieldAddr 44 (Operand.tmp 157) 1, type := 0, pos := _, after := #[{ on := 3, ground := Ground.data }], guard := none }) (v := .pointer (some ⟨y, 1, none⟩)) rfl (by kernel_rfl) (by kernel_rfl) (by kernel_rfl) (fun _ _ _ h => h) (Or.inl ⟨by rfl, ?_⟩) hHeld ?_
            · intro u hu
              subst hu
              go_simp
            try simp only [Act.put, List.setIfInBounds_toArray, List.set_cons_zero, List.set_cons_succ]
            refine wpAnyH_take (i := 5) (oi := { dst := some 159, op := Op.load 41 (Operand.tmp 158), type := 41, pos := _, after := #[{ on := 4, ground := Ground.data }], guard := none }) (v := .slice (some ⟨s, 0, none⟩) S2.n S2.n) rfl (by kernel_rfl) (by kernel_rfl) (by kernel_rfl) (fun _ _ _ h => h) (Or.inl ⟨by rfl, ?_⟩) hHeld ?_
            · intro u hu
              subst hu
              go_simp
            try simp only [Act.put, List.setIfInBounds_toArray, List.set_cons_zero, List.set_cons_succ]
            refine wpAnyH_take (i := 6) (oi := { dst := some 160, op := Op.call { callee := Callee.builtin Builtin.len, args := #[Operand.tmp 159], argTypes := #[41] }, type := 3, pos := _, after := #[{ on := 5, ground := Ground.data }], guard := none }) (v := .int .i64 (S2.n : Int)) rfl (by kernel_rfl) (by kernel_rfl) (by kernel_rfl) (fun _ _ _ h => h) (Or.inl ⟨by rfl, ?_⟩) hHeld ?_
            · intro u hu
              subst hu
              go_simp
            try simp only [Act.put, List.setIfInBounds_toArray, List.set_cons_zero, List.set_cons_succ]
            refine wpAnyH_take (i := 7) (oi := { dst := some 161, op := Op.binOp BinOp.neq 3 (Operand.tmp 155) (Operand.tmp 160) 3, type := 4, pos := _, after := #[{ on := 1, ground := Ground.data }, { on := 6, ground := Ground.data }], guard := none }) (v := .bool false) rfl (by kernel_rfl) (by kernel_rfl) (by kernel_rfl) (fun _ _ _ h => h) (Or.inl ⟨by rfl, ?_⟩) hHeld ?_
            · intro u hu
              subst hu
              go_simp
            try simp only [Act.put, List.setIfInBounds_toArray, List.set_cons_zero, List.set_cons_succ]
            refine wpAnyH_take (i := 8) (oi := { dst := some 162, op := Op.move (Operand.tmp 161), type := 4, pos := _, after := #[{ on := 7, ground := Ground.data }], guard := none }) (v := .bool false) rfl (by kernel_rfl) (by kernel_rfl) (by kernel_rfl) (fun _ _ _ h => h) (Or.inl ⟨by rfl, ?_⟩) hHeld ?_
            · intro u hu
              subst hu
              go_simp
            try simp only [Act.put, List.setIfInBounds_toArray, List.set_cons_zero, List.set_cons_succ]
            refine wpAnyH_take (i := 9) (oi := { dst := some 163, op := Op.move (Operand.tmp 18), type := 41, pos := _, after := #[{ on := 8, ground := Ground.guard }], guard := some (8, false) }) (v := .slice (some ⟨g3, 0, none⟩) S2.n S2.n) rfl (by kernel_rfl) (by kernel_rfl) (by kernel_rfl) (fun _ _ _ h => h) (Or.inl ⟨by rfl, ?_⟩) hHeld ?_
            · intro u hu
              subst hu
              go_simp
            try simp only [Act.put, List.setIfInBounds_toArray, List.set_cons_zero, List.set_cons_succ]
            refine wpAnyH_take (i := 10) (oi := { dst := some 164, op := Op.indexAddr 41 (Operand.tmp 163) (Operand.const (Value.int IntKind.i64 0)), type := 0, pos := _, after := #[{ on := 9, ground := Ground.data }, { on := 8, ground := Ground.guard }], guard := some (8, false) }) (v := .pointer (some ⟨g3, 0, none⟩)) rfl (by kernel_rfl) (by kernel_rfl) (by kernel_rfl) (fun _ _ _ h => h) (Or.inl ⟨by rfl, ?_⟩) hHeld ?_
            · intro u hu
              subst hu
              go_simp
              intro e0
              exact absurd e0 (by omega)
            try simp only [Act.put, List.setIfInBounds_toArray, List.set_cons_zero, List.set_cons_succ]
            refine wpAnyH_take (i := 11) (oi := { dst := some 165, op := Op.load 36 (Operand.tmp 164), type := 36, pos := _, after := #[{ on := 10, ground := Ground.data }, { on := 8, ground := Ground.guard }], guard := some (8, false) }) (v := .agg (S2.st 0).cs.toArray) rfl (by kernel_rfl) (by kernel_rfl) (by kernel_rfl) (fun _ _ _ h => h)
              (yieldsIf_load_mid (by rfl) 36 (.tmp 164) rfl g3 0 rfl (S2.st 0).cs _ (fun v hv => hv ▸ rg) _root_.Go.Proofs.Ytdjkdkekcjmokaa.u36 rfl (size36 (S2.st 0))) hHeld ?_
            try simp only [Act.put, List.setIfInBounds_toArray, List.set_cons_zero, List.set_cons_succ]
            refine wpAnyH_take (i := 12) (oi := { dst := some 166, op := Op.move (Operand.tmp 9), type := 31, pos := _, after := #[{ on := 8, ground := Ground.guard }], guard := some (8, false) }) (v := .pointer (some ⟨y, 0, none⟩)) rfl (by kernel_rfl) (by kernel_rfl) (by kernel_rfl) (fun _ _ _ h => h) (Or.inl ⟨by rfl, ?_⟩) hHeld ?_
            · intro u hu
              subst hu
              go_simp
            try simp only [Act.put, List.setIfInBounds_toArray, List.set_cons_zero, List.set_cons_succ]
            refine wpAnyH_take (i := 13) (oi := { dst := some 167, op := Op.nilCheck (Operand.tmp 166), type := 0, pos := _, after := #[{ on := 12, ground := Ground.data }, { on := 8, ground := Ground.guard }], guard := some (8, false) }) (v := .pointer (some ⟨y, 0, none⟩)) rfl (by kernel_rfl) (by kernel_rfl) (by kernel_rfl) (fun _ _ _ h => h) (Or.inl ⟨by rfl, ?_⟩) hHeld ?_
            · intro u hu
              subst hu
              go_simp
            try simp only [Act.put, List.setIfInBounds_toArray, List.set_cons_zero, List.set_cons_succ]
            refine wpAnyH_take (i := 14) (oi := { dst := some 168, op := Op.fieldAddr 44 (Operand.tmp 167) 1, type := 0, pos := _, after := #[{ on := 13, ground := Ground.data }, { on := 8, ground := Ground.guard }], guard := some (8, false) }) (v := .pointer (some ⟨y, 1, none⟩)) rfl (by kernel_rfl) (by kernel_rfl) (by kernel_rfl) (fun _ _ _ h => h) (Or.inl ⟨by rfl, ?_⟩) hHeld ?_
            · intro u hu
              subst hu
              go_simp
            try simp only [Act.put, List.setIfInBounds_toArray, List.set_cons_zero, List.set_cons_succ]
            refine wpAnyH_take (i := 15) (oi := { dst := some 169, op := Op.load 41 (Operand.tmp 168), type := 41, pos := _, after := #[{ on := 14, ground := Ground.data }, { on := 8, ground := Ground.guard }], guard := some (8, false) }) (v := .slice (some ⟨s, 0, none⟩) S2.n S2.n) rfl (by kernel_rfl) (by kernel_rfl) (by kernel_rfl) (fun _ _ _ h => h) (Or.inl ⟨by rfl, ?_⟩) hHeld ?_
            · intro u hu
              subst hu
              go_simp
            try simp only [Act.put, List.setIfInBounds_toArray, List.set_cons_zero, List.set_cons_succ]
            refine wpAnyH_take (i := 16) (oi := { dst := some 170, op := Op.indexAddr 41 (Operand.tmp 169) (Operand.const (Value.int IntKind.i64 0)), type := 0, pos := _, after := #[{ on := 15, ground := Ground.data }, { on := 8, ground := Ground.guard }], guard := some (8, false) }) (v := .pointer (some ⟨s, 0, none⟩)) rfl (by kernel_rfl) (by kernel_rfl) (by kernel_rfl) (fun _ _ _ h => h) (Or.inl ⟨by rfl, ?_⟩) hHeld ?_
            · intro u hu
              subst hu
              go_simp
              intro e0
              exact absurd e0 (by omega)
            try simp only [Act.put, List.setIfInBounds_toArray, List.set_cons_zero, List.set_cons_succ]
            refine wpAnyH_take (i := 17) (oi := { dst := some 171, op := Op.load 36 (Operand.tmp 170), type := 36, pos := _, after := #[{ on := 16, ground := Ground.data }, { on := 8, ground := Ground.guard }], guard := some (8, false) }) (v := .agg (S2.st 0).cs.toArray) rfl (by kernel_rfl) (by kernel_rfl) (by kernel_rfl) (fun _ _ _ h => h)
              (yieldsIf_load_mid (by rfl) 36 (.tmp 170) rfl s 0 rfl (S2.st 0).cs _ (fun v hv => hv ▸ rs) _root_.Go.Proofs.Ytdjkdkekcjmokaa.u36 rfl (size36 (S2.st 0))) hHeld ?_
            try simp only [Act.put, List.setIfInBounds_toArray, List.set_cons_zero, List.set_cons_succ]
            refine wpAnyH_take (i := 18) (oi := { dst := some 172, op := Op.binOp BinOp.neq 36 (Operand.tmp 165) (Operand.tmp 171) 36, type := 4, pos := _, after := #[{ on := 11, ground := Ground.data }, { on := 17, ground := Ground.data }, { on := 8, ground := Ground.guard }], guard := some (8, false) }) (v := .bool false) rfl (by kernel_rfl) (by kernel_rfl) (by kernel_rfl) (fun _ _ _ h => h) (Or.inl ⟨by rfl, ?_⟩) hHeld ?_
            · intro u hu
              subst hu
              go_simp
            try simp only [Act.put, List.setIfInBounds_toArray, List.set_cons_zero, List.set_cons_succ]
            refine wpAnyH_take (i := 19) (oi := { dst := some 173, op := Op.pick (Operand.tmp 162) (Operand.const (Value.bool true)) (Operand.tmp 172), type := 4, pos := _, after := #[{ on := 8, ground := Ground.data }, { on := 18, ground := Ground.data }], guard := none }) (v := .bool false) rfl (by kernel_rfl) (by kernel_rfl) (by kernel_rfl) (fun _ _ _ h => h) (Or.inl ⟨by rfl, ?_⟩) hHeld ?_
            · intro u hu
              subst hu
              go_simp
            try simp only [Act.put, List.setIfInBounds_toArray, List.set_cons_zero, List.set_cons_succ]
            refine wpAnyH_done (by kernel_rfl) ?_ _
            refine NoPanic.normal ?_
            go_wp2_with fail
            go_roundw
            case rel => exact ⟨k + 1, by omega, by omega, by go_num, S2, p2, F2, R2, hA5⟩
            case measure => simp [intOf]; omega
      · have hT := hI.bel
        clear hI
        have hlt' : ¬ (k < n1) ∨ (k < n1 ∧ ¬ k < 60) := by omega
        clear hlt
        rcases hlt' with hlt | ⟨hlt, hlt8⟩
        all_goals
          go_wp2_with fail
          refine (works_any _).mono ?_
          rintro e x9 ⟨rfl, bx9⟩
          go_wp2
          go_returns
          exact ⟨rfl, bnext hT bx9 (Nat.le_refl _)⟩

end Go.Proofs.Ytdjkdkekcjmokaa.diskPlays
