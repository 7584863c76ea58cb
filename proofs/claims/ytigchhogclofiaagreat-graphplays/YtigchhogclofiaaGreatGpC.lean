/-
  What the statement's alike returns: no statement is proved here.
-/
import Derived.Test.YtigchhogclofiaaGreatGpB
namespace Go.Proofs.YtigchhogclofiaaGreat
open Go.ChangeShapes Go.WideShapes Go.ChangeAt Go.RowKit
set_option linter.unusedVariables false
set_option linter.unusedSimpArgs false

set_option maxRecDepth 100000 in
set_option maxHeartbeats 8000000 in
theorem alike_any {w : World} {g mp mw h : Nat} {f fw : Int → Option Value} {Z : GZ} {E F Rs : Nat → Prop} {a : Option Addr} {c : Nat} {L : List Pe} (H : Gr w g mp mw f fw Z E F) (R : Rf w h Z a c L Rs) (n : Int) (hn : wfi n) (hzl : Z.l.length ≤ 100) (hn6 : ∀ p ∈ Z.l, p.needs.length ≤ 6) :
    Calls Tryz.prog 11 #[.pointer (some ⟨g, 0, none⟩), .pointer (some ⟨h, 0, none⟩), .int .i64 n] w fun e w' => e = .returned (.bool true) ∧ Below w.heap.size w w' := by
  have ok := H.ok
  have hnl : ∀ p ∈ Z.l, p.needs.length ≤ 100000 := fun p hp => by have := hn6 p hp; omega
  go_enter Tryz.func11, Tryz.ntmps11
  go_upto_region 1 with fail
  go_cut [87] (fun u wx => u = .bool false ∧ Below w.heap.size w wx)
  case first =>
    simp only [List.append_eq, List.cons_append, List.nil_append]
    refine wp_region_held_drew (S := fun u => Below w.heap.size w u) (by kernel_rfl) (Below.refl _ _).drew (fun hHeld => ?_)
    refine wpAnyH_take (i := 0) (oi := { dst := some 16, op := Op.move (Operand.tmp 0), type := 23, pos := _, after := #[], guard := none }) (v := .pointer (some ⟨g, 0, none⟩)) rfl (by kernel_rfl) (by kernel_rfl) (by kernel_rfl) (fun _ _ _ h => h) (Or.inl ⟨by rfl, ?_⟩) hHeld ?_
    · intro u hu
      go_simp
    try simp only [Act.put, List.setIfInBounds_toArray, List.set_cons_zero, List.set_cons_succ]
    refine wpAnyH_take (i := 2) (oi := { dst := some 18, op := Op.move (Operand.tmp 1), type := 25, pos := _, after := #[], guard := none }) (v := .pointer (some ⟨h, 0, none⟩)) rfl (by kernel_rfl) (by kernel_rfl) (by kernel_rfl) (fun _ _ _ h => h) (Or.inl ⟨by rfl, ?_⟩) hHeld ?_
    · intro u hu
      go_simp
    try simp only [Act.put, List.setIfInBounds_toArray, List.set_cons_zero, List.set_cons_succ]
    refine wpAnyH_ready (rs := [1]) (by kernel_rfl) (by simp) ?_
    refine (AllReadyH.cons (o := { dst := some 17, op := Op.call { callee := Callee.value (Operand.func 31), args := #[Operand.tmp 16], argTypes := #[23] }, type := 28, pos := _, after := #[{ on := 0, ground := Ground.data }], guard := none }) rfl (fun K hK => ?_) AllReadyH.nil)
    go_simp
    refine (up2 (all_any (H.later hHeld)) (l' := (ids (Z.l.filter fun _ => true))) rfl (wf_ids ok _)).mono ?_
    rintro e u1 ⟨s1, rfl, i1, b1, _⟩
    try go_wp2_with fail
    refine hK.out _ _ (bnext hHeld b1 (Nat.le_refl _)) (fun hHeld => ?_)
    clear hK K
    try simp only [Act.put, List.setIfInBounds_toArray, List.set_cons_zero, List.set_cons_succ]
    refine wpAnyH_ready (rs := [3]) (by kernel_rfl) (by simp) ?_
    refine (AllReadyH.cons (o := { dst := some 19, op := Op.call { callee := Callee.value (Operand.func 32), args := #[Operand.tmp 18], argTypes := #[25] }, type := 28, pos := _, after := #[{ on := 2, ground := Ground.data }, { on := 1, ground := Ground.chain }], guard := none }) rfl (fun K hK => ?_) AllReadyH.nil)
    go_simp
    refine (up2 (rall_any (R.later hHeld)) (l' := (ids (Z.l.filter fun _ => true))) rfl (wf_ids ok _)).mono ?_
    rintro e u2 ⟨s2, rfl, i2, b2, _⟩
    try go_wp2_with fail
    refine hK.out _ _ (bnext hHeld b2 (Nat.le_refl _)) (fun hHeld => ?_)
    clear hK K
    replace i1 := i1.later b2
    try simp only [Act.put, List.setIfInBounds_toArray, List.set_cons_zero, List.set_cons_succ]
    refine wpAnyH_ready (rs := [4]) (by kernel_rfl) (by simp) ?_
    refine (AllReadyH.cons (o := { dst := some 20, op := Op.call { callee := Callee.value (Operand.func 23), args := #[Operand.tmp 17, Operand.tmp 19], argTypes := #[28, 28] }, type := 4, pos := _, after := #[{ on := 1, ground := Ground.data }, { on := 3, ground := Ground.data }, { on := 3, ground := Ground.chain }], guard := none }) rfl (fun K hK => ?_) AllReadyH.nil)
    go_simp
    refine (same_any i1 i2 (len_ids ok _)).mono ?_
    rintro e u3 ⟨rfl, b3⟩
    try go_wp2_with fail
    refine hK.out _ _ (bnext hHeld b3 (Nat.le_refl _)) (fun hHeld => ?_)
    clear hK K
    clear i1 i2 b1 b2 b3
    try simp only [Act.put, List.setIfInBounds_toArray, List.set_cons_zero, List.set_cons_succ]
    refine wpAnyH_take (i := 5) (oi := { dst := some 21, op := Op.unOp UnOp.not 4 (Operand.tmp 20), type := 4, pos := _, after := #[{ on := 4, ground := Ground.data }], guard := none }) (v := .bool false) rfl (by kernel_rfl) (by kernel_rfl) (by kernel_rfl) (fun _ _ _ h => h) (Or.inl ⟨by rfl, ?_⟩) hHeld ?_
    · intro u hu
      go_simp
    try simp only [Act.put, List.setIfInBounds_toArray, List.set_cons_zero, List.set_cons_succ]
    refine wpAnyH_take (i := 6) (oi := { dst := some 22, op := Op.move (Operand.tmp 21), type := 4, pos := _, after := #[{ on := 5, ground := Ground.data }, { on := 4, ground := Ground.chain }], guard := none }) (v := .bool false) rfl (by kernel_rfl) (by kernel_rfl) (by kernel_rfl) (fun _ _ _ h => h) (Or.inl ⟨by rfl, ?_⟩) hHeld ?_
    · intro u hu
      go_simp
    try simp only [Act.put, List.setIfInBounds_toArray, List.set_cons_zero, List.set_cons_succ]
    refine wpAnyH_take (i := 7) (oi := { dst := some 23, op := Op.move (Operand.tmp 0), type := 23, pos := _, after := #[{ on := 6, ground := Ground.guard }], guard := some (6, false) }) (v := .pointer (some ⟨g, 0, none⟩)) rfl (by kernel_rfl) (by kernel_rfl) (by kernel_rfl) (fun _ _ _ h => h) (Or.inl ⟨by rfl, ?_⟩) hHeld ?_
    · intro u hu
      go_simp
    try simp only [Act.put, List.setIfInBounds_toArray, List.set_cons_zero, List.set_cons_succ]
    refine wpAnyH_take (i := 9) (oi := { dst := some 25, op := Op.move (Operand.tmp 1), type := 25, pos := _, after := #[{ on := 6, ground := Ground.guard }], guard := some (6, false) }) (v := .pointer (some ⟨h, 0, none⟩)) rfl (by kernel_rfl) (by kernel_rfl) (by kernel_rfl) (fun _ _ _ h => h) (Or.inl ⟨by rfl, ?_⟩) hHeld ?_
    · intro u hu
      go_simp
    try simp only [Act.put, List.setIfInBounds_toArray, List.set_cons_zero, List.set_cons_succ]
    refine wpAnyH_ready (rs := [8]) (by kernel_rfl) (by simp) ?_
    refine (AllReadyH.cons (o := { dst := some 24, op := Op.call { callee := Callee.value (Operand.func 33), args := #[Operand.tmp 23], argTypes := #[23] }, type := 28, pos := _, after := #[{ on := 7, ground := Ground.data }, { on := 6, ground := Ground.chain }, { on := 6, ground := Ground.guard }], guard := some (6, false) }) rfl (fun K hK => ?_) AllReadyH.nil)
    go_simp
    refine (up2 (written_any (H.later hHeld)) (l' := (ids (Z.l.filter fun p => p.wr))) rfl (wf_ids ok _)).mono ?_
    rintro e u4 ⟨s4, rfl, i4, b4, _⟩
    try go_wp2_with fail
    refine hK.out _ _ (bnext hHeld b4 (Nat.le_refl _)) (fun hHeld => ?_)
    clear hK K
    try simp only [Act.put, List.setIfInBounds_toArray, List.set_cons_zero, List.set_cons_succ]
    refine wpAnyH_ready (rs := [10]) (by kernel_rfl) (by simp) ?_
    refine (AllReadyH.cons (o := { dst := some 26, op := Op.call { callee := Callee.value (Operand.func 34), args := #[Operand.tmp 25], argTypes := #[25] }, type := 28, pos := _, after := #[{ on := 9, ground := Ground.data }, { on := 8, ground := Ground.chain }, { on := 6, ground := Ground.guard }], guard := some (6, false) }) rfl (fun K hK => ?_) AllReadyH.nil)
    go_simp
    refine (up2 (rwritten_any (R.later hHeld)) (l' := (ids (Z.l.filter fun p => p.wr))) rfl (wf_ids ok _)).mono ?_
    rintro e u5 ⟨s5, rfl, i5, b5, _⟩
    try go_wp2_with fail
    refine hK.out _ _ (bnext hHeld b5 (Nat.le_refl _)) (fun hHeld => ?_)
    clear hK K
    replace i4 := i4.later b5
    try simp only [Act.put, List.setIfInBounds_toArray, List.set_cons_zero, List.set_cons_succ]
    refine wpAnyH_ready (rs := [11]) (by kernel_rfl) (by simp) ?_
    refine (AllReadyH.cons (o := { dst := some 27, op := Op.call { callee := Callee.value (Operand.func 23), args := #[Operand.tmp 24, Operand.tmp 26], argTypes := #[28, 28] }, type := 4, pos := _, after := #[{ on := 8, ground := Ground.data }, { on := 10, ground := Ground.data }, { on := 10, ground := Ground.chain }, { on := 6, ground := Ground.guard }], guard := some (6, false) }) rfl (fun K hK => ?_) AllReadyH.nil)
    go_simp
    refine (same_any i4 i5 (len_ids ok _)).mono ?_
    rintro e u6 ⟨rfl, b6⟩
    try go_wp2_with fail
    refine hK.out _ _ (bnext hHeld b6 (Nat.le_refl _)) (fun hHeld => ?_)
    clear hK K
    clear i4 i5 b4 b5 b6
    try simp only [Act.put, List.setIfInBounds_toArray, List.set_cons_zero, List.set_cons_succ]
    refine wpAnyH_take (i := 12) (oi := { dst := some 28, op := Op.unOp UnOp.not 4 (Operand.tmp 27), type := 4, pos := _, after := #[{ on := 11, ground := Ground.data }, { on := 6, ground := Ground.guard }], guard := some (6, false) }) (v := .bool false) rfl (by kernel_rfl) (by kernel_rfl) (by kernel_rfl) (fun _ _ _ h => h) (Or.inl ⟨by rfl, ?_⟩) hHeld ?_
    · intro u hu
      go_simp
    try simp only [Act.put, List.setIfInBounds_toArray, List.set_cons_zero, List.set_cons_succ]
    refine wpAnyH_take (i := 13) (oi := { dst := some 29, op := Op.pick (Operand.tmp 22) (Operand.const (Value.bool true)) (Operand.tmp 28), type := 4, pos := _, after := #[{ on := 6, ground := Ground.data }, { on := 12, ground := Ground.data }], guard := none }) (v := .bool false) rfl (by kernel_rfl) (by kernel_rfl) (by kernel_rfl) (fun _ _ _ h => h) (Or.inl ⟨by rfl, ?_⟩) hHeld ?_
    · intro u hu
      go_simp
    try simp only [Act.put, List.setIfInBounds_toArray, List.set_cons_zero, List.set_cons_succ]
    refine wpAnyH_take (i := 14) (oi := { dst := some 30, op := Op.move (Operand.tmp 29), type := 4, pos := _, after := #[{ on := 13, ground := Ground.data }, { on := 11, ground := Ground.chain }], guard := none }) (v := .bool false) rfl (by kernel_rfl) (by kernel_rfl) (by kernel_rfl) (fun _ _ _ h => h) (Or.inl ⟨by rfl, ?_⟩) hHeld ?_
    · intro u hu
      go_simp
    try simp only [Act.put, List.setIfInBounds_toArray, List.set_cons_zero, List.set_cons_succ]
    refine wpAnyH_take (i := 15) (oi := { dst := some 31, op := Op.move (Operand.tmp 0), type := 23, pos := _, after := #[{ on := 14, ground := Ground.guard }], guard := some (14, false) }) (v := .pointer (some ⟨g, 0, none⟩)) rfl (by kernel_rfl) (by kernel_rfl) (by kernel_rfl) (fun _ _ _ h => h) (Or.inl ⟨by rfl, ?_⟩) hHeld ?_
    · intro u hu
      go_simp
    try simp only [Act.put, List.setIfInBounds_toArray, List.set_cons_zero, List.set_cons_succ]
    refine wpAnyH_take (i := 17) (oi := { dst := some 33, op := Op.move (Operand.tmp 1), type := 25, pos := _, after := #[{ on := 14, ground := Ground.guard }], guard := some (14, false) }) (v := .pointer (some ⟨h, 0, none⟩)) rfl (by kernel_rfl) (by kernel_rfl) (by kernel_rfl) (fun _ _ _ h => h) (Or.inl ⟨by rfl, ?_⟩) hHeld ?_
    · intro u hu
      go_simp
    try simp only [Act.put, List.setIfInBounds_toArray, List.set_cons_zero, List.set_cons_succ]
    refine wpAnyH_ready (rs := [16]) (by kernel_rfl) (by simp) ?_
    refine (AllReadyH.cons (o := { dst := some 32, op := Op.call { callee := Callee.value (Operand.func 35), args := #[Operand.tmp 31], argTypes := #[23] }, type := 28, pos := _, after := #[{ on := 15, ground := Ground.data }, { on := 14, ground := Ground.chain }, { on := 14, ground := Ground.guard }], guard := some (14, false) }) rfl (fun K hK => ?_) AllReadyH.nil)
    go_simp
    refine (up2 (sectors_any (H.later hHeld)) (l' := (secs Z.l)) rfl (wf_secs ok)).mono ?_
    rintro e u7 ⟨s7, rfl, i7, b7, _⟩
    try go_wp2_with fail
    refine hK.out _ _ (bnext hHeld b7 (Nat.le_refl _)) (fun hHeld => ?_)
    clear hK K
    try simp only [Act.put, List.setIfInBounds_toArray, List.set_cons_zero, List.set_cons_succ]
    refine wpAnyH_ready (rs := [18]) (by kernel_rfl) (by simp) ?_
    refine (AllReadyH.cons (o := { dst := some 34, op := Op.call { callee := Callee.value (Operand.func 36), args := #[Operand.tmp 33], argTypes := #[25] }, type := 28, pos := _, after := #[{ on := 17, ground := Ground.data }, { on := 16, ground := Ground.chain }, { on := 14, ground := Ground.guard }], guard := some (14, false) }) rfl (fun K hK => ?_) AllReadyH.nil)
    go_simp
    refine (up2 (rsectors_any (R.later hHeld)) (l' := (secs Z.l)) rfl (wf_secs ok)).mono ?_
    rintro e u8 ⟨s8, rfl, i8, b8, _⟩
    try go_wp2_with fail
    refine hK.out _ _ (bnext hHeld b8 (Nat.le_refl _)) (fun hHeld => ?_)
    clear hK K
    replace i7 := i7.later b8
    try simp only [Act.put, List.setIfInBounds_toArray, List.set_cons_zero, List.set_cons_succ]
    refine wpAnyH_ready (rs := [19]) (by kernel_rfl) (by simp) ?_
    refine (AllReadyH.cons (o := { dst := some 35, op := Op.call { callee := Callee.value (Operand.func 23), args := #[Operand.tmp 32, Operand.tmp 34], argTypes := #[28, 28] }, type := 4, pos := _, after := #[{ on := 16, ground := Ground.data }, { on := 18, ground := Ground.data }, { on := 18, ground := Ground.chain }, { on := 14, ground := Ground.guard }], guard := some (14, false) }) rfl (fun K hK => ?_) AllReadyH.nil)
    go_simp
    refine (same_any i7 i8 (len_secs ok)).mono ?_
    rintro e u9 ⟨rfl, b9⟩
    try go_wp2_with fail
    refine hK.out _ _ (bnext hHeld b9 (Nat.le_refl _)) (fun hHeld => ?_)
    clear hK K
    clear i7 i8 b7 b8 b9
    try simp only [Act.put, List.setIfInBounds_toArray, List.set_cons_zero, List.set_cons_succ]
    refine wpAnyH_take (i := 20) (oi := { dst := some 36, op := Op.unOp UnOp.not 4 (Operand.tmp 35), type := 4, pos := _, after := #[{ on := 19, ground := Ground.data }, { on := 14, ground := Ground.guard }], guard := some (14, false) }) (v := .bool false) rfl (by kernel_rfl) (by kernel_rfl) (by kernel_rfl) (fun _ _ _ h => h) (Or.inl ⟨by rfl, ?_⟩) hHeld ?_
    · intro u hu
      go_simp
    try simp only [Act.put, List.setIfInBounds_toArray, List.set_cons_zero, List.set_cons_succ]
    refine wpAnyH_take (i := 21) (oi := { dst := some 37, op := Op.pick (Operand.tmp 30) (Operand.const (Value.bool true)) (Operand.tmp 36), type := 4, pos := _, after := #[{ on := 14, ground := Ground.data }, { on := 20, ground := Ground.data }], guard := none }) (v := .bool false) rfl (by kernel_rfl) (by kernel_rfl) (by kernel_rfl) (fun _ _ _ h => h) (Or.inl ⟨by rfl, ?_⟩) hHeld ?_
    · intro u hu
      go_simp
    try simp only [Act.put, List.setIfInBounds_toArray, List.set_cons_zero, List.set_cons_succ]
    refine wpAnyH_take (i := 22) (oi := { dst := some 38, op := Op.move (Operand.tmp 37), type := 4, pos := _, after := #[{ on := 21, ground := Ground.data }, { on := 19, ground := Ground.chain }], guard := none }) (v := .bool false) rfl (by kernel_rfl) (by kernel_rfl) (by kernel_rfl) (fun _ _ _ h => h) (Or.inl ⟨by rfl, ?_⟩) hHeld ?_
    · intro u hu
      go_simp
    try simp only [Act.put, List.setIfInBounds_toArray, List.set_cons_zero, List.set_cons_succ]
    refine wpAnyH_take (i := 23) (oi := { dst := some 39, op := Op.move (Operand.tmp 0), type := 23, pos := _, after := #[{ on := 22, ground := Ground.guard }], guard := some (22, false) }) (v := .pointer (some ⟨g, 0, none⟩)) rfl (by kernel_rfl) (by kernel_rfl) (by kernel_rfl) (fun _ _ _ h => h) (Or.inl ⟨by rfl, ?_⟩) hHeld ?_
    · intro u hu
      go_simp
    try simp only [Act.put, List.setIfInBounds_toArray, List.set_cons_zero, List.set_cons_succ]
    refine wpAnyH_take (i := 24) (oi := { dst := some 40, op := Op.move (Operand.tmp 2), type := 3, pos := _, after := #[{ on := 22, ground := Ground.guard }], guard := some (22, false) }) (v := .int .i64 n) rfl (by kernel_rfl) (by kernel_rfl) (by kernel_rfl) (fun _ _ _ h => h) (Or.inl ⟨by rfl, ?_⟩) hHeld ?_
    · intro u hu
      go_simp
    try simp only [Act.put, List.setIfInBounds_toArray, List.set_cons_zero, List.set_cons_succ]
    refine wpAnyH_take (i := 26) (oi := { dst := some 42, op := Op.move (Operand.tmp 1), type := 25, pos := _, after := #[{ on := 22, ground := Ground.guard }], guard := some (22, false) }) (v := .pointer (some ⟨h, 0, none⟩)) rfl (by kernel_rfl) (by kernel_rfl) (by kernel_rfl) (fun _ _ _ h => h) (Or.inl ⟨by rfl, ?_⟩) hHeld ?_
    · intro u hu
      go_simp
    try simp only [Act.put, List.setIfInBounds_toArray, List.set_cons_zero, List.set_cons_succ]
    refine wpAnyH_take (i := 27) (oi := { dst := some 43, op := Op.move (Operand.tmp 2), type := 3, pos := _, after := #[{ on := 22, ground := Ground.guard }], guard := some (22, false) }) (v := .int .i64 n) rfl (by kernel_rfl) (by kernel_rfl) (by kernel_rfl) (fun _ _ _ h => h) (Or.inl ⟨by rfl, ?_⟩) hHeld ?_
    · intro u hu
      go_simp
    try simp only [Act.put, List.setIfInBounds_toArray, List.set_cons_zero, List.set_cons_succ]
    refine wpAnyH_ready (rs := [25]) (by kernel_rfl) (by simp) ?_
    refine (AllReadyH.cons (o := { dst := some 41, op := Op.call { callee := Callee.value (Operand.func 37), args := #[Operand.tmp 39, Operand.tmp 40], argTypes := #[23, 3] }, type := 28, pos := _, after := #[{ on := 23, ground := Ground.data }, { on := 24, ground := Ground.data }, { on := 22, ground := Ground.chain }, { on := 22, ground := Ground.guard }], guard := some (22, false) }) rfl (fun K hK => ?_) AllReadyH.nil)
    go_simp
    refine (up2 (by_any (H.later hHeld) n) (l' := (ids (Z.l.filter fun p => p.own == n))) rfl (wf_ids ok _)).mono ?_
    rintro e u10 ⟨s10, rfl, i10, b10, _⟩
    try go_wp2_with fail
    refine hK.out _ _ (bnext hHeld b10 (Nat.le_refl _)) (fun hHeld => ?_)
    clear hK K
    try simp only [Act.put, List.setIfInBounds_toArray, List.set_cons_zero, List.set_cons_succ]
    refine wpAnyH_ready (rs := [28]) (by kernel_rfl) (by simp) ?_
    refine (AllReadyH.cons (o := { dst := some 44, op := Op.call { callee := Callee.value (Operand.func 38), args := #[Operand.tmp 42, Operand.tmp 43], argTypes := #[25, 3] }, type := 28, pos := _, after := #[{ on := 26, ground := Ground.data }, { on := 27, ground := Ground.data }, { on := 25, ground := Ground.chain }, { on := 22, ground := Ground.guard }], guard := some (22, false) }) rfl (fun K hK => ?_) AllReadyH.nil)
    go_simp
    refine (up2 (rby_any (R.later hHeld) n) (l' := (ids (Z.l.filter fun p => p.own == n))) rfl (wf_ids ok _)).mono ?_
    rintro e u11 ⟨s11, rfl, i11, b11, _⟩
    try go_wp2_with fail
    refine hK.out _ _ (bnext hHeld b11 (Nat.le_refl _)) (fun hHeld => ?_)
    clear hK K
    replace i10 := i10.later b11
    try simp only [Act.put, List.setIfInBounds_toArray, List.set_cons_zero, List.set_cons_succ]
    refine wpAnyH_ready (rs := [29]) (by kernel_rfl) (by simp) ?_
    refine (AllReadyH.cons (o := { dst := some 45, op := Op.call { callee := Callee.value (Operand.func 23), args := #[Operand.tmp 41, Operand.tmp 44], argTypes := #[28, 28] }, type := 4, pos := _, after := #[{ on := 25, ground := Ground.data }, { on := 28, ground := Ground.data }, { on := 28, ground := Ground.chain }, { on := 22, ground := Ground.guard }], guard := some (22, false) }) rfl (fun K hK => ?_) AllReadyH.nil)
    go_simp
    refine (same_any i10 i11 (len_ids ok _)).mono ?_
    rintro e u12 ⟨rfl, b12⟩
    try go_wp2_with fail
    refine hK.out _ _ (bnext hHeld b12 (Nat.le_refl _)) (fun hHeld => ?_)
    clear hK K
    clear i10 i11 b10 b11 b12
    try simp only [Act.put, List.setIfInBounds_toArray, List.set_cons_zero, List.set_cons_succ]
    refine wpAnyH_take (i := 30) (oi := { dst := some 46, op := Op.unOp UnOp.not 4 (Operand.tmp 45), type := 4, pos := _, after := #[{ on := 29, ground := Ground.data }, { on := 22, ground := Ground.guard }], guard := some (22, false) }) (v := .bool false) rfl (by kernel_rfl) (by kernel_rfl) (by kernel_rfl) (fun _ _ _ h => h) (Or.inl ⟨by rfl, ?_⟩) hHeld ?_
    · intro u hu
      go_simp
    try simp only [Act.put, List.setIfInBounds_toArray, List.set_cons_zero, List.set_cons_succ]
    refine wpAnyH_take (i := 31) (oi := { dst := some 47, op := Op.pick (Operand.tmp 38) (Operand.const (Value.bool true)) (Operand.tmp 46), type := 4, pos := _, after := #[{ on := 22, ground := Ground.data }, { on := 30, ground := Ground.data }], guard := none }) (v := .bool false) rfl (by kernel_rfl) (by kernel_rfl) (by kernel_rfl) (fun _ _ _ h => h) (Or.inl ⟨by rfl, ?_⟩) hHeld ?_
    · intro u hu
      go_simp
    try simp only [Act.put, List.setIfInBounds_toArray, List.set_cons_zero, List.set_cons_succ]
    refine wpAnyH_take (i := 32) (oi := { dst := some 48, op := Op.move (Operand.tmp 47), type := 4, pos := _, after := #[{ on := 31, ground := Ground.data }, { on := 29, ground := Ground.chain }], guard := none }) (v := .bool false) rfl (by kernel_rfl) (by kernel_rfl) (by kernel_rfl) (fun _ _ _ h => h) (Or.inl ⟨by rfl, ?_⟩) hHeld ?_
    · intro u hu
      go_simp
    try simp only [Act.put, List.setIfInBounds_toArray, List.set_cons_zero, List.set_cons_succ]
    refine wpAnyH_take (i := 33) (oi := { dst := some 49, op := Op.move (Operand.tmp 0), type := 23, pos := _, after := #[{ on := 32, ground := Ground.guard }], guard := some (32, false) }) (v := .pointer (some ⟨g, 0, none⟩)) rfl (by kernel_rfl) (by kernel_rfl) (by kernel_rfl) (fun _ _ _ h => h) (Or.inl ⟨by rfl, ?_⟩) hHeld ?_
    · intro u hu
      go_simp
    try simp only [Act.put, List.setIfInBounds_toArray, List.set_cons_zero, List.set_cons_succ]
    refine wpAnyH_take (i := 34) (oi := { dst := some 50, op := Op.move (Operand.tmp 2), type := 3, pos := _, after := #[{ on := 32, ground := Ground.guard }], guard := some (32, false) }) (v := .int .i64 n) rfl (by kernel_rfl) (by kernel_rfl) (by kernel_rfl) (fun _ _ _ h => h) (Or.inl ⟨by rfl, ?_⟩) hHeld ?_
    · intro u hu
      go_simp
    try simp only [Act.put, List.setIfInBounds_toArray, List.set_cons_zero, List.set_cons_succ]
    refine wpAnyH_take (i := 36) (oi := { dst := some 52, op := Op.move (Operand.tmp 1), type := 25, pos := _, after := #[{ on := 32, ground := Ground.guard }], guard := some (32, false) }) (v := .pointer (some ⟨h, 0, none⟩)) rfl (by kernel_rfl) (by kernel_rfl) (by kernel_rfl) (fun _ _ _ h => h) (Or.inl ⟨by rfl, ?_⟩) hHeld ?_
    · intro u hu
      go_simp
    try simp only [Act.put, List.setIfInBounds_toArray, List.set_cons_zero, List.set_cons_succ]
    refine wpAnyH_take (i := 37) (oi := { dst := some 53, op := Op.move (Operand.tmp 2), type := 3, pos := _, after := #[{ on := 32, ground := Ground.guard }], guard := some (32, false) }) (v := .int .i64 n) rfl (by kernel_rfl) (by kernel_rfl) (by kernel_rfl) (fun _ _ _ h => h) (Or.inl ⟨by rfl, ?_⟩) hHeld ?_
    · intro u hu
      go_simp
    try simp only [Act.put, List.setIfInBounds_toArray, List.set_cons_zero, List.set_cons_succ]
    refine wpAnyH_ready (rs := [35]) (by kernel_rfl) (by simp) ?_
    refine (AllReadyH.cons (o := { dst := some 51, op := Op.call { callee := Callee.value (Operand.func 39), args := #[Operand.tmp 49, Operand.tmp 50], argTypes := #[23, 3] }, type := 28, pos := _, after := #[{ on := 33, ground := Ground.data }, { on := 34, ground := Ground.data }, { on := 32, ground := Ground.chain }, { on := 32, ground := Ground.guard }], guard := some (32, false) }) rfl (fun K hK => ?_) AllReadyH.nil)
    go_simp
    refine (up2 (about_any (H.later hHeld) n) (l' := (ids (Z.l.filter fun p => p.child == n))) rfl (wf_ids ok _)).mono ?_
    rintro e u13 ⟨s13, rfl, i13, b13, _⟩
    try go_wp2_with fail
    refine hK.out _ _ (bnext hHeld b13 (Nat.le_refl _)) (fun hHeld => ?_)
    clear hK K
    try simp only [Act.put, List.setIfInBounds_toArray, List.set_cons_zero, List.set_cons_succ]
    refine wpAnyH_ready (rs := [38]) (by kernel_rfl) (by simp) ?_
    refine (AllReadyH.cons (o := { dst := some 54, op := Op.call { callee := Callee.value (Operand.func 40), args := #[Operand.tmp 52, Operand.tmp 53], argTypes := #[25, 3] }, type := 28, pos := _, after := #[{ on := 36, ground := Ground.data }, { on := 37, ground := Ground.data }, { on := 35, ground := Ground.chain }, { on := 32, ground := Ground.guard }], guard := some (32, false) }) rfl (fun K hK => ?_) AllReadyH.nil)
    go_simp
    refine (up2 (rabout_any (R.later hHeld) n) (l' := (ids (Z.l.filter fun p => p.child == n))) rfl (wf_ids ok _)).mono ?_
    rintro e u14 ⟨s14, rfl, i14, b14, _⟩
    try go_wp2_with fail
    refine hK.out _ _ (bnext hHeld b14 (Nat.le_refl _)) (fun hHeld => ?_)
    clear hK K
    replace i13 := i13.later b14
    try simp only [Act.put, List.setIfInBounds_toArray, List.set_cons_zero, List.set_cons_succ]
    refine wpAnyH_ready (rs := [39]) (by kernel_rfl) (by simp) ?_
    refine (AllReadyH.cons (o := { dst := some 55, op := Op.call { callee := Callee.value (Operand.func 23), args := #[Operand.tmp 51, Operand.tmp 54], argTypes := #[28, 28] }, type := 4, pos := _, after := #[{ on := 35, ground := Ground.data }, { on := 38, ground := Ground.data }, { on := 38, ground := Ground.chain }, { on := 32, ground := Ground.guard }], guard := some (32, false) }) rfl (fun K hK => ?_) AllReadyH.nil)
    go_simp
    refine (same_any i13 i14 (len_ids ok _)).mono ?_
    rintro e u15 ⟨rfl, b15⟩
    try go_wp2_with fail
    refine hK.out _ _ (bnext hHeld b15 (Nat.le_refl _)) (fun hHeld => ?_)
    clear hK K
    clear i13 i14 b13 b14 b15
    try simp only [Act.put, List.setIfInBounds_toArray, List.set_cons_zero, List.set_cons_succ]
    refine wpAnyH_take (i := 40) (oi := { dst := some 56, op := Op.unOp UnOp.not 4 (Operand.tmp 55), type := 4, pos := _, after := #[{ on := 39, ground := Ground.data }, { on := 32, ground := Ground.guard }], guard := some (32, false) }) (v := .bool false) rfl (by kernel_rfl) (by kernel_rfl) (by kernel_rfl) (fun _ _ _ h => h) (Or.inl ⟨by rfl, ?_⟩) hHeld ?_
    · intro u hu
      go_simp
    try simp only [Act.put, List.setIfInBounds_toArray, List.set_cons_zero, List.set_cons_succ]
    refine wpAnyH_take (i := 41) (oi := { dst := some 57, op := Op.pick (Operand.tmp 48) (Operand.const (Value.bool true)) (Operand.tmp 56), type := 4, pos := _, after := #[{ on := 32, ground := Ground.data }, { on := 40, ground := Ground.data }], guard := none }) (v := .bool false) rfl (by kernel_rfl) (by kernel_rfl) (by kernel_rfl) (fun _ _ _ h => h) (Or.inl ⟨by rfl, ?_⟩) hHeld ?_
    · intro u hu
      go_simp
    try simp only [Act.put, List.setIfInBounds_toArray, List.set_cons_zero, List.set_cons_succ]
    refine wpAnyH_take (i := 42) (oi := { dst := some 58, op := Op.move (Operand.tmp 57), type := 4, pos := _, after := #[{ on := 41, ground := Ground.data }, { on := 39, ground := Ground.chain }], guard := none }) (v := .bool false) rfl (by kernel_rfl) (by kernel_rfl) (by kernel_rfl) (fun _ _ _ h => h) (Or.inl ⟨by rfl, ?_⟩) hHeld ?_
    · intro u hu
      go_simp
    try simp only [Act.put, List.setIfInBounds_toArray, List.set_cons_zero, List.set_cons_succ]
    refine wpAnyH_take (i := 43) (oi := { dst := some 59, op := Op.move (Operand.tmp 0), type := 23, pos := _, after := #[{ on := 42, ground := Ground.guard }], guard := some (42, false) }) (v := .pointer (some ⟨g, 0, none⟩)) rfl (by kernel_rfl) (by kernel_rfl) (by kernel_rfl) (fun _ _ _ h => h) (Or.inl ⟨by rfl, ?_⟩) hHeld ?_
    · intro u hu
      go_simp
    try simp only [Act.put, List.setIfInBounds_toArray, List.set_cons_zero, List.set_cons_succ]
    refine wpAnyH_take (i := 44) (oi := { dst := some 60, op := Op.move (Operand.tmp 2), type := 3, pos := _, after := #[{ on := 42, ground := Ground.guard }], guard := some (42, false) }) (v := .int .i64 n) rfl (by kernel_rfl) (by kernel_rfl) (by kernel_rfl) (fun _ _ _ h => h) (Or.inl ⟨by rfl, ?_⟩) hHeld ?_
    · intro u hu
      go_simp
    try simp only [Act.put, List.setIfInBounds_toArray, List.set_cons_zero, List.set_cons_succ]
    refine wpAnyH_take (i := 46) (oi := { dst := some 62, op := Op.move (Operand.tmp 1), type := 25, pos := _, after := #[{ on := 42, ground := Ground.guard }], guard := some (42, false) }) (v := .pointer (some ⟨h, 0, none⟩)) rfl (by kernel_rfl) (by kernel_rfl) (by kernel_rfl) (fun _ _ _ h => h) (Or.inl ⟨by rfl, ?_⟩) hHeld ?_
    · intro u hu
      go_simp
    try simp only [Act.put, List.setIfInBounds_toArray, List.set_cons_zero, List.set_cons_succ]
    refine wpAnyH_take (i := 47) (oi := { dst := some 63, op := Op.move (Operand.tmp 2), type := 3, pos := _, after := #[{ on := 42, ground := Ground.guard }], guard := some (42, false) }) (v := .int .i64 n) rfl (by kernel_rfl) (by kernel_rfl) (by kernel_rfl) (fun _ _ _ h => h) (Or.inl ⟨by rfl, ?_⟩) hHeld ?_
    · intro u hu
      go_simp
    try simp only [Act.put, List.setIfInBounds_toArray, List.set_cons_zero, List.set_cons_succ]
    refine wpAnyH_ready (rs := [45]) (by kernel_rfl) (by simp) ?_
    refine (AllReadyH.cons (o := { dst := some 61, op := Op.call { callee := Callee.value (Operand.func 24), args := #[Operand.tmp 59, Operand.tmp 60], argTypes := #[23, 3] }, type := 28, pos := _, after := #[{ on := 43, ground := Ground.data }, { on := 44, ground := Ground.data }, { on := 42, ground := Ground.chain }, { on := 42, ground := Ground.guard }], guard := some (42, false) }) rfl (fun K hK => ?_) AllReadyH.nil)
    go_simp
    refine (up2 (ready_any (H.later hHeld) n hn hnl) (l' := (rdy Z.l n)) rfl (wf_rdy ok _)).mono ?_
    rintro e u16 ⟨s16, rfl, i16, b16, _⟩
    try go_wp2_with fail
    refine hK.out _ _ (bnext hHeld b16 (Nat.le_refl _)) (fun hHeld => ?_)
    clear hK K
    try simp only [Act.put, List.setIfInBounds_toArray, List.set_cons_zero, List.set_cons_succ]
    refine wpAnyH_ready (rs := [48]) (by kernel_rfl) (by simp) ?_
    refine (AllReadyH.cons (o := { dst := some 64, op := Op.call { callee := Callee.value (Operand.func 22), args := #[Operand.tmp 62, Operand.tmp 63], argTypes := #[25, 3] }, type := 28, pos := _, after := #[{ on := 46, ground := Ground.data }, { on := 47, ground := Ground.data }, { on := 45, ground := Ground.chain }, { on := 42, ground := Ground.guard }], guard := some (42, false) }) rfl (fun K hK => ?_) AllReadyH.nil)
    go_simp
    refine (up2 (rready_any (R.later hHeld) n) (l' := (rdy Z.l n)) rfl (wf_rdy ok _)).mono ?_
    rintro e u17 ⟨s17, rfl, i17, b17, _⟩
    try go_wp2_with fail
    refine hK.out _ _ (bnext hHeld b17 (Nat.le_refl _)) (fun hHeld => ?_)
    clear hK K
    replace i16 := i16.later b17
    try simp only [Act.put, List.setIfInBounds_toArray, List.set_cons_zero, List.set_cons_succ]
    refine wpAnyH_ready (rs := [49]) (by kernel_rfl) (by simp) ?_
    refine (AllReadyH.cons (o := { dst := some 65, op := Op.call { callee := Callee.value (Operand.func 23), args := #[Operand.tmp 61, Operand.tmp 64], argTypes := #[28, 28] }, type := 4, pos := _, after := #[{ on := 45, ground := Ground.data }, { on := 48, ground := Ground.data }, { on := 48, ground := Ground.chain }, { on := 42, ground := Ground.guard }], guard := some (42, false) }) rfl (fun K hK => ?_) AllReadyH.nil)
    go_simp
    refine (same_any i16 i17 (len_rdy ok _)).mono ?_
    rintro e u18 ⟨rfl, b18⟩
    try go_wp2_with fail
    refine hK.out _ _ (bnext hHeld b18 (Nat.le_refl _)) (fun hHeld => ?_)
    clear hK K
    clear i16 i17 b16 b17 b18
    try simp only [Act.put, List.setIfInBounds_toArray, List.set_cons_zero, List.set_cons_succ]
    refine wpAnyH_take (i := 50) (oi := { dst := some 66, op := Op.unOp UnOp.not 4 (Operand.tmp 65), type := 4, pos := _, after := #[{ on := 49, ground := Ground.data }, { on := 42, ground := Ground.guard }], guard := some (42, false) }) (v := .bool false) rfl (by kernel_rfl) (by kernel_rfl) (by kernel_rfl) (fun _ _ _ h => h) (Or.inl ⟨by rfl, ?_⟩) hHeld ?_
    · intro u hu
      go_simp
    try simp only [Act.put, List.setIfInBounds_toArray, List.set_cons_zero, List.set_cons_succ]
    refine wpAnyH_take (i := 51) (oi := { dst := some 67, op := Op.pick (Operand.tmp 58) (Operand.const (Value.bool true)) (Operand.tmp 66), type := 4, pos := _, after := #[{ on := 42, ground := Ground.data }, { on := 50, ground := Ground.data }], guard := none }) (v := .bool false) rfl (by kernel_rfl) (by kernel_rfl) (by kernel_rfl) (fun _ _ _ h => h) (Or.inl ⟨by rfl, ?_⟩) hHeld ?_
    · intro u hu
      go_simp
    try simp only [Act.put, List.setIfInBounds_toArray, List.set_cons_zero, List.set_cons_succ]
    refine wpAnyH_take (i := 52) (oi := { dst := some 68, op := Op.move (Operand.tmp 67), type := 4, pos := _, after := #[{ on := 51, ground := Ground.data }, { on := 49, ground := Ground.chain }], guard := none }) (v := .bool false) rfl (by kernel_rfl) (by kernel_rfl) (by kernel_rfl) (fun _ _ _ h => h) (Or.inl ⟨by rfl, ?_⟩) hHeld ?_
    · intro u hu
      go_simp
    try simp only [Act.put, List.setIfInBounds_toArray, List.set_cons_zero, List.set_cons_succ]
    refine wpAnyH_take (i := 53) (oi := { dst := some 69, op := Op.move (Operand.tmp 0), type := 23, pos := _, after := #[{ on := 52, ground := Ground.guard }], guard := some (52, false) }) (v := .pointer (some ⟨g, 0, none⟩)) rfl (by kernel_rfl) (by kernel_rfl) (by kernel_rfl) (fun _ _ _ h => h) (Or.inl ⟨by rfl, ?_⟩) hHeld ?_
    · intro u hu
      go_simp
    try simp only [Act.put, List.setIfInBounds_toArray, List.set_cons_zero, List.set_cons_succ]
    refine wpAnyH_take (i := 54) (oi := { dst := some 70, op := Op.move (Operand.tmp 2), type := 3, pos := _, after := #[{ on := 52, ground := Ground.guard }], guard := some (52, false) }) (v := .int .i64 n) rfl (by kernel_rfl) (by kernel_rfl) (by kernel_rfl) (fun _ _ _ h => h) (Or.inl ⟨by rfl, ?_⟩) hHeld ?_
    · intro u hu
      go_simp
    try simp only [Act.put, List.setIfInBounds_toArray, List.set_cons_zero, List.set_cons_succ]
    refine wpAnyH_take (i := 55) (oi := { dst := some 71, op := Op.move (Operand.tmp 1), type := 25, pos := _, after := #[{ on := 52, ground := Ground.guard }], guard := some (52, false) }) (v := .pointer (some ⟨h, 0, none⟩)) rfl (by kernel_rfl) (by kernel_rfl) (by kernel_rfl) (fun _ _ _ h => h) (Or.inl ⟨by rfl, ?_⟩) hHeld ?_
    · intro u hu
      go_simp
    try simp only [Act.put, List.setIfInBounds_toArray, List.set_cons_zero, List.set_cons_succ]
    refine wpAnyH_take (i := 56) (oi := { dst := some 72, op := Op.nilCheck (Operand.tmp 71), type := 0, pos := _, after := #[{ on := 55, ground := Ground.data }, { on := 52, ground := Ground.guard }], guard := some (52, false) }) (v := .pointer (some ⟨h, 0, none⟩)) rfl (by kernel_rfl) (by kernel_rfl) (by kernel_rfl) (fun _ _ _ h => h) (Or.inl ⟨by rfl, ?_⟩) hHeld ?_
    · intro u hu
      go_simp
    try simp only [Act.put, List.setIfInBounds_toArray, List.set_cons_zero, List.set_cons_succ]
    refine wpAnyH_take (i := 57) (oi := { dst := some 73, op := Op.fieldAddr 48 (Operand.tmp 72) 0, type := 0, pos := _, after := #[{ on := 56, ground := Ground.data }, { on := 52, ground := Ground.guard }], guard := some (52, false) }) (v := .pointer (some ⟨h, 0, none⟩)) rfl (by kernel_rfl) (by kernel_rfl) (by kernel_rfl) (fun _ _ _ h => h) (Or.inl ⟨by rfl, ?_⟩) hHeld ?_
    · intro u hu
      go_simp
    try simp only [Act.put, List.setIfInBounds_toArray, List.set_cons_zero, List.set_cons_succ]
    refine wpAnyH_take (i := 58) (oi := { dst := some 74, op := Op.load 3 (Operand.tmp 73), type := 3, pos := _, after := #[{ on := 57, ground := Ground.data }, { on := 52, ground := Ground.guard }], guard := some (52, false) }) (v := .int .i64 Z.last) rfl (by kernel_rfl) (by kernel_rfl) (by kernel_rfl) (fun _ _ _ h => h) (Or.inl ⟨by rfl, ?_⟩) hHeld ?_
    · intro u hu
      have x1 := (R.later hu).cells.1; go_simp
    try simp only [Act.put, List.setIfInBounds_toArray, List.set_cons_zero, List.set_cons_succ]
    refine wpAnyH_take (i := 61) (oi := { dst := some 77, op := Op.move (Operand.tmp 1), type := 25, pos := _, after := #[{ on := 52, ground := Ground.guard }], guard := some (52, false) }) (v := .pointer (some ⟨h, 0, none⟩)) rfl (by kernel_rfl) (by kernel_rfl) (by kernel_rfl) (fun _ _ _ h => h) (Or.inl ⟨by rfl, ?_⟩) hHeld ?_
    · intro u hu
      go_simp
    try simp only [Act.put, List.setIfInBounds_toArray, List.set_cons_zero, List.set_cons_succ]
    refine wpAnyH_take (i := 62) (oi := { dst := some 78, op := Op.move (Operand.tmp 2), type := 3, pos := _, after := #[{ on := 52, ground := Ground.guard }], guard := some (52, false) }) (v := .int .i64 n) rfl (by kernel_rfl) (by kernel_rfl) (by kernel_rfl) (fun _ _ _ h => h) (Or.inl ⟨by rfl, ?_⟩) hHeld ?_
    · intro u hu
      go_simp
    try simp only [Act.put, List.setIfInBounds_toArray, List.set_cons_zero, List.set_cons_succ]
    refine wpAnyH_take (i := 63) (oi := { dst := some 79, op := Op.move (Operand.tmp 1), type := 25, pos := _, after := #[{ on := 52, ground := Ground.guard }], guard := some (52, false) }) (v := .pointer (some ⟨h, 0, none⟩)) rfl (by kernel_rfl) (by kernel_rfl) (by kernel_rfl) (fun _ _ _ h => h) (Or.inl ⟨by rfl, ?_⟩) hHeld ?_
    · intro u hu
      go_simp
    try simp only [Act.put, List.setIfInBounds_toArray, List.set_cons_zero, List.set_cons_succ]
    refine wpAnyH_take (i := 64) (oi := { dst := some 80, op := Op.nilCheck (Operand.tmp 79), type := 0, pos := _, after := #[{ on := 63, ground := Ground.data }, { on := 52, ground := Ground.guard }], guard := some (52, false) }) (v := .pointer (some ⟨h, 0, none⟩)) rfl (by kernel_rfl) (by kernel_rfl) (by kernel_rfl) (fun _ _ _ h => h) (Or.inl ⟨by rfl, ?_⟩) hHeld ?_
    · intro u hu
      go_simp
    try simp only [Act.put, List.setIfInBounds_toArray, List.set_cons_zero, List.set_cons_succ]
    refine wpAnyH_take (i := 65) (oi := { dst := some 81, op := Op.fieldAddr 48 (Operand.tmp 80) 0, type := 0, pos := _, after := #[{ on := 64, ground := Ground.data }, { on := 52, ground := Ground.guard }], guard := some (52, false) }) (v := .pointer (some ⟨h, 0, none⟩)) rfl (by kernel_rfl) (by kernel_rfl) (by kernel_rfl) (fun _ _ _ h => h) (Or.inl ⟨by rfl, ?_⟩) hHeld ?_
    · intro u hu
      go_simp
    try simp only [Act.put, List.setIfInBounds_toArray, List.set_cons_zero, List.set_cons_succ]
    refine wpAnyH_take (i := 66) (oi := { dst := some 82, op := Op.load 3 (Operand.tmp 81), type := 3, pos := _, after := #[{ on := 65, ground := Ground.data }, { on := 52, ground := Ground.guard }], guard := some (52, false) }) (v := .int .i64 Z.last) rfl (by kernel_rfl) (by kernel_rfl) (by kernel_rfl) (fun _ _ _ h => h) (Or.inl ⟨by rfl, ?_⟩) hHeld ?_
    · intro u hu
      have x1 := (R.later hu).cells.1; go_simp
    try simp only [Act.put, List.setIfInBounds_toArray, List.set_cons_zero, List.set_cons_succ]
    refine wpAnyH_ready (rs := [59, 67]) (by kernel_rfl) (by simp) ?_
    refine (AllReadyH.cons (o := { dst := some 75, op := Op.buildSlice 28 2 #[(0, Operand.tmp 70), (1, Operand.tmp 74)], type := 28, pos := _, after := #[{ on := 54, ground := Ground.data }, { on := 58, ground := Ground.data }, { on := 52, ground := Ground.guard }], guard := some (52, false) }) rfl (fun K hK => ?_) (AllReadyH.cons (o := { dst := some 83, op := Op.buildSlice 28 2 #[(0, Operand.tmp 78), (1, Operand.tmp 82)], type := 28, pos := _, after := #[{ on := 62, ground := Ground.data }, { on := 66, ground := Ground.data }, { on := 52, ground := Ground.guard }], guard := some (52, false) }) rfl (fun K hK => ?_) AllReadyH.nil))
    · skip
      refine step_bs2I (by rfl) _ _ (by rfl) n Z.last (by rfl) (by rfl) ?_
      intro g59 w59 e59 e59b c59 b59
      refine hK.out _ _ (bnext hHeld b59 (Nat.le_refl _)) (fun hHeld => ?_)
      clear hK K
      try (replace c67 := c67.later b59)
      try simp only [Act.put, List.setIfInBounds_toArray, List.set_cons_zero, List.set_cons_succ]
      refine wpAnyH_ready (rs := [60, 67]) (by kernel_rfl) (by simp) ?_
      refine (AllReadyH.cons (o := { dst := some 76, op := Op.call { callee := Callee.value (Operand.func 41), args := #[Operand.tmp 69, Operand.tmp 75], argTypes := #[23, 28] }, type := 28, pos := _, after := #[{ on := 53, ground := Ground.data }, { on := 59, ground := Ground.data }, { on := 52, ground := Ground.chain }, { on := 52, ground := Ground.guard }], guard := some (52, false) }) rfl (fun K hK => ?_) (AllReadyH.cons (o := { dst := some 83, op := Op.buildSlice 28 2 #[(0, Operand.tmp 78), (1, Operand.tmp 82)], type := 28, pos := _, after := #[{ on := 62, ground := Ground.data }, { on := 66, ground := Ground.data }, { on := 52, ground := Ground.guard }], guard := some (52, false) }) rfl (fun K hK => ?_) AllReadyH.nil))
      · skip
        go_simp
        refine (up2 (needed_both (H.later hHeld) (cs2_ins c59 hn (wf_last ok)) (by simp) hzl hn6) (l' := ids (nd [n, Z.last] Z.l)) rfl (wf_nd ok _)).mono ?_
        rintro e u19 ⟨s19, rfl, i19, b19, _⟩
        try go_wp2_with fail
        refine hK.out _ _ (bnext hHeld b19 (Nat.le_refl _)) (fun hHeld => ?_)
        clear hK K
        try (replace c67 := c67.later b19)
        try simp only [Act.put, List.setIfInBounds_toArray, List.set_cons_zero, List.set_cons_succ]
        refine wpAnyH_ready (rs := [67]) (by kernel_rfl) (by simp) ?_
        refine (AllReadyH.cons (o := { dst := some 83, op := Op.buildSlice 28 2 #[(0, Operand.tmp 78), (1, Operand.tmp 82)], type := 28, pos := _, after := #[{ on := 62, ground := Ground.data }, { on := 66, ground := Ground.data }, { on := 52, ground := Ground.guard }], guard := some (52, false) }) rfl (fun K hK => ?_) AllReadyH.nil)
        refine step_bs2I (by rfl) _ _ (by rfl) n Z.last (by rfl) (by rfl) ?_
        intro g67 w67 e67 e67b c67 b67
        refine hK.out _ _ (bnext hHeld b67 (Nat.le_refl _)) (fun hHeld => ?_)
        clear hK K
        try (replace c59 := c59.later b67)
        try (replace i19 := i19.later b67)
        try simp only [Act.put, List.setIfInBounds_toArray, List.set_cons_zero, List.set_cons_succ]
        refine wpAnyH_ready (rs := [68]) (by kernel_rfl) (by simp) ?_
        refine (AllReadyH.cons (o := { dst := some 84, op := Op.call { callee := Callee.value (Operand.func 42), args := #[Operand.tmp 77, Operand.tmp 83], argTypes := #[25, 28] }, type := 28, pos := _, after := #[{ on := 61, ground := Ground.data }, { on := 67, ground := Ground.data }, { on := 60, ground := Ground.chain }, { on := 52, ground := Ground.guard }], guard := some (52, false) }) rfl (fun K hK => ?_) AllReadyH.nil)
        go_simp
        refine (up2 (rneeded_any (R.later hHeld) (cs2_ins c67 hn (wf_last ok)) (by simp)) (l' := ids (nd [n, Z.last] Z.l)) rfl (wf_nd ok _)).mono ?_
        rintro e u20 ⟨s20, rfl, i20, b20, _⟩
        try go_wp2_with fail
        refine hK.out _ _ (bnext hHeld b20 (Nat.le_refl _)) (fun hHeld => ?_)
        clear hK K
        replace i19 := i19.later b20
        try simp only [Act.put, List.setIfInBounds_toArray, List.set_cons_zero, List.set_cons_succ]
        refine wpAnyH_ready (rs := [69]) (by kernel_rfl) (by simp) ?_
        refine (AllReadyH.cons (o := { dst := some 85, op := Op.call { callee := Callee.value (Operand.func 23), args := #[Operand.tmp 76, Operand.tmp 84], argTypes := #[28, 28] }, type := 4, pos := _, after := #[{ on := 60, ground := Ground.data }, { on := 68, ground := Ground.data }, { on := 68, ground := Ground.chain }, { on := 52, ground := Ground.guard }], guard := some (52, false) }) rfl (fun K hK => ?_) AllReadyH.nil)
        go_simp
        refine (same_any i19 i20 (len_nd ok _)).mono ?_
        rintro e u21 ⟨rfl, b21⟩
        try go_wp2_with fail
        refine hK.out _ _ (bnext hHeld b21 (Nat.le_refl _)) (fun hHeld => ?_)
        clear hK K
        try simp only [Act.put, List.setIfInBounds_toArray, List.set_cons_zero, List.set_cons_succ]
        refine wpAnyH_take (i := 70) (oi := { dst := some 86, op := Op.unOp UnOp.not 4 (Operand.tmp 85), type := 4, pos := _, after := #[{ on := 69, ground := Ground.data }, { on := 52, ground := Ground.guard }], guard := some (52, false) }) (v := .bool false) rfl (by kernel_rfl) (by kernel_rfl) (by kernel_rfl) (fun _ _ _ h => h) (Or.inl ⟨by rfl, ?_⟩) hHeld ?_
        · intro u hu
          go_simp
        try simp only [Act.put, List.setIfInBounds_toArray, List.set_cons_zero, List.set_cons_succ]
        refine wpAnyH_take (i := 71) (oi := { dst := some 87, op := Op.pick (Operand.tmp 68) (Operand.const (Value.bool true)) (Operand.tmp 86), type := 4, pos := _, after := #[{ on := 52, ground := Ground.data }, { on := 70, ground := Ground.data }], guard := none }) (v := .bool false) rfl (by kernel_rfl) (by kernel_rfl) (by kernel_rfl) (fun _ _ _ h => h) (Or.inl ⟨by rfl, ?_⟩) hHeld ?_
        · intro u hu
          go_simp
        try simp only [Act.put, List.setIfInBounds_toArray, List.set_cons_zero, List.set_cons_succ]
        refine wpAnyH_done (by kernel_rfl) ?_ _
        go_wp2_with fail
        go_meet
        exact ⟨rfl, hHeld⟩
      · skip
        refine step_bs2I (by rfl) _ _ (by rfl) n Z.last (by rfl) (by rfl) ?_
        intro g67 w67 e67 e67b c67 b67
        refine hK.out _ _ (bnext hHeld b67 (Nat.le_refl _)) (fun hHeld => ?_)
        clear hK K
        try (replace c59 := c59.later b67)
        try (replace i19 := i19.later b67)
        try simp only [Act.put, List.setIfInBounds_toArray, List.set_cons_zero, List.set_cons_succ]
        refine wpAnyH_ready (rs := [60]) (by kernel_rfl) (by simp) ?_
        refine (AllReadyH.cons (o := { dst := some 76, op := Op.call { callee := Callee.value (Operand.func 41), args := #[Operand.tmp 69, Operand.tmp 75], argTypes := #[23, 28] }, type := 28, pos := _, after := #[{ on := 53, ground := Ground.data }, { on := 59, ground := Ground.data }, { on := 52, ground := Ground.chain }, { on := 52, ground := Ground.guard }], guard := some (52, false) }) rfl (fun K hK => ?_) AllReadyH.nil)
        go_simp
        refine (up2 (needed_both (H.later hHeld) (cs2_ins c59 hn (wf_last ok)) (by simp) hzl hn6) (l' := ids (nd [n, Z.last] Z.l)) rfl (wf_nd ok _)).mono ?_
        rintro e u19 ⟨s19, rfl, i19, b19, _⟩
        try go_wp2_with fail
        refine hK.out _ _ (bnext hHeld b19 (Nat.le_refl _)) (fun hHeld => ?_)
        clear hK K
        try (replace c67 := c67.later b19)
        try simp only [Act.put, List.setIfInBounds_toArray, List.set_cons_zero, List.set_cons_succ]
        refine wpAnyH_ready (rs := [68]) (by kernel_rfl) (by simp) ?_
        refine (AllReadyH.cons (o := { dst := some 84, op := Op.call { callee := Callee.value (Operand.func 42), args := #[Operand.tmp 77, Operand.tmp 83], argTypes := #[25, 28] }, type := 28, pos := _, after := #[{ on := 61, ground := Ground.data }, { on := 67, ground := Ground.data }, { on := 60, ground := Ground.chain }, { on := 52, ground := Ground.guard }], guard := some (52, false) }) rfl (fun K hK => ?_) AllReadyH.nil)
        go_simp
        refine (up2 (rneeded_any (R.later hHeld) (cs2_ins c67 hn (wf_last ok)) (by simp)) (l' := ids (nd [n, Z.last] Z.l)) rfl (wf_nd ok _)).mono ?_
        rintro e u20 ⟨s20, rfl, i20, b20, _⟩
        try go_wp2_with fail
        refine hK.out _ _ (bnext hHeld b20 (Nat.le_refl _)) (fun hHeld => ?_)
        clear hK K
        replace i19 := i19.later b20
        try simp only [Act.put, List.setIfInBounds_toArray, List.set_cons_zero, List.set_cons_succ]
        refine wpAnyH_ready (rs := [69]) (by kernel_rfl) (by simp) ?_
        refine (AllReadyH.cons (o := { dst := some 85, op := Op.call { callee := Callee.value (Operand.func 23), args := #[Operand.tmp 76, Operand.tmp 84], argTypes := #[28, 28] }, type := 4, pos := _, after := #[{ on := 60, ground := Ground.data }, { on := 68, ground := Ground.data }, { on := 68, ground := Ground.chain }, { on := 52, ground := Ground.guard }], guard := some (52, false) }) rfl (fun K hK => ?_) AllReadyH.nil)
        go_simp
        refine (same_any i19 i20 (len_nd ok _)).mono ?_
        rintro e u21 ⟨rfl, b21⟩
        try go_wp2_with fail
        refine hK.out _ _ (bnext hHeld b21 (Nat.le_refl _)) (fun hHeld => ?_)
        clear hK K
        try simp only [Act.put, List.setIfInBounds_toArray, List.set_cons_zero, List.set_cons_succ]
        refine wpAnyH_take (i := 70) (oi := { dst := some 86, op := Op.unOp UnOp.not 4 (Operand.tmp 85), type := 4, pos := _, after := #[{ on := 69, ground := Ground.data }, { on := 52, ground := Ground.guard }], guard := some (52, false) }) (v := .bool false) rfl (by kernel_rfl) (by kernel_rfl) (by kernel_rfl) (fun _ _ _ h => h) (Or.inl ⟨by rfl, ?_⟩) hHeld ?_
        · intro u hu
          go_simp
        try simp only [Act.put, List.setIfInBounds_toArray, List.set_cons_zero, List.set_cons_succ]
        refine wpAnyH_take (i := 71) (oi := { dst := some 87, op := Op.pick (Operand.tmp 68) (Operand.const (Value.bool true)) (Operand.tmp 86), type := 4, pos := _, after := #[{ on := 52, ground := Ground.data }, { on := 70, ground := Ground.data }], guard := none }) (v := .bool false) rfl (by kernel_rfl) (by kernel_rfl) (by kernel_rfl) (fun _ _ _ h => h) (Or.inl ⟨by rfl, ?_⟩) hHeld ?_
        · intro u hu
          go_simp
        try simp only [Act.put, List.setIfInBounds_toArray, List.set_cons_zero, List.set_cons_succ]
        refine wpAnyH_done (by kernel_rfl) ?_ _
        go_wp2_with fail
        go_meet
        exact ⟨rfl, hHeld⟩
    · skip
      refine step_bs2I (by rfl) _ _ (by rfl) n Z.last (by rfl) (by rfl) ?_
      intro g67 w67 e67 e67b c67 b67
      refine hK.out _ _ (bnext hHeld b67 (Nat.le_refl _)) (fun hHeld => ?_)
      clear hK K
      try (replace c59 := c59.later b67)
      try (replace i19 := i19.later b67)
      try simp only [Act.put, List.setIfInBounds_toArray, List.set_cons_zero, List.set_cons_succ]
      refine wpAnyH_ready (rs := [59]) (by kernel_rfl) (by simp) ?_
      refine (AllReadyH.cons (o := { dst := some 75, op := Op.buildSlice 28 2 #[(0, Operand.tmp 70), (1, Operand.tmp 74)], type := 28, pos := _, after := #[{ on := 54, ground := Ground.data }, { on := 58, ground := Ground.data }, { on := 52, ground := Ground.guard }], guard := some (52, false) }) rfl (fun K hK => ?_) AllReadyH.nil)
      refine step_bs2I (by rfl) _ _ (by rfl) n Z.last (by rfl) (by rfl) ?_
      intro g59 w59 e59 e59b c59 b59
      refine hK.out _ _ (bnext hHeld b59 (Nat.le_refl _)) (fun hHeld => ?_)
      clear hK K
      try (replace c67 := c67.later b59)
      try simp only [Act.put, List.setIfInBounds_toArray, List.set_cons_zero, List.set_cons_succ]
      refine wpAnyH_ready (rs := [60]) (by kernel_rfl) (by simp) ?_
      refine (AllReadyH.cons (o := { dst := some 76, op := Op.call { callee := Callee.value (Operand.func 41), args := #[Operand.tmp 69, Operand.tmp 75], argTypes := #[23, 28] }, type := 28, pos := _, after := #[{ on := 53, ground := Ground.data }, { on := 59, ground := Ground.data }, { on := 52, ground := Ground.chain }, { on := 52, ground := Ground.guard }], guard := some (52, false) }) rfl (fun K hK => ?_) AllReadyH.nil)
      go_simp
      refine (up2 (needed_both (H.later hHeld) (cs2_ins c59 hn (wf_last ok)) (by simp) hzl hn6) (l' := ids (nd [n, Z.last] Z.l)) rfl (wf_nd ok _)).mono ?_
      rintro e u19 ⟨s19, rfl, i19, b19, _⟩
      try go_wp2_with fail
      refine hK.out _ _ (bnext hHeld b19 (Nat.le_refl _)) (fun hHeld => ?_)
      clear hK K
      try (replace c67 := c67.later b19)
      try simp only [Act.put, List.setIfInBounds_toArray, List.set_cons_zero, List.set_cons_succ]
      refine wpAnyH_ready (rs := [68]) (by kernel_rfl) (by simp) ?_
      refine (AllReadyH.cons (o := { dst := some 84, op := Op.call { callee := Callee.value (Operand.func 42), args := #[Operand.tmp 77, Operand.tmp 83], argTypes := #[25, 28] }, type := 28, pos := _, after := #[{ on := 61, ground := Ground.data }, { on := 67, ground := Ground.data }, { on := 60, ground := Ground.chain }, { on := 52, ground := Ground.guard }], guard := some (52, false) }) rfl (fun K hK => ?_) AllReadyH.nil)
      go_simp
      refine (up2 (rneeded_any (R.later hHeld) (cs2_ins c67 hn (wf_last ok)) (by simp)) (l' := ids (nd [n, Z.last] Z.l)) rfl (wf_nd ok _)).mono ?_
      rintro e u20 ⟨s20, rfl, i20, b20, _⟩
      try go_wp2_with fail
      refine hK.out _ _ (bnext hHeld b20 (Nat.le_refl _)) (fun hHeld => ?_)
      clear hK K
      replace i19 := i19.later b20
      try simp only [Act.put, List.setIfInBounds_toArray, List.set_cons_zero, List.set_cons_succ]
      refine wpAnyH_ready (rs := [69]) (by kernel_rfl) (by simp) ?_
      refine (AllReadyH.cons (o := { dst := some 85, op := Op.call { callee := Callee.value (Operand.func 23), args := #[Operand.tmp 76, Operand.tmp 84], argTypes := #[28, 28] }, type := 4, pos := _, after := #[{ on := 60, ground := Ground.data }, { on := 68, ground := Ground.data }, { on := 68, ground := Ground.chain }, { on := 52, ground := Ground.guard }], guard := some (52, false) }) rfl (fun K hK => ?_) AllReadyH.nil)
      go_simp
      refine (same_any i19 i20 (len_nd ok _)).mono ?_
      rintro e u21 ⟨rfl, b21⟩
      try go_wp2_with fail
      refine hK.out _ _ (bnext hHeld b21 (Nat.le_refl _)) (fun hHeld => ?_)
      clear hK K
      try simp only [Act.put, List.setIfInBounds_toArray, List.set_cons_zero, List.set_cons_succ]
      refine wpAnyH_take (i := 70) (oi := { dst := some 86, op := Op.unOp UnOp.not 4 (Operand.tmp 85), type := 4, pos := _, after := #[{ on := 69, ground := Ground.data }, { on := 52, ground := Ground.guard }], guard := some (52, false) }) (v := .bool false) rfl (by kernel_rfl) (by kernel_rfl) (by kernel_rfl) (fun _ _ _ h => h) (Or.inl ⟨by rfl, ?_⟩) hHeld ?_
      · intro u hu
        go_simp
      try simp only [Act.put, List.setIfInBounds_toArray, List.set_cons_zero, List.set_cons_succ]
      refine wpAnyH_take (i := 71) (oi := { dst := some 87, op := Op.pick (Operand.tmp 68) (Operand.const (Value.bool true)) (Operand.tmp 86), type := 4, pos := _, after := #[{ on := 52, ground := Ground.data }, { on := 70, ground := Ground.data }], guard := none }) (v := .bool false) rfl (by kernel_rfl) (by kernel_rfl) (by kernel_rfl) (fun _ _ _ h => h) (Or.inl ⟨by rfl, ?_⟩) hHeld ?_
      · intro u hu
        go_simp
      try simp only [Act.put, List.setIfInBounds_toArray, List.set_cons_zero, List.set_cons_succ]
      refine wpAnyH_done (by kernel_rfl) ?_ _
      go_wp2_with fail
      go_meet
      exact ⟨rfl, hHeld⟩
  case rest =>
    obtain ⟨rfl, B⟩ := hcut
    go_wp2_with (first
      | (go_at_call 43; refine (of_any (H.later B) n hn hnl).mono ?_; rintro e w2 ⟨v1, L1, rfl, P1⟩
         obtain ⟨x1, c1, rfl, m1, _⟩ := P1.u.ow.shape
         replace B := bnext B P1.u.b (Nat.le_refl _))
      | (go_at_call 44; refine (rof_any (R.later B) n).mono ?_; rintro e w3 ⟨v2, L2, rfl, P2⟩
         obtain ⟨x2, c2, rfl, m2, _⟩ := P2.u.ow.shape
         have hl2 : L2.length = L1.length := by have h1 := congrArg List.length P1.eq; have h2 := congrArg List.length P2.eq; simp only [List.length_map] at h1 h2; omega
         replace P1 := P1.later P2.u.b
         replace B := bnext B P2.u.b (Nat.le_refl _)
         rw [hl2] at P2 m2 ⊢
         clear m2
         have hl3 : Hid (L2.length = L1.length) := hl2
         clear hl2))
    have hlw : (wtP Z.l n).length = L1.length := by have h1 := congrArg List.length P1.eq; simp only [List.length_map] at h1; omega
    have hl100 : L1.length ≤ 100 := by rw [← hlw]; unfold wtP; exact Nat.le_trans (List.length_filter_le _ _) hzl
    clear hlw
    go_loopw [9] (fun v wr => ∃ i : Nat, i ≤ L1.length ∧ v = .int .i64 (i : Int) ∧ Below w3.heap.size w3 wr) (fun v _ => L1.length - (intOf v).toNat)
    case atStart => exact ⟨0, Nat.zero_le _, rfl, Below.refl _ _⟩
    case round =>
      obtain ⟨i, hi, rfl, Br⟩ := hrel
      by_cases hil : i < L1.length
      · have a9 : (i : Int) < (L1.length : Int) := by omega
        have a8 : (0 : Int) ≤ (i : Int) := by omega
        have P1r := P1.later Br
        have P2r := P2.later Br
        obtain ⟨q1, t1, rfl, e1, r1⟩ := P1r.u.ow.el i hil
        have P2o : OwP wr (.slice x2 L2.length c2) L2 := by have := P2r.u.ow; rw [← hl3.out] at this; exact this
        obtain ⟨q2, t2, rfl, e2, r2⟩ := P2o.el i (by rw [hl3.out]; exact hil)
        have k1 : (wtP Z.l n)[i]? = some t1.p := by rw [← P1.eq, List.getElem?_map, e1]; rfl
        have k2 : (wtP Z.l n)[i]? = some t2.p := by rw [← P2.eq, List.getElem?_map, e2]; rfl
        have ep : t2.p = t1.p := by rw [k1] at k2; injection k2 with k2; exact k2.symm
        have mt1 := P1r.ms t1 (List.mem_of_getElem? e1)
        have mt2 := P2r.ms t2 (List.mem_of_getElem? e2)
        have hmem := (wtP_mem.1 (List.mem_of_getElem? k1)).1
        have hg := ok.gt_of hmem
        have hge : gE Z.l t1.p.id = 0 := by unfold gE; rw [has_fnd, fnd_of ok.srt hmem]; rfl
        have hwi := (ok.wfp hmem).i
        have hn1 := hnl _ hmem
        obtain ⟨c0, _⟩ := Pe.at9 r1
        have hG := get_any ((H.later B).later Br) t1.p.id hwi hnl
        rw [hg, hge] at hG
        rw [ep] at mt2
        have ec2 : t2.cs = t1.p.cs t2.d t2.n := by unfold Pe.cs; rw [ep]
        rw [ec2] at r2
        have tk : True := trivial
        clear hg hge k1 k2 e1 e2 P2o P1r P2r
        go_wp2_with (first
          | (go_at_call 45; refine hG.mono ?_; rintro e w5 ⟨d', n', rfl, m5, b5⟩; clear hG)
          | (clear tk; refine at_newP (by rfl) (by rfl) ?_; intro gp w6 a1 a2 p6 b6)
          | (refine at_putP (by rfl) _ _ (by rfl) gp (by rfl) t1.p d' n' (by rfl) _ p6 rfl ?_; intro w7 p7 s7
             have B7 : Below wr.heap.size wr w7 := ((Stp.of_below (bnext b5 b6 (Nat.le_refl _)) (fun _ => False)).next s7 (fun x e => .inr (by have := b5.size; omega))).below (Nat.le_refl _) (fun x e => e.elim)
             have m7 := (m5.later b6).step s7 (fun x hx e => by have := hx.2; omega)
             have mA := mt1.later B7
             have mB := mt2.later B7
             have rA := (Stp.of_below B7 (fun _ => False)).range r1 id
             have rB := (Stp.of_below B7 (fun _ => False)).range r2 id
             clear r1 r2 mt1 mt2 m5 p6 c0))
        refine wp_region_held_drew (S := fun u => Below w7.heap.size w7 u) (by kernel_rfl) (Below.refl _ _).drew (fun hHeld => ?_)
        refine wpAnyH_take (i := 0) (oi := { dst := some 115, op := Op.move (Operand.tmp 7), type := 46, pos := _, after := #[], guard := none }) (v := .slice (some ⟨q1, 0, none⟩) L1.length c1) rfl (by kernel_rfl) (by kernel_rfl) (by kernel_rfl) (fun _ _ _ h => h) (Or.inl ⟨by rfl, ?_⟩) hHeld ?_
        · intro u hu
          go_simp
        try simp only [Act.put, List.setIfInBounds_toArray, List.set_cons_zero, List.set_cons_succ]
        refine wpAnyH_take (i := 1) (oi := { dst := some 116, op := Op.move (Operand.tmp 9), type := 3, pos := _, after := #[], guard := none }) (v := .int .i64 (i : Int)) rfl (by kernel_rfl) (by kernel_rfl) (by kernel_rfl) (fun _ _ _ h => h) (Or.inl ⟨by rfl, ?_⟩) hHeld ?_
        · intro u hu
          go_simp
        try simp only [Act.put, List.setIfInBounds_toArray, List.set_cons_zero, List.set_cons_succ]
        refine wpAnyH_take (i := 2) (oi := { dst := some 117, op := Op.indexAddr 46 (Operand.tmp 115) (Operand.tmp 116), type := 0, pos := _, after := #[{ on := 0, ground := Ground.data }, { on := 1, ground := Ground.data }], guard := none }) (v := .pointer (some ⟨q1, i * 9, none⟩)) rfl (by kernel_rfl) (by kernel_rfl) (by kernel_rfl) (fun _ _ _ h => h) (Or.inl ⟨by rfl, ?_⟩) hHeld ?_
        · intro u hu
          go_simp
        try simp only [Act.put, List.setIfInBounds_toArray, List.set_cons_zero, List.set_cons_succ]
        refine wpAnyH_take (i := 3) (oi := { dst := some 118, op := Op.load 30 (Operand.tmp 117), type := 30, pos := _, after := #[{ on := 2, ground := Ground.data }], guard := none }) (v := .agg t1.cs.toArray) rfl (by kernel_rfl) (by kernel_rfl) (by kernel_rfl) (fun _ _ _ h => h)
          (yields_E (by rfl) _ (by rfl) q1 (i * 9) (by rfl) t1 (fun u hu => (Stp.of_below hu (fun _ => False)).range rA id)) hHeld ?_
        try simp only [Act.put, List.setIfInBounds_toArray, List.set_cons_zero, List.set_cons_succ]
        refine wpAnyH_take (i := 4) (oi := { dst := some 119, op := Op.move (Operand.tmp 8), type := 46, pos := _, after := #[], guard := none }) (v := .slice (some ⟨q2, 0, none⟩) L1.length c2) rfl (by kernel_rfl) (by kernel_rfl) (by kernel_rfl) (fun _ _ _ h => h) (Or.inl ⟨by rfl, ?_⟩) hHeld ?_
        · intro u hu
          go_simp
        try simp only [Act.put, List.setIfInBounds_toArray, List.set_cons_zero, List.set_cons_succ]
        refine wpAnyH_take (i := 5) (oi := { dst := some 120, op := Op.move (Operand.tmp 9), type := 3, pos := _, after := #[], guard := none }) (v := .int .i64 (i : Int)) rfl (by kernel_rfl) (by kernel_rfl) (by kernel_rfl) (fun _ _ _ h => h) (Or.inl ⟨by rfl, ?_⟩) hHeld ?_
        · intro u hu
          go_simp
        try simp only [Act.put, List.setIfInBounds_toArray, List.set_cons_zero, List.set_cons_succ]
        refine wpAnyH_take (i := 6) (oi := { dst := some 121, op := Op.indexAddr 46 (Operand.tmp 119) (Operand.tmp 120), type := 0, pos := _, after := #[{ on := 4, ground := Ground.data }, { on := 5, ground := Ground.data }], guard := none }) (v := .pointer (some ⟨q2, i * 9, none⟩)) rfl (by kernel_rfl) (by kernel_rfl) (by kernel_rfl) (fun _ _ _ h => h) (Or.inl ⟨by rfl, ?_⟩) hHeld ?_
        · intro u hu
          go_simp
        try simp only [Act.put, List.setIfInBounds_toArray, List.set_cons_zero, List.set_cons_succ]
        refine wpAnyH_take (i := 7) (oi := { dst := some 122, op := Op.load 30 (Operand.tmp 121), type := 30, pos := _, after := #[{ on := 6, ground := Ground.data }], guard := none }) (v := .agg (t1.p.cs t2.d t2.n).toArray) rfl (by kernel_rfl) (by kernel_rfl) (by kernel_rfl) (fun _ _ _ h => h)
          (yields_E (by rfl) _ (by rfl) q2 (i * 9) (by rfl) ⟨t1.p, t2.d, t2.n⟩ (fun u hu => (Stp.of_below hu (fun _ => False)).range rB id)) hHeld ?_
        try simp only [Act.put, List.setIfInBounds_toArray, List.set_cons_zero, List.set_cons_succ]
        refine wpAnyH_ready (rs := [8]) (by kernel_rfl) (by simp) ?_
        refine (AllReadyH.cons (o := { dst := some 123, op := Op.call { callee := Callee.value (Operand.func 46), args := #[Operand.tmp 118, Operand.tmp 122], argTypes := #[30, 30] }, type := 4, pos := _, after := #[{ on := 3, ground := Ground.data }, { on := 7, ground := Ground.data }], guard := none }) rfl (fun K hK => ?_) AllReadyH.nil)
        go_simp
        refine (sameIs_any (p := t1.p) (mA.later hHeld) (mB.later hHeld) hn1).mono ?_
        rintro e w8 ⟨rfl, b8⟩
        try go_wp2_with fail
        refine hK.out _ _ (bnext hHeld b8 (Nat.le_refl _)) (fun hHeld => ?_)
        clear hK K
        try simp only [Act.put, List.setIfInBounds_toArray, List.set_cons_zero, List.set_cons_succ]
        refine wpAnyH_take (i := 9) (oi := { dst := some 124, op := Op.unOp UnOp.not 4 (Operand.tmp 123), type := 4, pos := _, after := #[{ on := 8, ground := Ground.data }], guard := none }) (v := .bool false) rfl (by kernel_rfl) (by kernel_rfl) (by kernel_rfl) (fun _ _ _ h => h) (Or.inl ⟨by rfl, ?_⟩) hHeld ?_
        · intro u hu
          go_simp
        try simp only [Act.put, List.setIfInBounds_toArray, List.set_cons_zero, List.set_cons_succ]
        refine wpAnyH_take (i := 10) (oi := { dst := some 125, op := Op.move (Operand.tmp 124), type := 4, pos := _, after := #[{ on := 9, ground := Ground.data }, { on := 8, ground := Ground.chain }], guard := none }) (v := .bool false) rfl (by kernel_rfl) (by kernel_rfl) (by kernel_rfl) (fun _ _ _ h => h) (Or.inl ⟨by rfl, ?_⟩) hHeld ?_
        · intro u hu
          go_simp
        try simp only [Act.put, List.setIfInBounds_toArray, List.set_cons_zero, List.set_cons_succ]
        refine wpAnyH_take (i := 11) (oi := { dst := some 126, op := Op.load 30 (Operand.tmp 10), type := 30, pos := _, after := #[{ on := 10, ground := Ground.guard }], guard := some (10, false) }) (v := .agg (t1.p.cs d' n').toArray) rfl (by kernel_rfl) (by kernel_rfl) (by kernel_rfl) (fun _ _ _ h => h)
          (yields_P (by rfl) _ (by rfl) gp (by rfl) t1.p d' n' (fun u hu => p7.later hu)) hHeld ?_
        try simp only [Act.put, List.setIfInBounds_toArray, List.set_cons_zero, List.set_cons_succ]
        refine wpAnyH_take (i := 12) (oi := { dst := some 127, op := Op.move (Operand.tmp 8), type := 46, pos := _, after := #[{ on := 10, ground := Ground.guard }], guard := some (10, false) }) (v := .slice (some ⟨q2, 0, none⟩) L1.length c2) rfl (by kernel_rfl) (by kernel_rfl) (by kernel_rfl) (fun _ _ _ h => h) (Or.inl ⟨by rfl, ?_⟩) hHeld ?_
        · intro u hu
          go_simp
        try simp only [Act.put, List.setIfInBounds_toArray, List.set_cons_zero, List.set_cons_succ]
        refine wpAnyH_take (i := 13) (oi := { dst := some 128, op := Op.move (Operand.tmp 9), type := 3, pos := _, after := #[{ on := 10, ground := Ground.guard }], guard := some (10, false) }) (v := .int .i64 (i : Int)) rfl (by kernel_rfl) (by kernel_rfl) (by kernel_rfl) (fun _ _ _ h => h) (Or.inl ⟨by rfl, ?_⟩) hHeld ?_
        · intro u hu
          go_simp
        try simp only [Act.put, List.setIfInBounds_toArray, List.set_cons_zero, List.set_cons_succ]
        refine wpAnyH_take (i := 14) (oi := { dst := some 129, op := Op.indexAddr 46 (Operand.tmp 127) (Operand.tmp 128), type := 0, pos := _, after := #[{ on := 12, ground := Ground.data }, { on := 13, ground := Ground.data }, { on := 10, ground := Ground.guard }], guard := some (10, false) }) (v := .pointer (some ⟨q2, i * 9, none⟩)) rfl (by kernel_rfl) (by kernel_rfl) (by kernel_rfl) (fun _ _ _ h => h) (Or.inl ⟨by rfl, ?_⟩) hHeld ?_
        · intro u hu
          go_simp
        try simp only [Act.put, List.setIfInBounds_toArray, List.set_cons_zero, List.set_cons_succ]
        refine wpAnyH_take (i := 15) (oi := { dst := some 130, op := Op.load 30 (Operand.tmp 129), type := 30, pos := _, after := #[{ on := 14, ground := Ground.data }, { on := 10, ground := Ground.guard }], guard := some (10, false) }) (v := .agg (t1.p.cs t2.d t2.n).toArray) rfl (by kernel_rfl) (by kernel_rfl) (by kernel_rfl) (fun _ _ _ h => h)
          (yields_E (by rfl) _ (by rfl) q2 (i * 9) (by rfl) ⟨t1.p, t2.d, t2.n⟩ (fun u hu => (Stp.of_below hu (fun _ => False)).range rB id)) hHeld ?_
        try simp only [Act.put, List.setIfInBounds_toArray, List.set_cons_zero, List.set_cons_succ]
        refine wpAnyH_ready (rs := [16]) (by kernel_rfl) (by simp) ?_
        refine (AllReadyH.cons (o := { dst := some 131, op := Op.call { callee := Callee.value (Operand.func 46), args := #[Operand.tmp 126, Operand.tmp 130], argTypes := #[30, 30] }, type := 4, pos := _, after := #[{ on := 11, ground := Ground.data }, { on := 15, ground := Ground.data }, { on := 10, ground := Ground.chain }, { on := 10, ground := Ground.guard }], guard := some (10, false) }) rfl (fun K hK => ?_) AllReadyH.nil)
        go_simp
        refine (sameIs_any (p := t1.p) (m7.later hHeld) (mB.later hHeld) hn1).mono ?_
        rintro e w9 ⟨rfl, b9⟩
        try go_wp2_with fail
        refine hK.out _ _ (bnext hHeld b9 (Nat.le_refl _)) (fun hHeld => ?_)
        clear hK K
        try simp only [Act.put, List.setIfInBounds_toArray, List.set_cons_zero, List.set_cons_succ]
        refine wpAnyH_take (i := 17) (oi := { dst := some 132, op := Op.unOp UnOp.not 4 (Operand.tmp 131), type := 4, pos := _, after := #[{ on := 16, ground := Ground.data }, { on := 10, ground := Ground.guard }], guard := some (10, false) }) (v := .bool false) rfl (by kernel_rfl) (by kernel_rfl) (by kernel_rfl) (fun _ _ _ h => h) (Or.inl ⟨by rfl, ?_⟩) hHeld ?_
        · intro u hu
          go_simp
        try simp only [Act.put, List.setIfInBounds_toArray, List.set_cons_zero, List.set_cons_succ]
        refine wpAnyH_take (i := 18) (oi := { dst := some 133, op := Op.pick (Operand.tmp 125) (Operand.const (Value.bool true)) (Operand.tmp 132), type := 4, pos := _, after := #[{ on := 10, ground := Ground.data }, { on := 17, ground := Ground.data }], guard := none }) (v := .bool false) rfl (by kernel_rfl) (by kernel_rfl) (by kernel_rfl) (fun _ _ _ h => h) (Or.inl ⟨by rfl, ?_⟩) hHeld ?_
        · intro u hu
          go_simp
        try simp only [Act.put, List.setIfInBounds_toArray, List.set_cons_zero, List.set_cons_succ]
        refine wpAnyH_take (i := 19) (oi := { dst := some 134, op := Op.move (Operand.tmp 133), type := 4, pos := _, after := #[{ on := 18, ground := Ground.data }, { on := 16, ground := Ground.chain }], guard := none }) (v := .bool false) rfl (by kernel_rfl) (by kernel_rfl) (by kernel_rfl) (fun _ _ _ h => h) (Or.inl ⟨by rfl, ?_⟩) hHeld ?_
        · intro u hu
          go_simp
        try simp only [Act.put, List.setIfInBounds_toArray, List.set_cons_zero, List.set_cons_succ]
        refine wpAnyH_take (i := 20) (oi := { dst := some 135, op := Op.move (Operand.tmp 11), type := 35, pos := _, after := #[{ on := 19, ground := Ground.guard }], guard := some (19, false) }) (v := .int .i64 0) rfl (by kernel_rfl) (by kernel_rfl) (by kernel_rfl) (fun _ _ _ h => h) (Or.inl ⟨by rfl, ?_⟩) hHeld ?_
        · intro u hu
          go_simp
        try simp only [Act.put, List.setIfInBounds_toArray, List.set_cons_zero, List.set_cons_succ]
        refine wpAnyH_take (i := 21) (oi := { dst := some 136, op := Op.binOp BinOp.neq 35 (Operand.tmp 135) (Operand.const (Value.int IntKind.i64 0)) 35, type := 4, pos := _, after := #[{ on := 20, ground := Ground.data }, { on := 19, ground := Ground.guard }], guard := some (19, false) }) (v := .bool false) rfl (by kernel_rfl) (by kernel_rfl) (by kernel_rfl) (fun _ _ _ h => h) (Or.inl ⟨by rfl, ?_⟩) hHeld ?_
        · intro u hu
          go_simp
        try simp only [Act.put, List.setIfInBounds_toArray, List.set_cons_zero, List.set_cons_succ]
        refine wpAnyH_take (i := 22) (oi := { dst := some 137, op := Op.pick (Operand.tmp 134) (Operand.const (Value.bool true)) (Operand.tmp 136), type := 4, pos := _, after := #[{ on := 19, ground := Ground.data }, { on := 21, ground := Ground.data }], guard := none }) (v := .bool false) rfl (by kernel_rfl) (by kernel_rfl) (by kernel_rfl) (fun _ _ _ h => h) (Or.inl ⟨by rfl, ?_⟩) hHeld ?_
        · intro u hu
          go_simp
        try simp only [Act.put, List.setIfInBounds_toArray, List.set_cons_zero, List.set_cons_succ]
        refine wpAnyH_done (by kernel_rfl) ?_ _
        have B9 := bnext (bnext Br B7 (Nat.le_refl _)) hHeld (Nat.le_refl _)
        go_wp2_with fail
        go_roundw
        case rel => exact ⟨i + 1, by omega, by go_num, B9⟩
        case measure => simp [intOf]; omega
      · have a9 : ¬ (i : Int) < (L1.length : Int) := by omega
        have Bw := bnext B Br (Nat.le_refl _)
        have hG := get_any (H.later Bw) n hn hnl
        have hnn : (gt Z.l n).needs.length ≤ 100000 := by
          unfold gt
          cases hf : fnd Z.l n with
          | none => exact Nat.zero_le _
          | some p => exact hnl p (fnd_mem hf).1
        have hR := fun (u : World) (b : Below wr.heap.size wr u) => rget_any (R.later (bnext Bw b (Nat.le_refl _))) n
        generalize gt Z.l n = p at *
        generalize gE Z.l n = er at *
        have tk : True := trivial
        have tk2 : True := trivial
        have tk3 : True := trivial
        have tk4 : True := trivial
        go_wp2_with (first
          | (go_at_call 45; refine hG.mono ?_; rintro e w5 ⟨d', n', rfl, m5, b5⟩; clear hG)
          | (clear tk; refine at_newP (by rfl) (by rfl) ?_; intro gp w6 a1 a2 p6 b6)
          | (clear tk2; refine at_putP (by rfl) _ _ (by rfl) gp (by rfl) p d' n' (by rfl) _ p6 rfl ?_; intro w7 p7 s7
             have B7 : Below wr.heap.size wr w7 := ((Stp.of_below (bnext b5 b6 (Nat.le_refl _)) (fun _ => False)).next s7 (fun x e => .inr (by have := b5.size; omega))).below (Nat.le_refl _) (fun x e => e.elim)
             have m7 := (m5.later b6).step s7 (fun x hx e => by have := hx.2; omega)
             clear p6 m5)
          | (go_at_call 47; refine (hR _ B7).mono ?_; rintro e w8 ⟨d2, n2, rfl, m8, b8⟩; clear hR
             replace p7 := p7.later b8
             replace m7 := m7.later b8)
          | (clear tk3; refine at_newP (by rfl) (by rfl) ?_; intro gq w9 a3 a4 p9 b9
             replace p7 := p7.later b9
             replace m7 := m7.later b9)
          | (refine at_putP (by rfl) _ _ (by rfl) gq (by rfl) p d2 n2 (by rfl) _ p9 rfl ?_; intro w10 p10 s10
             have z7 := p7.lt
             have zz := b8.size
             have B10 : Below wr.heap.size wr w10 := ((Stp.of_below (bnext (bnext B7 b8 (Nat.le_refl _)) b9 (Nat.le_refl _)) (fun _ => False)).next s10 (fun x e => .inr (by have := B7.size; omega))).below (Nat.le_refl _) (fun x e => e.elim)
             have m10 := (m8.later b9).step s10 (fun x hx e => by have := hx.2; omega)
             have hgn : gp < w8.heap.size := by have := s7.size; omega
             replace p7 := p7.step s10 (by omega)
             replace m7 := m7.step s10 (fun x hx e => by have := hx.2; have := b6.size; have := s7.size; omega))
          | (clear tk4; refine at_getP0 (by rfl) _ (by rfl) gp (by rfl) p d' n' p7 ?_)
          | (refine at_getP0 (by rfl) _ (by rfl) gq (by rfl) p d2 n2 p10 ?_)
          | (go_at_call 46; refine (sameIs_any m7 m10 hnn).mono ?_; rintro e w11 ⟨rfl, b11⟩))
        go_returns
        exact ⟨by simp, bnext (bnext Bw B10 (Nat.le_refl _)) b11 (Nat.le_refl _)⟩
end Go.Proofs.YtigchhogclofiaaGreat
