/-
  What room of layer 13 does: no statement is proved here.
-/
import Derived.Test.YtecedklfdmbnpaaCacL
namespace Go.Proofs.Ytecedklfdmbnpaa
open Go.ChangeShapes Go.WideShapes Go.ChangeAt Go.RowKit
set_option linter.unusedVariables false
set_option linter.unusedSimpArgs false

section
variable {w w' : World} {gc g mp n : Nat} {ov : Value} {h m : Int} {lp : Int → Option Pg} {lo : List Int} {f : Int → Option Value} {E : Nat → Prop}
/-- The order, as a slice. -/
theorem Cm.slice (H : Cm w gc g mp ov n h m lp lo f E) : ∃ a c, ov = .slice a lo.length c := by
  rcases H.ow.row with ⟨e1, e2⟩ | ⟨r, cap, cur, e1, _⟩
  · exact ⟨none, 0, by rw [e2]; exact e1⟩
  · exact ⟨_, cap, e1⟩
theorem OwV.shape {v : Value} {l : List Int} (h : OwV w v l) : ∃ a n c, v = .slice a n c := by
  rcases h.row with ⟨e, _⟩ | ⟨g, cap, cur, e, _⟩
  · exact ⟨_, _, _, e⟩
  · exact ⟨_, _, _, e⟩
theorem OwV.row1 {v : Value} {l : List Int} (h : OwV w v l) (hl : l ≠ []) : ∃ g cap cur, v = .slice (some ⟨g, 0, none⟩) l.length cap ∧ Rw1 w g cap l cur := by
  rcases h.row with ⟨_, e⟩ | h
  · exact absurd e hl
  · exact h
end
theorem fnd_rmv_fun {l : El} (hn : (keys l).Nodup) (i : Int) : fnd (rmv l i) = fun x => if x = i then none else fnd l x := by
  funext x; exact fnd_rmv hn x
/-- A sector is not held any more. -/
theorem Cx.gone {w w1 w2 : World} {gc g mp : Nat} {sp ov ov' : Value} {Z : CZ} {f : Int → Option Value} {E F G : Nat → Prop} (H : Cx w gc g sp Z mp ov f E F G) (hn : (keys Z.l).Nodup) {i : Int} (t1 : Stp (fun x => x = mp) w w1) (m1 : MpI Try.prog 3 w1 mp (upd f i none))
    (k : Stp (fun x => ov.ownBlock = some x) w1 w2) (ho : OwV w2 ov' ((keys Z.l).erase i)) (hb : ov'.ownBlock = ov.ownBlock) :
    ∃ E', Cx (w2.setCell ⟨gc, 3, none⟩ ov') gc g sp (Z.less i) mp ov' (upd f i none) E' F G ∧ Stp E w (w2.setCell ⟨gc, 3, none⟩ ov') ∧ Grew E E' w (w2.setCell ⟨gc, 3, none⟩ ov') := by
  have h1 := H.cm.gone t1 m1
  have h2 := h1.order k ho (fun r hr => .inl (by rw [← hb]; exact hr))
  have s3 : Stp (fun x => x = gc) w2 (w2.setCell ⟨gc, 3, none⟩ ov') := (Stp.refl (fun x => x = gc) w2).setCell (p := ⟨gc, 3, none⟩) (.inl rfl) _
  have s : Stp E w (w2.setCell ⟨gc, 3, none⟩ ov') := ((t1.mono (fun x e => .inl (e ▸ H.cm.em))).next k (fun x e => .inl (H.cm.eo x e).1)).next s3 (fun x e => .inl (e ▸ H.cm.eg))
  have hg : Grew E (fun x => E x ∨ ov'.ownBlock = some x) w (w2.setCell ⟨gc, 3, none⟩ ov') := fun x hx => by
    rcases hx with hx | hx
    · exact .inl hx
    · exact .inl (H.cm.eo x (by rw [← hb]; exact hx)).1
  refine ⟨_, H.own s rfl rfl ?_ hg, s, hg⟩
  show Cm _ gc g mp ov' Z.n Z.h Z.m (fnd (rmv Z.l i)) (keys (rmv Z.l i)) (upd f i none) _
  rw [fnd_rmv_fun hn, keys_rmv]
  exact h2
theorem Al.left {E F G : Nat → Prop} {w w' : World} (h : Stp E w w') : Stp (Al E F G) w w' := h.mono (fun x e => .inl (.inl e))

set_option maxRecDepth 100000 in
set_option maxHeartbeats 2000000 in
theorem room_any {w : World} {gc g mp : Nat} {sp ov : Value} {Z : CZ} {f : Int → Option Value} {E F G : Nat → Prop} {t : Nat} (H : Cx w gc g sp Z mp ov f E F G) (ok : Z.ok t) (ht : t ≤ 10000) :
    Calls Try.prog 78 #[.pointer (some ⟨gc, 0, none⟩)] w fun e w' => e = .returned (.int .i64 Z.roomE) ∧ ∃ ov' f' E' F', Cx w' gc g sp Z.room mp ov' f' E' F' G ∧ Stp (Al E F G) w w' ∧ Grew E E' w w' ∧ Grew F F' w w' := by
  obtain ⟨y0, y1, y2, y3, y4, y5⟩ := H.cm.cells
  obtain ⟨a0, c0, hov⟩ := H.cm.slice
  rw [keys_len] at hov
  subst hov
  have hS : ∀ u, Below w.heap.size w u → (u.cell? ⟨gc, 1, none⟩ = some (.int .i64 Z.n) ∧ u.cell? ⟨gc, 3, none⟩ = some (.slice a0 Z.l.length c0)) := fun u hu =>
    ⟨(Stp.of_below hu (fun _ => False)).cell y1 id, (Stp.of_below hu (fun _ => False)).cell y3 id⟩
  by_cases hl : Z.l.length < Z.n
  · have e1 : Z.roomE = 0 := by unfold CZ.roomE; rw [if_pos hl]
    have e2 : Z.room = Z := by unfold CZ.room; rw [if_pos hl]
    rw [e1, e2]; clear e1 e2
    have hl' : (Z.l.length : Int) < (Z.n : Int) := by omega
    go_enter Try.func78, Try.ntmps78
    go_wp2
    refine wp_region_held_drew (S := fun u => u.cell? ⟨gc, 1, none⟩ = some (.int .i64 Z.n) ∧ u.cell? ⟨gc, 3, none⟩ = some (.slice a0 Z.l.length c0)) (by kernel_rfl) (hS _ (Below.refl _ _).drew) (fun hHeld => ?_)
    refine wpAnyH_take (i := 0) (oi := { dst := some 6, op := Op.move (Operand.tmp 0), type := 34, pos := _, after := #[], guard := none }) (v := .pointer (some ⟨gc, 0, none⟩)) rfl (by kernel_rfl) (by kernel_rfl) (by kernel_rfl) (fun _ _ _ h => h) (Or.inl ⟨by rfl, ?_⟩) hHeld ?_
    · intro u hu
      go_simp
    try simp only [Act.put, List.setIfInBounds_toArray, List.set_cons_zero, List.set_cons_succ]
    refine wpAnyH_take (i := 1) (oi := { dst := some 7, op := Op.nilCheck (Operand.tmp 6), type := 0, pos := _, after := #[{ on := 0, ground := Ground.data }], guard := none }) (v := .pointer (some ⟨gc, 0, none⟩)) rfl (by kernel_rfl) (by kernel_rfl) (by kernel_rfl) (fun _ _ _ h => h) (Or.inl ⟨by rfl, ?_⟩) hHeld ?_
    · intro u hu
      go_simp
    try simp only [Act.put, List.setIfInBounds_toArray, List.set_cons_zero, List.set_cons_succ]
    refine wpAnyH_take (i := 2) (oi := { dst := some 8, op := Op.fieldAddr 79 (Operand.tmp 7) 3, type := 0, pos := _, after := #[{ on := 1, ground := Ground.data }], guard := none }) (v := .pointer (some ⟨gc, 3, none⟩)) rfl (by kernel_rfl) (by kernel_rfl) (by kernel_rfl) (fun _ _ _ h => h) (Or.inl ⟨by rfl, ?_⟩) hHeld ?_
    · intro u hu
      go_simp
    try simp only [Act.put, List.setIfInBounds_toArray, List.set_cons_zero, List.set_cons_succ]
    refine wpAnyH_take (i := 3) (oi := { dst := some 9, op := Op.load 51 (Operand.tmp 8), type := 51, pos := _, after := #[{ on := 2, ground := Ground.data }], guard := none }) (v := .slice a0 Z.l.length c0) rfl (by kernel_rfl) (by kernel_rfl) (by kernel_rfl) (fun _ _ _ h => h) (Or.inl ⟨by rfl, ?_⟩) hHeld ?_
    · intro u hu
      have x1 := hu.2; go_simp
    try simp only [Act.put, List.setIfInBounds_toArray, List.set_cons_zero, List.set_cons_succ]
    refine wpAnyH_take (i := 4) (oi := { dst := some 10, op := Op.call { callee := Callee.builtin Builtin.len, args := #[Operand.tmp 9], argTypes := #[51] }, type := 3, pos := _, after := #[{ on := 3, ground := Ground.data }], guard := none }) (v := .int .i64 (Z.l.length : Int)) rfl (by kernel_rfl) (by kernel_rfl) (by kernel_rfl) (fun _ _ _ h => h) (Or.inl ⟨by rfl, ?_⟩) hHeld ?_
    · intro u hu
      go_simp
    try simp only [Act.put, List.setIfInBounds_toArray, List.set_cons_zero, List.set_cons_succ]
    refine wpAnyH_take (i := 5) (oi := { dst := some 11, op := Op.move (Operand.tmp 0), type := 34, pos := _, after := #[], guard := none }) (v := .pointer (some ⟨gc, 0, none⟩)) rfl (by kernel_rfl) (by kernel_rfl) (by kernel_rfl) (fun _ _ _ h => h) (Or.inl ⟨by rfl, ?_⟩) hHeld ?_
    · intro u hu
      go_simp
    try simp only [Act.put, List.setIfInBounds_toArray, List.set_cons_zero, List.set_cons_succ]
    refine wpAnyH_take (i := 6) (oi := { dst := some 12, op := Op.nilCheck (Operand.tmp 11), type := 0, pos := _, after := #[{ on := 5, ground := Ground.data }], guard := none }) (v := .pointer (some ⟨gc, 0, none⟩)) rfl (by kernel_rfl) (by kernel_rfl) (by kernel_rfl) (fun _ _ _ h => h) (Or.inl ⟨by rfl, ?_⟩) hHeld ?_
    · intro u hu
      go_simp
    try simp only [Act.put, List.setIfInBounds_toArray, List.set_cons_zero, List.set_cons_succ]
    refine wpAnyH_take (i := 7) (oi := { dst := some 13, op := Op.fieldAddr 79 (Operand.tmp 12) 1, type := 0, pos := _, after := #[{ on := 6, ground := Ground.data }], guard := none }) (v := .pointer (some ⟨gc, 1, none⟩)) rfl (by kernel_rfl) (by kernel_rfl) (by kernel_rfl) (fun _ _ _ h => h) (Or.inl ⟨by rfl, ?_⟩) hHeld ?_
    · intro u hu
      go_simp
    try simp only [Act.put, List.setIfInBounds_toArray, List.set_cons_zero, List.set_cons_succ]
    refine wpAnyH_take (i := 8) (oi := { dst := some 14, op := Op.load 3 (Operand.tmp 13), type := 3, pos := _, after := #[{ on := 7, ground := Ground.data }], guard := none }) (v := .int .i64 (Z.n : Int)) rfl (by kernel_rfl) (by kernel_rfl) (by kernel_rfl) (fun _ _ _ h => h) (Or.inl ⟨by rfl, ?_⟩) hHeld ?_
    · intro u hu
      have x1 := hu.1; go_simp
    try simp only [Act.put, List.setIfInBounds_toArray, List.set_cons_zero, List.set_cons_succ]
    refine wpAnyH_take (i := 9) (oi := { dst := some 15, op := Op.binOp BinOp.lss 3 (Operand.tmp 10) (Operand.tmp 14) 3, type := 4, pos := _, after := #[{ on := 4, ground := Ground.data }, { on := 8, ground := Ground.data }], guard := none }) (v := .bool true) rfl (by kernel_rfl) (by kernel_rfl) (by kernel_rfl) (fun _ _ _ h => h) (Or.inl ⟨by rfl, ?_⟩) hHeld ?_
    · intro u hu
      go_simp
    try simp only [Act.put, List.setIfInBounds_toArray, List.set_cons_zero, List.set_cons_succ]
    refine wpAnyH_done (by kernel_rfl) ?_ _
    go_wp2
    go_returns
    exact ⟨rfl, _, f, E, F, H.later (by go_grown), Stp.of_below (by go_grown) _, Grew.refl _ _ _, Grew.refl _ _ _⟩
  · have hl' : ¬ ((Z.l.length : Int) < (Z.n : Int)) := by omega
    have hne : keys Z.l ≠ [] := fun e => by have : Z.l.length = 0 := by rw [← keys_len, e]; rfl
                                            have := ok.n1; omega
    have hwf : ∀ e ∈ Z.l, (Lit.int .i64 e.1).wf = true := fun e he => wf_inn H.dd.d.ok.n2 (ok.inn e he)
    have ho := oldN_vic Z.l.length Z.l rfl
    have hO := fun u (hu : Below w.heap.size w u) => oldest_any (H.later hu).cm ok.nd hwf (by have := ok.len; have := ok.n2; omega)
    cases hv : vic Z.l with
    | none =>
      have e1 : Z.roomE = 4 := by unfold CZ.roomE; rw [if_neg hl, hv]
      have e2 : Z.room = Z := by unfold CZ.room; rw [if_neg hl, hv]
      rw [hv] at ho
      have ho : oldN Z.l Z.l.length = -1 := ho
      rw [e1, e2]; clear e1 e2
      rw [ho] at hO
      go_enter Try.func78, Try.ntmps78
      go_wp2
      refine wp_region_held_drew (S := fun u => u.cell? ⟨gc, 1, none⟩ = some (.int .i64 Z.n) ∧ u.cell? ⟨gc, 3, none⟩ = some (.slice a0 Z.l.length c0)) (by kernel_rfl) (hS _ (Below.refl _ _).drew) (fun hHeld => ?_)
      refine wpAnyH_take (i := 0) (oi := { dst := some 6, op := Op.move (Operand.tmp 0), type := 34, pos := _, after := #[], guard := none }) (v := .pointer (some ⟨gc, 0, none⟩)) rfl (by kernel_rfl) (by kernel_rfl) (by kernel_rfl) (fun _ _ _ h => h) (Or.inl ⟨by rfl, ?_⟩) hHeld ?_
      · intro u hu
        go_simp
      try simp only [Act.put, List.setIfInBounds_toArray, List.set_cons_zero, List.set_cons_succ]
      refine wpAnyH_take (i := 1) (oi := { dst := some 7, op := Op.nilCheck (Operand.tmp 6), type := 0, pos := _, after := #[{ on := 0, ground := Ground.data }], guard := none }) (v := .pointer (some ⟨gc, 0, none⟩)) rfl (by kernel_rfl) (by kernel_rfl) (by kernel_rfl) (fun _ _ _ h => h) (Or.inl ⟨by rfl, ?_⟩) hHeld ?_
      · intro u hu
        go_simp
      try simp only [Act.put, List.setIfInBounds_toArray, List.set_cons_zero, List.set_cons_succ]
      refine wpAnyH_take (i := 2) (oi := { dst := some 8, op := Op.fieldAddr 79 (Operand.tmp 7) 3, type := 0, pos := _, after := #[{ on := 1, ground := Ground.data }], guard := none }) (v := .pointer (some ⟨gc, 3, none⟩)) rfl (by kernel_rfl) (by kernel_rfl) (by kernel_rfl) (fun _ _ _ h => h) (Or.inl ⟨by rfl, ?_⟩) hHeld ?_
      · intro u hu
        go_simp
      try simp only [Act.put, List.setIfInBounds_toArray, List.set_cons_zero, List.set_cons_succ]
      refine wpAnyH_take (i := 3) (oi := { dst := some 9, op := Op.load 51 (Operand.tmp 8), type := 51, pos := _, after := #[{ on := 2, ground := Ground.data }], guard := none }) (v := .slice a0 Z.l.length c0) rfl (by kernel_rfl) (by kernel_rfl) (by kernel_rfl) (fun _ _ _ h => h) (Or.inl ⟨by rfl, ?_⟩) hHeld ?_
      · intro u hu
        have x1 := hu.2; go_simp
      try simp only [Act.put, List.setIfInBounds_toArray, List.set_cons_zero, List.set_cons_succ]
      refine wpAnyH_take (i := 4) (oi := { dst := some 10, op := Op.call { callee := Callee.builtin Builtin.len, args := #[Operand.tmp 9], argTypes := #[51] }, type := 3, pos := _, after := #[{ on := 3, ground := Ground.data }], guard := none }) (v := .int .i64 (Z.l.length : Int)) rfl (by kernel_rfl) (by kernel_rfl) (by kernel_rfl) (fun _ _ _ h => h) (Or.inl ⟨by rfl, ?_⟩) hHeld ?_
      · intro u hu
        go_simp
      try simp only [Act.put, List.setIfInBounds_toArray, List.set_cons_zero, List.set_cons_succ]
      refine wpAnyH_take (i := 5) (oi := { dst := some 11, op := Op.move (Operand.tmp 0), type := 34, pos := _, after := #[], guard := none }) (v := .pointer (some ⟨gc, 0, none⟩)) rfl (by kernel_rfl) (by kernel_rfl) (by kernel_rfl) (fun _ _ _ h => h) (Or.inl ⟨by rfl, ?_⟩) hHeld ?_
      · intro u hu
        go_simp
      try simp only [Act.put, List.setIfInBounds_toArray, List.set_cons_zero, List.set_cons_succ]
      refine wpAnyH_take (i := 6) (oi := { dst := some 12, op := Op.nilCheck (Operand.tmp 11), type := 0, pos := _, after := #[{ on := 5, ground := Ground.data }], guard := none }) (v := .pointer (some ⟨gc, 0, none⟩)) rfl (by kernel_rfl) (by kernel_rfl) (by kernel_rfl) (fun _ _ _ h => h) (Or.inl ⟨by rfl, ?_⟩) hHeld ?_
      · intro u hu
        go_simp
      try simp only [Act.put, List.setIfInBounds_toArray, List.set_cons_zero, List.set_cons_succ]
      refine wpAnyH_take (i := 7) (oi := { dst := some 13, op := Op.fieldAddr 79 (Operand.tmp 12) 1, type := 0, pos := _, after := #[{ on := 6, ground := Ground.data }], guard := none }) (v := .pointer (some ⟨gc, 1, none⟩)) rfl (by kernel_rfl) (by kernel_rfl) (by kernel_rfl) (fun _ _ _ h => h) (Or.inl ⟨by rfl, ?_⟩) hHeld ?_
      · intro u hu
        go_simp
      try simp only [Act.put, List.setIfInBounds_toArray, List.set_cons_zero, List.set_cons_succ]
      refine wpAnyH_take (i := 8) (oi := { dst := some 14, op := Op.load 3 (Operand.tmp 13), type := 3, pos := _, after := #[{ on := 7, ground := Ground.data }], guard := none }) (v := .int .i64 (Z.n : Int)) rfl (by kernel_rfl) (by kernel_rfl) (by kernel_rfl) (fun _ _ _ h => h) (Or.inl ⟨by rfl, ?_⟩) hHeld ?_
      · intro u hu
        have x1 := hu.1; go_simp
      try simp only [Act.put, List.setIfInBounds_toArray, List.set_cons_zero, List.set_cons_succ]
      refine wpAnyH_take (i := 9) (oi := { dst := some 15, op := Op.binOp BinOp.lss 3 (Operand.tmp 10) (Operand.tmp 14) 3, type := 4, pos := _, after := #[{ on := 4, ground := Ground.data }, { on := 8, ground := Ground.data }], guard := none }) (v := .bool false) rfl (by kernel_rfl) (by kernel_rfl) (by kernel_rfl) (fun _ _ _ h => h) (Or.inl ⟨by rfl, ?_⟩) hHeld ?_
      · intro u hu
        go_simp
      try simp only [Act.put, List.setIfInBounds_toArray, List.set_cons_zero, List.set_cons_succ]
      refine wpAnyH_done (by kernel_rfl) ?_ _
      go_wp2_with (go_at_call 88; refine (hO _ (Below.refl _ _).drew).mono ?_; rintro e w1 ⟨rfl, b1⟩)
      go_returns
      have B1 : Below w.heap.size w w1 := bnext (Below.refl w.heap.size w).drew b1 (Nat.le_refl _)
      exact ⟨rfl, _, f, E, F, H.later B1, Stp.of_below B1 _, Grew.refl _ _ _, Grew.refl _ _ _⟩
    | some e =>
      rw [hv] at ho
      obtain ⟨k, hk, ho1, hke⟩ := ho
      rw [ho1] at hO
      have he := (vic_mem hv).1
      have hke' : (keys Z.l).getD k 0 = e.1 := by unfold keys; rw [List.getD_eq_getElem?_getD, List.getElem?_map, hke]; rfl
      have her := erase_at (keys Z.l) k ok.nd (by rw [keys_len]; exact hk)
      rw [hke'] at her
      have hwe := hwf e he
      obtain ⟨g0, cap, cur, e5, hw⟩ := H.cm.ow.row1 hne
      injection e5 with e5 e6 e7
      subst e5; subst e7; clear e6
      have a1 : (0 : Int) ≤ (k : Int) := by omega
      have a2 : (k : Int) < (Z.l.length : Int) := by omega
      have a3 : IntKind.i64.wrap ((k : Int) + 1) = (k : Int) + 1 := by rw [IntKind.wrap_i64]; have := ok.len; have := ok.n2; omega
      have e1 : Z.roomE = Z.backE e.1 := by unfold CZ.roomE; rw [if_neg hl, hv]
      rw [e1]; clear e1
      have ck := hw.cell k (by rw [keys_len]; exact hk)
      rw [hke'] at ck
      by_cases hbE : Z.backE e.1 = 0
      · have e2 : Z.room = (Z.back e.1).less e.1 := by unfold CZ.room; rw [if_neg hl, hv]; simp only [hbE, if_true]
        have hE2 : Hid (Z.room = (Z.back e.1).less e.1) := e2
        have hEB : Hid (Z.backE e.1 = 0) := hbE
        have hBk := fun u (hu : Below w.heap.size w u) => back_any (H.later hu) ok ht e.1 hwe
        rw [hbE] at hBk; clear e2 hbE
        go_enter Try.func78, Try.ntmps78
        go_wp2
        refine wp_region_held_drew (S := fun u => u.cell? ⟨gc, 1, none⟩ = some (.int .i64 Z.n) ∧ u.cell? ⟨gc, 3, none⟩ = some (.slice (some ⟨g0, 0, none⟩) Z.l.length c0)) (by kernel_rfl) (hS _ (Below.refl _ _).drew) (fun hHeld => ?_)
        refine wpAnyH_take (i := 0) (oi := { dst := some 6, op := Op.move (Operand.tmp 0), type := 34, pos := _, after := #[], guard := none }) (v := .pointer (some ⟨gc, 0, none⟩)) rfl (by kernel_rfl) (by kernel_rfl) (by kernel_rfl) (fun _ _ _ h => h) (Or.inl ⟨by rfl, ?_⟩) hHeld ?_
        · intro u hu
          go_simp
        try simp only [Act.put, List.setIfInBounds_toArray, List.set_cons_zero, List.set_cons_succ]
        refine wpAnyH_take (i := 1) (oi := { dst := some 7, op := Op.nilCheck (Operand.tmp 6), type := 0, pos := _, after := #[{ on := 0, ground := Ground.data }], guard := none }) (v := .pointer (some ⟨gc, 0, none⟩)) rfl (by kernel_rfl) (by kernel_rfl) (by kernel_rfl) (fun _ _ _ h => h) (Or.inl ⟨by rfl, ?_⟩) hHeld ?_
        · intro u hu
          go_simp
        try simp only [Act.put, List.setIfInBounds_toArray, List.set_cons_zero, List.set_cons_succ]
        refine wpAnyH_take (i := 2) (oi := { dst := some 8, op := Op.fieldAddr 79 (Operand.tmp 7) 3, type := 0, pos := _, after := #[{ on := 1, ground := Ground.data }], guard := none }) (v := .pointer (some ⟨gc, 3, none⟩)) rfl (by kernel_rfl) (by kernel_rfl) (by kernel_rfl) (fun _ _ _ h => h) (Or.inl ⟨by rfl, ?_⟩) hHeld ?_
        · intro u hu
          go_simp
        try simp only [Act.put, List.setIfInBounds_toArray, List.set_cons_zero, List.set_cons_succ]
        refine wpAnyH_take (i := 3) (oi := { dst := some 9, op := Op.load 51 (Operand.tmp 8), type := 51, pos := _, after := #[{ on := 2, ground := Ground.data }], guard := none }) (v := .slice (some ⟨g0, 0, none⟩) Z.l.length c0) rfl (by kernel_rfl) (by kernel_rfl) (by kernel_rfl) (fun _ _ _ h => h) (Or.inl ⟨by rfl, ?_⟩) hHeld ?_
        · intro u hu
          have x1 := hu.2; go_simp
        try simp only [Act.put, List.setIfInBounds_toArray, List.set_cons_zero, List.set_cons_succ]
        refine wpAnyH_take (i := 4) (oi := { dst := some 10, op := Op.call { callee := Callee.builtin Builtin.len, args := #[Operand.tmp 9], argTypes := #[51] }, type := 3, pos := _, after := #[{ on := 3, ground := Ground.data }], guard := none }) (v := .int .i64 (Z.l.length : Int)) rfl (by kernel_rfl) (by kernel_rfl) (by kernel_rfl) (fun _ _ _ h => h) (Or.inl ⟨by rfl, ?_⟩) hHeld ?_
        · intro u hu
          go_simp
        try simp only [Act.put, List.setIfInBounds_toArray, List.set_cons_zero, List.set_cons_succ]
        refine wpAnyH_take (i := 5) (oi := { dst := some 11, op := Op.move (Operand.tmp 0), type := 34, pos := _, after := #[], guard := none }) (v := .pointer (some ⟨gc, 0, none⟩)) rfl (by kernel_rfl) (by kernel_rfl) (by kernel_rfl) (fun _ _ _ h => h) (Or.inl ⟨by rfl, ?_⟩) hHeld ?_
        · intro u hu
          go_simp
        try simp only [Act.put, List.setIfInBounds_toArray, List.set_cons_zero, List.set_cons_succ]
        refine wpAnyH_take (i := 6) (oi := { dst := some 12, op := Op.nilCheck (Operand.tmp 11), type := 0, pos := _, after := #[{ on := 5, ground := Ground.data }], guard := none }) (v := .pointer (some ⟨gc, 0, none⟩)) rfl (by kernel_rfl) (by kernel_rfl) (by kernel_rfl) (fun _ _ _ h => h) (Or.inl ⟨by rfl, ?_⟩) hHeld ?_
        · intro u hu
          go_simp
        try simp only [Act.put, List.setIfInBounds_toArray, List.set_cons_zero, List.set_cons_succ]
        refine wpAnyH_take (i := 7) (oi := { dst := some 13, op := Op.fieldAddr 79 (Operand.tmp 12) 1, type := 0, pos := _, after := #[{ on := 6, ground := Ground.data }], guard := none }) (v := .pointer (some ⟨gc, 1, none⟩)) rfl (by kernel_rfl) (by kernel_rfl) (by kernel_rfl) (fun _ _ _ h => h) (Or.inl ⟨by rfl, ?_⟩) hHeld ?_
        · intro u hu
          go_simp
        try simp only [Act.put, List.setIfInBounds_toArray, List.set_cons_zero, List.set_cons_succ]
        refine wpAnyH_take (i := 8) (oi := { dst := some 14, op := Op.load 3 (Operand.tmp 13), type := 3, pos := _, after := #[{ on := 7, ground := Ground.data }], guard := none }) (v := .int .i64 (Z.n : Int)) rfl (by kernel_rfl) (by kernel_rfl) (by kernel_rfl) (fun _ _ _ h => h) (Or.inl ⟨by rfl, ?_⟩) hHeld ?_
        · intro u hu
          have x1 := hu.1; go_simp
        try simp only [Act.put, List.setIfInBounds_toArray, List.set_cons_zero, List.set_cons_succ]
        refine wpAnyH_take (i := 9) (oi := { dst := some 15, op := Op.binOp BinOp.lss 3 (Operand.tmp 10) (Operand.tmp 14) 3, type := 4, pos := _, after := #[{ on := 4, ground := Ground.data }, { on := 8, ground := Ground.data }], guard := none }) (v := .bool false) rfl (by kernel_rfl) (by kernel_rfl) (by kernel_rfl) (fun _ _ _ h => h) (Or.inl ⟨by rfl, ?_⟩) hHeld ?_
        · intro u hu
          go_simp
        try simp only [Act.put, List.setIfInBounds_toArray, List.set_cons_zero, List.set_cons_succ]
        refine wpAnyH_done (by kernel_rfl) ?_ _
        clear hHeld hS
        go_wp2_with (first
          | (go_at_call 88; refine (hO _ (Below.refl _ _).drew).mono ?_; rintro e w1 ⟨rfl, b1⟩
             have B1 : Below w.heap.size w w1 := bnext (Below.refl w.heap.size w).drew b1 (Nat.le_refl _)
             have z3 := (Stp.of_below B1 (fun _ => False)).cell y3 id
             have zk := (Stp.of_below B1 (fun _ => False)).cell ck id
             clear hO b1)
          | (go_at_call 26; refine (hBk _ B1).mono ?_; rintro e w2 ⟨rfl, F', H2, s2, g2⟩
             have q2 := H2.cm.c.cell 2 _ rfl
             clear hBk)
          | (refine at_drop (t := 77) (by rfl) _ _ (by rfl) (by rfl) (by rfl) (fun ty => H2.cm.mm.drop u3 uPgs hwe ty) ?_; rintro w3 ⟨m3, t3⟩
             have h3 := H2.cm.gone (turned_stp t3) m3
             have q3 := h3.c.cell 3 _ rfl
             have o3 := h3.ow
             rw [back_keys] at o3)
          | (go_at_call 61; refine (delete_own o3 k (by rw [keys_len]; exact hk)).mono ?_; rintro e w4 ⟨ov', rfl, o4, b4, s4⟩
             rw [her] at o4
             have h4 := h3.c.step s4 (fun e => (h3.eo gc e).2 rfl)
             have q4 := h4.cell 3 _ rfl
             have f4 := h4.frozen 3
             obtain ⟨a5, n5, c5, rfl⟩ := o4.shape))
        go_returns
        have hn2 : (keys (Z.back e.1).l).Nodup := by rw [back_keys]; exact ok.nd
        obtain ⟨E', H5, s5, g5⟩ := H2.gone hn2 (turned_stp t3) m3 s4 (by rw [back_keys]; exact o4) b4
        have S2 : Stp (Al E F G) w w2 := (Stp.of_below B1 (Al E F G)).trans s2
        refine ⟨by rw [hEB.out]; rfl, _, _, E', F', by rw [hE2.out]; exact H5, S2.next s5 (fun x e => .inl (.inl e)), fun x hx => ?_, Grew.trans (b := w2) (fun x hx => ?_) (Grew.refl _ _ _) S2.size s5.size⟩
        · rcases g5 x hx with e | e
          · exact .inl e
          · exact .inr ⟨Nat.le_trans S2.size e.1, e.2⟩
        · rcases g2 x hx with e | e
          · exact .inl e
          · exact .inr ⟨Nat.le_trans B1.size e.1, e.2⟩
      · have e2 : Z.room = Z.back e.1 := by unfold CZ.room; rw [if_neg hl, hv]; simp only [hbE, if_false]
        have hE2 : Hid (Z.room = Z.back e.1) := e2
        have hBk := fun u (hu : Below w.heap.size w u) => back_any (H.later hu) ok ht e.1 hwe
        clear e2
        go_enter Try.func78, Try.ntmps78
        go_wp2
        refine wp_region_held_drew (S := fun u => u.cell? ⟨gc, 1, none⟩ = some (.int .i64 Z.n) ∧ u.cell? ⟨gc, 3, none⟩ = some (.slice (some ⟨g0, 0, none⟩) Z.l.length c0)) (by kernel_rfl) (hS _ (Below.refl _ _).drew) (fun hHeld => ?_)
        refine wpAnyH_take (i := 0) (oi := { dst := some 6, op := Op.move (Operand.tmp 0), type := 34, pos := _, after := #[], guard := none }) (v := .pointer (some ⟨gc, 0, none⟩)) rfl (by kernel_rfl) (by kernel_rfl) (by kernel_rfl) (fun _ _ _ h => h) (Or.inl ⟨by rfl, ?_⟩) hHeld ?_
        · intro u hu
          go_simp
        try simp only [Act.put, List.setIfInBounds_toArray, List.set_cons_zero, List.set_cons_succ]
        refine wpAnyH_take (i := 1) (oi := { dst := some 7, op := Op.nilCheck (Operand.tmp 6), type := 0, pos := _, after := #[{ on := 0, ground := Ground.data }], guard := none }) (v := .pointer (some ⟨gc, 0, none⟩)) rfl (by kernel_rfl) (by kernel_rfl) (by kernel_rfl) (fun _ _ _ h => h) (Or.inl ⟨by rfl, ?_⟩) hHeld ?_
        · intro u hu
          go_simp
        try simp only [Act.put, List.setIfInBounds_toArray, List.set_cons_zero, List.set_cons_succ]
        refine wpAnyH_take (i := 2) (oi := { dst := some 8, op := Op.fieldAddr 79 (Operand.tmp 7) 3, type := 0, pos := _, after := #[{ on := 1, ground := Ground.data }], guard := none }) (v := .pointer (some ⟨gc, 3, none⟩)) rfl (by kernel_rfl) (by kernel_rfl) (by kernel_rfl) (fun _ _ _ h => h) (Or.inl ⟨by rfl, ?_⟩) hHeld ?_
        · intro u hu
          go_simp
        try simp only [Act.put, List.setIfInBounds_toArray, List.set_cons_zero, List.set_cons_succ]
        refine wpAnyH_take (i := 3) (oi := { dst := some 9, op := Op.load 51 (Operand.tmp 8), type := 51, pos := _, after := #[{ on := 2, ground := Ground.data }], guard := none }) (v := .slice (some ⟨g0, 0, none⟩) Z.l.length c0) rfl (by kernel_rfl) (by kernel_rfl) (by kernel_rfl) (fun _ _ _ h => h) (Or.inl ⟨by rfl, ?_⟩) hHeld ?_
        · intro u hu
          have x1 := hu.2; go_simp
        try simp only [Act.put, List.setIfInBounds_toArray, List.set_cons_zero, List.set_cons_succ]
        refine wpAnyH_take (i := 4) (oi := { dst := some 10, op := Op.call { callee := Callee.builtin Builtin.len, args := #[Operand.tmp 9], argTypes := #[51] }, type := 3, pos := _, after := #[{ on := 3, ground := Ground.data }], guard := none }) (v := .int .i64 (Z.l.length : Int)) rfl (by kernel_rfl) (by kernel_rfl) (by kernel_rfl) (fun _ _ _ h => h) (Or.inl ⟨by rfl, ?_⟩) hHeld ?_
        · intro u hu
          go_simp
        try simp only [Act.put, List.setIfInBounds_toArray, List.set_cons_zero, List.set_cons_succ]
        refine wpAnyH_take (i := 5) (oi := { dst := some 11, op := Op.move (Operand.tmp 0), type := 34, pos := _, after := #[], guard := none }) (v := .pointer (some ⟨gc, 0, none⟩)) rfl (by kernel_rfl) (by kernel_rfl) (by kernel_rfl) (fun _ _ _ h => h) (Or.inl ⟨by rfl, ?_⟩) hHeld ?_
        · intro u hu
          go_simp
        try simp only [Act.put, List.setIfInBounds_toArray, List.set_cons_zero, List.set_cons_succ]
        refine wpAnyH_take (i := 6) (oi := { dst := some 12, op := Op.nilCheck (Operand.tmp 11), type := 0, pos := _, after := #[{ on := 5, ground := Ground.data }], guard := none }) (v := .pointer (some ⟨gc, 0, none⟩)) rfl (by kernel_rfl) (by kernel_rfl) (by kernel_rfl) (fun _ _ _ h => h) (Or.inl ⟨by rfl, ?_⟩) hHeld ?_
        · intro u hu
          go_simp
        try simp only [Act.put, List.setIfInBounds_toArray, List.set_cons_zero, List.set_cons_succ]
        refine wpAnyH_take (i := 7) (oi := { dst := some 13, op := Op.fieldAddr 79 (Operand.tmp 12) 1, type := 0, pos := _, after := #[{ on := 6, ground := Ground.data }], guard := none }) (v := .pointer (some ⟨gc, 1, none⟩)) rfl (by kernel_rfl) (by kernel_rfl) (by kernel_rfl) (fun _ _ _ h => h) (Or.inl ⟨by rfl, ?_⟩) hHeld ?_
        · intro u hu
          go_simp
        try simp only [Act.put, List.setIfInBounds_toArray, List.set_cons_zero, List.set_cons_succ]
        refine wpAnyH_take (i := 8) (oi := { dst := some 14, op := Op.load 3 (Operand.tmp 13), type := 3, pos := _, after := #[{ on := 7, ground := Ground.data }], guard := none }) (v := .int .i64 (Z.n : Int)) rfl (by kernel_rfl) (by kernel_rfl) (by kernel_rfl) (fun _ _ _ h => h) (Or.inl ⟨by rfl, ?_⟩) hHeld ?_
        · intro u hu
          have x1 := hu.1; go_simp
        try simp only [Act.put, List.setIfInBounds_toArray, List.set_cons_zero, List.set_cons_succ]
        refine wpAnyH_take (i := 9) (oi := { dst := some 15, op := Op.binOp BinOp.lss 3 (Operand.tmp 10) (Operand.tmp 14) 3, type := 4, pos := _, after := #[{ on := 4, ground := Ground.data }, { on := 8, ground := Ground.data }], guard := none }) (v := .bool false) rfl (by kernel_rfl) (by kernel_rfl) (by kernel_rfl) (fun _ _ _ h => h) (Or.inl ⟨by rfl, ?_⟩) hHeld ?_
        · intro u hu
          go_simp
        try simp only [Act.put, List.setIfInBounds_toArray, List.set_cons_zero, List.set_cons_succ]
        refine wpAnyH_done (by kernel_rfl) ?_ _
        clear hHeld hS
        go_wp2_with (first
          | (go_at_call 88; refine (hO _ (Below.refl _ _).drew).mono ?_; rintro e w1 ⟨rfl, b1⟩
             have B1 : Below w.heap.size w w1 := bnext (Below.refl w.heap.size w).drew b1 (Nat.le_refl _)
             have z3 := (Stp.of_below B1 (fun _ => False)).cell y3 id
             have zk := (Stp.of_below B1 (fun _ => False)).cell ck id
             clear hO b1)
          | (go_at_call 26; refine (hBk _ B1).mono ?_; rintro e w2 ⟨rfl, F', H2, s2, g2⟩
             clear hBk))
        go_returns
        have S2 : Stp (Al E F G) w w2 := (Stp.of_below B1 (Al E F G)).trans s2
        refine ⟨rfl, _, f, E, F', by rw [hE2.out]; exact H2, S2, Grew.refl _ _ _, fun x hx => ?_⟩
        rcases g2 x hx with e | e
        · exact .inl e
        · exact .inr ⟨Nat.le_trans B1.size e.1, e.2⟩
end Go.Proofs.Ytecedklfdmbnpaa
