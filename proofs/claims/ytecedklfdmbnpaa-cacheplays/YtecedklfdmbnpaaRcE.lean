/-
  What room of the document's cache does: no statement is proved here.
-/
import Derived.Test.YtecedklfdmbnpaaRcD
namespace Go.Proofs.Ytecedklfdmbnpaa
open Go.ChangeShapes Go.WideShapes Go.ChangeAt Go.RowKit
set_option linter.unusedVariables false
set_option linter.unusedSimpArgs false

theorem idx_at : ∀ (l : El) (k : Nat), (keys l).Nodup → k < l.length → idx l (l.getD k e0).1 = k
  | [], k, _, h => by simp at h
  | a :: t, 0, _, _ => by unfold idx; exact if_pos rfl
  | a :: t, k + 1, hn, h => by
    rw [keys_cons, List.nodup_cons] at hn
    have hk : k < t.length := by simpa using h
    have hm := getD_mem hk
    unfold idx
    rw [List.getD_cons_succ, if_neg (fun e => hn.1 (by rw [e]; exact List.mem_map_of_mem (f := (·.1)) hm)), idx_at t k hn.2 hk]
theorem part_rmv {l : El} {k : Nat} (hn : (keys l).Nodup) (hk : k < l.length) : l.take k ++ l.drop (k + 1) = rmv l (l.getD k e0).1 := by
  have hf : fnd l (l.getD k e0).1 = some (l.getD k e0).2 := fnd_of_mem hn (getD_mem hk)
  have := (idx_some hf).2.2
  rwa [idx_at l k hn hk] at this
/-- A sector is not held any more. -/
theorem Rx.gone {w w' : World} {yc y q : Nat} {Z : CZ} {s : PS} {lv lv' : Value} {E R : Nat → Prop} {i : Int} (H : Rx w yc y q Z s lv E R) (b : Below w.heap.size w w') (ho : OwL w' lv' (rmv Z.l i)) (hN : New w.heap.size lv') :
    ∃ E', Rx (w'.setCell ⟨yc, 2, none⟩ lv') yc y q (Z.less i) s lv' E' R ∧ Stp E w (w'.setCell ⟨yc, 2, none⟩ lv') ∧ Grew E E' w (w'.setCell ⟨yc, 2, none⟩ lv') :=
  H.list (Z' := Z.less i) (Stp.of_below b _) rfl rfl rfl rfl rfl ho (fun r hr => .inr ⟨hN r hr, ho.lt hr⟩)
theorem slice_lo (w : World) (g k n c : Nat) (hk : k ≤ n) (hn : n ≤ c) :
    (Instr.sliceAt 47 (.slice (some ⟨g, 0, none⟩) n c) none (some (.int .i64 (k : Int))) none).run Try.prog w = .ok (.slice (some ⟨g, 0, none⟩) k c) w := by
  have h1 : (k : Int) ≤ (c : Int) := by omega
  have h2 : (0 : Int) ≤ (k : Int) := by omega
  go_simp
theorem slice_hi (w : World) (g k n c : Nat) (hk : k ≤ n) (hn : n ≤ c) :
    (Instr.sliceAt 47 (.slice (some ⟨g, 0, none⟩) n c) (some (.int .i64 (k : Int))) none none).run Try.prog w = .ok (.slice (some (if c = k then ⟨g, 0, none⟩ else ⟨g, k * 67, none⟩)) (n - k) (c - k)) w := by
  have h1 : (k : Int) ≤ (n : Int) := by omega
  have h2 : (0 : Int) ≤ (k : Int) := by omega
  go_simp
  try (split <;> rfl)
theorem RTo.mk' {w w1 w' : World} {yc y q : Nat} {Z' : CZ} {E R E1 R1 : Nat → Prop} (s : Stp (Rl q E R) w w1) (h : RTo yc y q E1 R1 Z' w1 w') (g1 : Grew E E1 w w1) (g2 : Grew R R1 w w1) : RTo yc y q E R Z' w w' := by
  obtain ⟨s', lv', E', R', h1, h2, h3, h4⟩ := h
  refine ⟨s', lv', E', R', h1, s.next h2 (fun x e => ?_), Grew.trans g1 h3 s.size h2.size, Grew.trans g2 h4 s.size h2.size⟩
  rcases e with e | e | e
  · rcases g1 x e with e | e
    · exact .inl (.inl e)
    · exact .inr e.1
  · rcases g2 x e with e | e
    · exact .inl (.inr (.inl e))
    · exact .inr e.1
  · exact .inl (.inr (.inr e))
theorem new_at {B g n c : Nat} (h : B ≤ g) : New B (.slice (some ⟨g, 0, none⟩) n c) := fun r hr => by
  have : g = r := by simpa [Value.ownBlock] using hr
  omega
theorem own_ge {B g n c x : Nat} (h : B ≤ g) (e : (Value.slice (some ⟨g, 0, none⟩) n c).ownBlock = some x) : B ≤ x := by
  have : g = x := by simpa [Value.ownBlock] using e
  omega
set_option maxRecDepth 100000 in
set_option maxHeartbeats 4000000 in
theorem rroom_any {w : World} {yc y q : Nat} {Z : CZ} {s : PS} {lv : Value} {E R : Nat → Prop} {t : Nat} (H : Rx w yc y q Z s lv E R) (ok : Z.ok t) (ht : t ≤ 10000) :
    Calls Try.prog 65 #[.pointer (some ⟨yc, 0, none⟩)] w fun r w' => r = .returned (.int .i64 Z.roomE) ∧ RTo yc y q E R Z.room w w' := by
  have hlen : Z.l.length ≤ 64 := by have := ok.len; have := ok.n2; omega
  obtain ⟨y0, y1, y2, y3, y4⟩ := H.cells
  obtain ⟨a0, c0, rfl⟩ := H.ow.shape
  have hS : ∀ u, Below w.heap.size w u → (u.cell? ⟨yc, 1, none⟩ = some (.int .i64 Z.n) ∧ u.cell? ⟨yc, 2, none⟩ = some (.slice a0 Z.l.length c0)) := fun u hu =>
    ⟨(Stp.of_below hu (fun _ => False)).cell y1 id, (Stp.of_below hu (fun _ => False)).cell y2 id⟩
  by_cases hl : Z.l.length < Z.n
  · have e1 : Z.roomE = 0 := by unfold CZ.roomE; rw [if_pos hl]
    have e2 : Z.room = Z := by unfold CZ.room; rw [if_pos hl]
    rw [e1, e2]; clear e1 e2
    have hl' : (Z.l.length : Int) < (Z.n : Int) := by omega
    go_enter Try.func65, Try.ntmps65
    go_wp2
    refine wp_region_held_drew (S := fun u => u.cell? ⟨yc, 1, none⟩ = some (.int .i64 Z.n) ∧ u.cell? ⟨yc, 2, none⟩ = some (.slice a0 Z.l.length c0)) (by kernel_rfl) (hS _ (Below.refl _ _).drew) (fun hHeld => ?_)
    refine wpAnyH_take (i := 0) (oi := { dst := some 6, op := Op.move (Operand.tmp 0), type := 37, pos := _, after := #[], guard := none }) (v := .pointer (some ⟨yc, 0, none⟩)) rfl (by kernel_rfl) (by kernel_rfl) (by kernel_rfl) (fun _ _ _ h => h) (Or.inl ⟨by rfl, ?_⟩) hHeld ?_
    · intro u hu
      go_simp
    try simp only [Act.put, List.setIfInBounds_toArray, List.set_cons_zero, List.set_cons_succ]
    refine wpAnyH_take (i := 1) (oi := { dst := some 7, op := Op.nilCheck (Operand.tmp 6), type := 0, pos := _, after := #[{ on := 0, ground := Ground.data }], guard := none }) (v := .pointer (some ⟨yc, 0, none⟩)) rfl (by kernel_rfl) (by kernel_rfl) (by kernel_rfl) (fun _ _ _ h => h) (Or.inl ⟨by rfl, ?_⟩) hHeld ?_
    · intro u hu
      go_simp
    try simp only [Act.put, List.setIfInBounds_toArray, List.set_cons_zero, List.set_cons_succ]
    refine wpAnyH_take (i := 2) (oi := { dst := some 8, op := Op.fieldAddr 49 (Operand.tmp 7) 2, type := 0, pos := _, after := #[{ on := 1, ground := Ground.data }], guard := none }) (v := .pointer (some ⟨yc, 2, none⟩)) rfl (by kernel_rfl) (by kernel_rfl) (by kernel_rfl) (fun _ _ _ h => h) (Or.inl ⟨by rfl, ?_⟩) hHeld ?_
    · intro u hu
      go_simp
    try simp only [Act.put, List.setIfInBounds_toArray, List.set_cons_zero, List.set_cons_succ]
    refine wpAnyH_take (i := 3) (oi := { dst := some 9, op := Op.load 47 (Operand.tmp 8), type := 47, pos := _, after := #[{ on := 2, ground := Ground.data }], guard := none }) (v := .slice a0 Z.l.length c0) rfl (by kernel_rfl) (by kernel_rfl) (by kernel_rfl) (fun _ _ _ h => h) (Or.inl ⟨by rfl, ?_⟩) hHeld ?_
    · intro u hu
      have x1 := hu.2; go_simp
    try simp only [Act.put, List.setIfInBounds_toArray, List.set_cons_zero, List.set_cons_succ]
    refine wpAnyH_take (i := 4) (oi := { dst := some 10, op := Op.call { callee := Callee.builtin Builtin.len, args := #[Operand.tmp 9], argTypes := #[47] }, type := 3, pos := _, after := #[{ on := 3, ground := Ground.data }], guard := none }) (v := .int .i64 (Z.l.length : Int)) rfl (by kernel_rfl) (by kernel_rfl) (by kernel_rfl) (fun _ _ _ h => h) (Or.inl ⟨by rfl, ?_⟩) hHeld ?_
    · intro u hu
      go_simp
    try simp only [Act.put, List.setIfInBounds_toArray, List.set_cons_zero, List.set_cons_succ]
    refine wpAnyH_take (i := 5) (oi := { dst := some 11, op := Op.move (Operand.tmp 0), type := 37, pos := _, after := #[], guard := none }) (v := .pointer (some ⟨yc, 0, none⟩)) rfl (by kernel_rfl) (by kernel_rfl) (by kernel_rfl) (fun _ _ _ h => h) (Or.inl ⟨by rfl, ?_⟩) hHeld ?_
    · intro u hu
      go_simp
    try simp only [Act.put, List.setIfInBounds_toArray, List.set_cons_zero, List.set_cons_succ]
    refine wpAnyH_take (i := 6) (oi := { dst := some 12, op := Op.nilCheck (Operand.tmp 11), type := 0, pos := _, after := #[{ on := 5, ground := Ground.data }], guard := none }) (v := .pointer (some ⟨yc, 0, none⟩)) rfl (by kernel_rfl) (by kernel_rfl) (by kernel_rfl) (fun _ _ _ h => h) (Or.inl ⟨by rfl, ?_⟩) hHeld ?_
    · intro u hu
      go_simp
    try simp only [Act.put, List.setIfInBounds_toArray, List.set_cons_zero, List.set_cons_succ]
    refine wpAnyH_take (i := 7) (oi := { dst := some 13, op := Op.fieldAddr 49 (Operand.tmp 12) 1, type := 0, pos := _, after := #[{ on := 6, ground := Ground.data }], guard := none }) (v := .pointer (some ⟨yc, 1, none⟩)) rfl (by kernel_rfl) (by kernel_rfl) (by kernel_rfl) (fun _ _ _ h => h) (Or.inl ⟨by rfl, ?_⟩) hHeld ?_
    · intro u hu
      go_simp
    try simp only [Act.put, List.setIfInBounds_toArray, List.set_cons_zero, List.set_cons_succ]
    refine wpAnyH_take (i := 8) (oi := { dst := some 14, op := Op.load 3 (Operand.tmp 13), type := 3, pos := _, after := #[{ on := 7, ground := Ground.data }], guard := none }) (v := .int .i64 (Z.n : Int)) rfl (by kernel_rfl) (by kernel_rfl) (by kernel_rfl) (fun _ _ _ h => h) (Or.inl ⟨by rfl, ?_⟩) hHeld ?_
    · intro u hu
      have x1 := hu.1; go_simp
    try simp only [Act.put, List.setIfInBounds_toArray, List.set_cons_zero, List.set_cons_succ]
    refine wpAnyH_take (i := 9) (oi := { dst := some 15, op := Op.binOp BinOp.lss 3 (Operand.tmp 10) (Operand.tmp 14) 3, type := 4, pos := _, after := #[{ on := 4, ground := Ground.data }, { on := 8, ground := Ground.data }], guard := none }) (v := .bool true) rfl (by kernel_rfl) (by kernel_rfl) (by kernel_rfl) (fun _ _ _ h => h) (Or.inl ⟨by rfl, ?_⟩) hHeld ?_
    · intro u hu
      go_simp
    try simp only [Act.put, List.setIfInBounds_toArray, List.set_cons_zero, List.set_cons_succ]
    refine wpAnyH_done (by kernel_rfl) ?_ _
    go_wp2
    go_returns
    have bD : Below w.heap.size w w.drew := (Below.refl _ w).drew
    exact ⟨rfl, (H.later bD).here (Stp.of_below bD _)⟩
  · have hl' : ¬ ((Z.l.length : Int) < (Z.n : Int)) := by omega
    have ho := oldN_vic Z.l.length Z.l rfl
    go_enter Try.func65, Try.ntmps65
    go_wp2
    refine wp_region_held_drew (S := fun u => u.cell? ⟨yc, 1, none⟩ = some (.int .i64 Z.n) ∧ u.cell? ⟨yc, 2, none⟩ = some (.slice a0 Z.l.length c0)) (by kernel_rfl) (hS _ (Below.refl _ _).drew) (fun hHeld => ?_)
    refine wpAnyH_take (i := 0) (oi := { dst := some 6, op := Op.move (Operand.tmp 0), type := 37, pos := _, after := #[], guard := none }) (v := .pointer (some ⟨yc, 0, none⟩)) rfl (by kernel_rfl) (by kernel_rfl) (by kernel_rfl) (fun _ _ _ h => h) (Or.inl ⟨by rfl, ?_⟩) hHeld ?_
    · intro u hu
      go_simp
    try simp only [Act.put, List.setIfInBounds_toArray, List.set_cons_zero, List.set_cons_succ]
    refine wpAnyH_take (i := 1) (oi := { dst := some 7, op := Op.nilCheck (Operand.tmp 6), type := 0, pos := _, after := #[{ on := 0, ground := Ground.data }], guard := none }) (v := .pointer (some ⟨yc, 0, none⟩)) rfl (by kernel_rfl) (by kernel_rfl) (by kernel_rfl) (fun _ _ _ h => h) (Or.inl ⟨by rfl, ?_⟩) hHeld ?_
    · intro u hu
      go_simp
    try simp only [Act.put, List.setIfInBounds_toArray, List.set_cons_zero, List.set_cons_succ]
    refine wpAnyH_take (i := 2) (oi := { dst := some 8, op := Op.fieldAddr 49 (Operand.tmp 7) 2, type := 0, pos := _, after := #[{ on := 1, ground := Ground.data }], guard := none }) (v := .pointer (some ⟨yc, 2, none⟩)) rfl (by kernel_rfl) (by kernel_rfl) (by kernel_rfl) (fun _ _ _ h => h) (Or.inl ⟨by rfl, ?_⟩) hHeld ?_
    · intro u hu
      go_simp
    try simp only [Act.put, List.setIfInBounds_toArray, List.set_cons_zero, List.set_cons_succ]
    refine wpAnyH_take (i := 3) (oi := { dst := some 9, op := Op.load 47 (Operand.tmp 8), type := 47, pos := _, after := #[{ on := 2, ground := Ground.data }], guard := none }) (v := .slice a0 Z.l.length c0) rfl (by kernel_rfl) (by kernel_rfl) (by kernel_rfl) (fun _ _ _ h => h) (Or.inl ⟨by rfl, ?_⟩) hHeld ?_
    · intro u hu
      have x1 := hu.2; go_simp
    try simp only [Act.put, List.setIfInBounds_toArray, List.set_cons_zero, List.set_cons_succ]
    refine wpAnyH_take (i := 4) (oi := { dst := some 10, op := Op.call { callee := Callee.builtin Builtin.len, args := #[Operand.tmp 9], argTypes := #[47] }, type := 3, pos := _, after := #[{ on := 3, ground := Ground.data }], guard := none }) (v := .int .i64 (Z.l.length : Int)) rfl (by kernel_rfl) (by kernel_rfl) (by kernel_rfl) (fun _ _ _ h => h) (Or.inl ⟨by rfl, ?_⟩) hHeld ?_
    · intro u hu
      go_simp
    try simp only [Act.put, List.setIfInBounds_toArray, List.set_cons_zero, List.set_cons_succ]
    refine wpAnyH_take (i := 5) (oi := { dst := some 11, op := Op.move (Operand.tmp 0), type := 37, pos := _, after := #[], guard := none }) (v := .pointer (some ⟨yc, 0, none⟩)) rfl (by kernel_rfl) (by kernel_rfl) (by kernel_rfl) (fun _ _ _ h => h) (Or.inl ⟨by rfl, ?_⟩) hHeld ?_
    · intro u hu
      go_simp
    try simp only [Act.put, List.setIfInBounds_toArray, List.set_cons_zero, List.set_cons_succ]
    refine wpAnyH_take (i := 6) (oi := { dst := some 12, op := Op.nilCheck (Operand.tmp 11), type := 0, pos := _, after := #[{ on := 5, ground := Ground.data }], guard := none }) (v := .pointer (some ⟨yc, 0, none⟩)) rfl (by kernel_rfl) (by kernel_rfl) (by kernel_rfl) (fun _ _ _ h => h) (Or.inl ⟨by rfl, ?_⟩) hHeld ?_
    · intro u hu
      go_simp
    try simp only [Act.put, List.setIfInBounds_toArray, List.set_cons_zero, List.set_cons_succ]
    refine wpAnyH_take (i := 7) (oi := { dst := some 13, op := Op.fieldAddr 49 (Operand.tmp 12) 1, type := 0, pos := _, after := #[{ on := 6, ground := Ground.data }], guard := none }) (v := .pointer (some ⟨yc, 1, none⟩)) rfl (by kernel_rfl) (by kernel_rfl) (by kernel_rfl) (fun _ _ _ h => h) (Or.inl ⟨by rfl, ?_⟩) hHeld ?_
    · intro u hu
      go_simp
    try simp only [Act.put, List.setIfInBounds_toArray, List.set_cons_zero, List.set_cons_succ]
    refine wpAnyH_take (i := 8) (oi := { dst := some 14, op := Op.load 3 (Operand.tmp 13), type := 3, pos := _, after := #[{ on := 7, ground := Ground.data }], guard := none }) (v := .int .i64 (Z.n : Int)) rfl (by kernel_rfl) (by kernel_rfl) (by kernel_rfl) (fun _ _ _ h => h) (Or.inl ⟨by rfl, ?_⟩) hHeld ?_
    · intro u hu
      have x1 := hu.1; go_simp
    try simp only [Act.put, List.setIfInBounds_toArray, List.set_cons_zero, List.set_cons_succ]
    refine wpAnyH_take (i := 9) (oi := { dst := some 15, op := Op.binOp BinOp.lss 3 (Operand.tmp 10) (Operand.tmp 14) 3, type := 4, pos := _, after := #[{ on := 4, ground := Ground.data }, { on := 8, ground := Ground.data }], guard := none }) (v := .bool false) rfl (by kernel_rfl) (by kernel_rfl) (by kernel_rfl) (fun _ _ _ h => h) (Or.inl ⟨by rfl, ?_⟩) hHeld ?_
    · intro u hu
      go_simp
    try simp only [Act.put, List.setIfInBounds_toArray, List.set_cons_zero, List.set_cons_succ]
    refine wpAnyH_done (by kernel_rfl) ?_ _
    clear hHeld
    have bD : Below w.heap.size w w.drew := (Below.refl _ w).drew
    have y2D : w.drew.cell? ⟨yc, 2, none⟩ = some (.slice a0 Z.l.length c0) := y2
    go_wp2
    go_loopw [3] (fun v wr => ∃ k : Nat, k ≤ Z.l.length ∧ v = .int .i64 ((k : Int) - 1) ∧ oldN Z.l Z.l.length = oldN Z.l k ∧ Below w.heap.size w wr) (fun v _ => (intOf v + 1).toNat)
    case atStart => exact ⟨Z.l.length, Nat.le_refl _, by go_num, rfl, bD⟩
    case round =>
      obtain ⟨k, hk, rfl, hk2, hb⟩ := hrel
      have H2 := H.later hb
      obtain ⟨z0, z1, z2, z3, z4⟩ := H2.cells
      cases k with
      | zero =>
        have hv : vic Z.l = none := by
          cases hv : vic Z.l with
          | none => rfl
          | some e =>
            rw [hv] at ho
            obtain ⟨k', h1, h2, h3⟩ := ho
            rw [hk2] at h2
            have h2 : (-1 : Int) = (k' : Int) := h2
            omega
        have hH : Hid (Z.roomE = 4 ∧ Z.room = Z) := by
          refine ⟨?_, ?_⟩
          · unfold CZ.roomE; rw [if_neg hl, hv]
          · unfold CZ.room; rw [if_neg hl, hv]
        go_wp2
        go_returns
        exact ⟨by rw [hH.out.1]; rfl, by rw [hH.out.2]; exact H2.here (Stp.of_below hb _)⟩
      | succ k =>
        have hkl : k < Z.l.length := by omega
        have hne : Z.l ≠ [] := by intro e; rw [e] at hkl; simp at hkl
        obtain ⟨g0, cap, cur, elv, hw⟩ := H2.ow.row1 hne
        obtain ⟨p1, -, p2⟩ := Value.slice.inj elv
        subst p1; subst p2; clear elv
        have rk := hw.range k hkl
        have hmem := getD_mem hkl
        have hrm := part_rmv ok.nd hkl
        have hpn := ok.pin _ hmem
        have hfe : fnd Z.l (Z.l.getD k e0).1 = some (Z.l.getD k e0).2 := fnd_of_mem ok.nd hmem
        have ho2 : oldN Z.l (k + 1) = if (Z.l.getD k e0).2.pn = 0 then (k : Int) else oldN Z.l k := by
          conv => lhs; unfold oldN
          rw [show Z.l[k]? = some (Z.l.getD k e0) by rw [List.getD_eq_getElem?_getD, List.getElem?_eq_getElem hkl]; rfl]
        have hvk : (Z.l.getD k e0).2.pn = 0 → vic Z.l = some (Z.l.getD k e0) := fun hp => by
          rw [if_pos hp] at ho2
          cases hv : vic Z.l with
          | none =>
            rw [hv] at ho
            have ho : oldN Z.l Z.l.length = -1 := ho
            omega
          | some e =>
            rw [hv] at ho
            obtain ⟨k', h1, h2, h3⟩ := ho
            obtain rfl : k' = k := by omega
            rw [List.getD_eq_getElem?_getD, h3]; rfl
        generalize he : Z.l.getD k e0 = e at *
        have a1 : (0 : Int) ≤ (k : Int) := by omega
        have a2 : (k : Int) < (Z.l.length : Int) := by omega
        have a3 : IntKind.i64.wrap ((k : Int) - 1) = (k : Int) - 1 := by rw [IntKind.wrap_i64]; omega
        have a4 : ((k + 1 : Nat) : Int) - 1 = (k : Int) := by omega
        have a5 : IntKind.i64.wrap ((k : Int) + 1) = (k : Int) + 1 := by rw [IntKind.wrap_i64]; omega
        rw [a4]
        by_cases hp : e.2.pn = 0
        · have hv := hvk hp
          clear hvk ho2 ho
          cases hch : e.2.ch with
          | false =>
            have hH : Hid (Z.roomE = 0 ∧ Z.room = Z.less e.1) := by
              have hb1 : Z.backE e.1 = 0 := by unfold CZ.backE bkE; rw [hfe]; simp [hch]
              have hb2 : Z.back e.1 = Z := by unfold CZ.back; rw [hfe]; simp [hch]
              refine ⟨?_, ?_⟩
              · unfold CZ.roomE; rw [if_neg hl, hv]; exact hb1
              · unfold CZ.room; rw [if_neg hl, hv]; simp only [hb1, if_true, hb2]
            clear hv hfe
            go_wp2_with (first
              | (refine at_getO (by rfl) _ (by rfl) g0 (k * 67) (by rfl) e rk ?_)
              | (refine at_newO (by rfl) (by rfl) ?_; intro gx w6 a6 l6 r6 b6)
              | (refine at_putO (by rfl) _ _ (by rfl) gx (by rfl) e (by rfl) _ r6 ?_; intro WX r7 s7
                 have B7 : Below wr.heap.size wr WX := ((Stp.of_below b6 (fun x => wr.heap.size ≤ x)).next s7 (fun x e => .inl (e ▸ a6))).below (Nat.le_refl _) (fun _ h => h)
                 have x1 : WX.cell? ⟨gx, 66, none⟩ = some (.int .i64 0) := by have := onc_pn r7.range; rw [hp] at this; simpa using this
                 have x2 : WX.cell? ⟨gx, 65, none⟩ = some (.bool false) := by have := onc_ch r7.range; rw [hch] at this; simpa using this
                 clear r6 b6 s7))
            have HX := H2.later B7
            have HWX : RwL WX g0 c0 Z.l cur := ⟨by rw [B7.block g0 hw.lt]; exact hw.at', hw.le, hw.cm, hw.size, hw.take⟩
            have BX : Below w.heap.size w WX := bnext hb B7 (Nat.le_refl _)
            have hwX : RwL WX g0 c0 Z.l cur := HWX
            have z2 := HX.c.cell 2 _ rfl
            have hlk : (Z.l.take k).length = k := by rw [List.length_take]; omega
            have hdk : (Z.l.drop (k + 1)).length = Z.l.length - (k + 1) := List.length_drop
            have hcap : Z.l.length ≤ c0 := hwX.le
            have hkc : k ≤ c0 := by omega
            have hkc' : (k : Int) ≤ (c0 : Int) := by omega
            have hk1a : (0 : Int) ≤ (k : Int) + 1 := by omega
            have hk1b : (k : Int) + 1 ≤ (Z.l.length : Int) := by omega
            have htn : ((k : Int) + 1).toNat = k + 1 := by omega
            obtain ⟨ad2, hif, had⟩ : ∃ ad2 : Addr, (if c0 = k + 1 then some (⟨g0, 0, none⟩ : Addr) else some ⟨g0, (k + 1) * 67, none⟩) = some ad2 ∧ (c0 ≠ k + 1 → ad2 = ⟨g0, (k + 1) * 67, none⟩) := by
              by_cases hc : c0 = k + 1
              · exact ⟨_, if_pos hc, fun h => absurd hc h⟩
              · exact ⟨_, if_neg hc, fun _ => rfl⟩
            have ncell : ∀ (u : World), Below WX.heap.size WX u → ∀ j x, (flN Z.l)[j]? = some x → u.cell? ⟨g0, j, none⟩ = some x := fun u hu j x hx => (Stp.of_below hu (fun _ => False)).cell (hwX.cells j x hx) id
            have nc1 : ∀ (u : World), Below WX.heap.size WX u → ∀ j x, (flN (Z.l.take k))[j]? = some x → u.cell? ((⟨g0, 0, none⟩ : Addr).add j) = some x := fun u hu j x hx => by
              rw [← flN_tk, List.getElem?_take] at hx
              rw [Addr.add_mid, Nat.zero_add]
              split at hx
              · exact ncell u hu j x hx
              · cases hx
            have nc2 : ∀ (u : World), Below WX.heap.size WX u → ∀ j x, (flN (Z.l.drop (k + 1)))[j]? = some x → u.cell? (ad2.add j) = some x := fun u hu j x hx => by
              rw [← flN_dp, List.getElem?_drop] at hx
              have hj := (List.getElem?_eq_some_iff.1 hx).1
              rw [flN_len] at hj
              have hc : c0 ≠ k + 1 := fun hc => by
                have : Z.l.length * 67 ≤ (k + 1) * 67 := Nat.mul_le_mul_right _ (by omega)
                omega
              rw [had hc, Addr.add_mid]
              exact ncell u hu _ x hx
            clear had
            go_wp2_with fail
            refine wp_region_last (S := fun u => u.cell? ⟨yc, 2, none⟩ = some (.slice (some ⟨g0, 0, none⟩) Z.l.length c0)) _ _ (by simp only [List.pop_toArray, List.dropLast_cons_cons, List.dropLast_singleton]; rfl) (by simp only [List.back?_toArray, List.getLast?_cons_cons, List.getLast?_singleton]; rfl) (by kernel_rfl) (by kernel_rfl) z2 (fun hHeld => ?_)
            refine wpAnyH_take (i := 0) (oi := { dst := some 50, op := Op.move (Operand.tmp 0), type := 37, pos := _, after := #[], guard := none }) (v := .pointer (some ⟨yc, 0, none⟩)) rfl (by kernel_rfl) (by kernel_rfl) (by kernel_rfl) (fun _ _ _ h => h) (Or.inl ⟨by rfl, ?_⟩) hHeld ?_
            · intro u hu
              go_simp
            try simp only [Act.put, List.setIfInBounds_toArray, List.set_cons_zero, List.set_cons_succ]
            refine wpAnyH_take (i := 2) (oi := { dst := some 52, op := Op.move (Operand.tmp 0), type := 37, pos := _, after := #[], guard := none }) (v := .pointer (some ⟨yc, 0, none⟩)) rfl (by kernel_rfl) (by kernel_rfl) (by kernel_rfl) (fun _ _ _ h => h) (Or.inl ⟨by rfl, ?_⟩) hHeld ?_
            · intro u hu
              go_simp
            try simp only [Act.put, List.setIfInBounds_toArray, List.set_cons_zero, List.set_cons_succ]
            refine wpAnyH_take (i := 3) (oi := { dst := some 53, op := Op.nilCheck (Operand.tmp 52), type := 0, pos := _, after := #[{ on := 2, ground := Ground.data }], guard := none }) (v := .pointer (some ⟨yc, 0, none⟩)) rfl (by kernel_rfl) (by kernel_rfl) (by kernel_rfl) (fun _ _ _ h => h) (Or.inl ⟨by rfl, ?_⟩) hHeld ?_
            · intro u hu
              go_simp
            try simp only [Act.put, List.setIfInBounds_toArray, List.set_cons_zero, List.set_cons_succ]
            refine wpAnyH_take (i := 4) (oi := { dst := some 54, op := Op.fieldAddr 49 (Operand.tmp 53) 2, type := 0, pos := _, after := #[{ on := 3, ground := Ground.data }], guard := none }) (v := .pointer (some ⟨yc, 2, none⟩)) rfl (by kernel_rfl) (by kernel_rfl) (by kernel_rfl) (fun _ _ _ h => h) (Or.inl ⟨by rfl, ?_⟩) hHeld ?_
            · intro u hu
              go_simp
            try simp only [Act.put, List.setIfInBounds_toArray, List.set_cons_zero, List.set_cons_succ]
            refine wpAnyH_take (i := 5) (oi := { dst := some 55, op := Op.load 47 (Operand.tmp 54), type := 47, pos := _, after := #[{ on := 4, ground := Ground.data }], guard := none }) (v := .slice (some ⟨g0, 0, none⟩) Z.l.length c0) rfl (by kernel_rfl) (by kernel_rfl) (by kernel_rfl) (fun _ _ _ h => h) (Or.inl ⟨by rfl, ?_⟩) hHeld ?_
            · intro u hu
              have x1 := hu; go_simp
            try simp only [Act.put, List.setIfInBounds_toArray, List.set_cons_zero, List.set_cons_succ]
            refine wpAnyH_take (i := 6) (oi := { dst := some 56, op := Op.move (Operand.tmp 3), type := 3, pos := _, after := #[], guard := none }) (v := .int .i64 (k : Int)) rfl (by kernel_rfl) (by kernel_rfl) (by kernel_rfl) (fun _ _ _ h => h) (Or.inl ⟨by rfl, ?_⟩) hHeld ?_
            · intro u hu
              go_simp
            try simp only [Act.put, List.setIfInBounds_toArray, List.set_cons_zero, List.set_cons_succ]
            refine wpAnyH_take (i := 7) (oi := { dst := some 57, op := Op.slice 47 (Operand.tmp 55) none (some (Operand.tmp 56)) none, type := 47, pos := _, after := #[{ on := 5, ground := Ground.data }, { on := 6, ground := Ground.data }], guard := none }) (v := .slice (some ⟨g0, 0, none⟩) (Z.l.take k).length c0) rfl (by kernel_rfl) (by kernel_rfl) (by kernel_rfl) (fun _ _ _ h => h) (Or.inl ⟨by rfl, ?_⟩) hHeld ?_
            · intro u hu
              rw [hlk]; clear hif; go_simp
            try simp only [Act.put, List.setIfInBounds_toArray, List.set_cons_zero, List.set_cons_succ]
            refine wpAnyH_take (i := 9) (oi := { dst := some 59, op := Op.move (Operand.tmp 0), type := 37, pos := _, after := #[], guard := none }) (v := .pointer (some ⟨yc, 0, none⟩)) rfl (by kernel_rfl) (by kernel_rfl) (by kernel_rfl) (fun _ _ _ h => h) (Or.inl ⟨by rfl, ?_⟩) hHeld ?_
            · intro u hu
              go_simp
            try simp only [Act.put, List.setIfInBounds_toArray, List.set_cons_zero, List.set_cons_succ]
            refine wpAnyH_take (i := 10) (oi := { dst := some 60, op := Op.nilCheck (Operand.tmp 59), type := 0, pos := _, after := #[{ on := 9, ground := Ground.data }], guard := none }) (v := .pointer (some ⟨yc, 0, none⟩)) rfl (by kernel_rfl) (by kernel_rfl) (by kernel_rfl) (fun _ _ _ h => h) (Or.inl ⟨by rfl, ?_⟩) hHeld ?_
            · intro u hu
              go_simp
            try simp only [Act.put, List.setIfInBounds_toArray, List.set_cons_zero, List.set_cons_succ]
            refine wpAnyH_take (i := 11) (oi := { dst := some 61, op := Op.fieldAddr 49 (Operand.tmp 60) 2, type := 0, pos := _, after := #[{ on := 10, ground := Ground.data }], guard := none }) (v := .pointer (some ⟨yc, 2, none⟩)) rfl (by kernel_rfl) (by kernel_rfl) (by kernel_rfl) (fun _ _ _ h => h) (Or.inl ⟨by rfl, ?_⟩) hHeld ?_
            · intro u hu
              go_simp
            try simp only [Act.put, List.setIfInBounds_toArray, List.set_cons_zero, List.set_cons_succ]
            refine wpAnyH_take (i := 12) (oi := { dst := some 62, op := Op.load 47 (Operand.tmp 61), type := 47, pos := _, after := #[{ on := 11, ground := Ground.data }], guard := none }) (v := .slice (some ⟨g0, 0, none⟩) Z.l.length c0) rfl (by kernel_rfl) (by kernel_rfl) (by kernel_rfl) (fun _ _ _ h => h) (Or.inl ⟨by rfl, ?_⟩) hHeld ?_
            · intro u hu
              have x1 := hu; go_simp
            try simp only [Act.put, List.setIfInBounds_toArray, List.set_cons_zero, List.set_cons_succ]
            refine wpAnyH_take (i := 13) (oi := { dst := some 63, op := Op.move (Operand.tmp 3), type := 3, pos := _, after := #[], guard := none }) (v := .int .i64 (k : Int)) rfl (by kernel_rfl) (by kernel_rfl) (by kernel_rfl) (fun _ _ _ h => h) (Or.inl ⟨by rfl, ?_⟩) hHeld ?_
            · intro u hu
              go_simp
            try simp only [Act.put, List.setIfInBounds_toArray, List.set_cons_zero, List.set_cons_succ]
            refine wpAnyH_take (i := 14) (oi := { dst := some 64, op := Op.binOp BinOp.add 3 (Operand.tmp 63) (Operand.const (Value.int IntKind.i64 1)) 3, type := 3, pos := _, after := #[{ on := 13, ground := Ground.data }], guard := none }) (v := .int .i64 ((k : Int) + 1)) rfl (by kernel_rfl) (by kernel_rfl) (by kernel_rfl) (fun _ _ _ h => h) (Or.inl ⟨by rfl, ?_⟩) hHeld ?_
            · intro u hu
              go_simp
            try simp only [Act.put, List.setIfInBounds_toArray, List.set_cons_zero, List.set_cons_succ]
            refine wpAnyH_take (i := 15) (oi := { dst := some 65, op := Op.slice 47 (Operand.tmp 62) (some (Operand.tmp 64)) none none, type := 47, pos := _, after := #[{ on := 12, ground := Ground.data }, { on := 14, ground := Ground.data }], guard := none }) (v := .slice (some ad2) (Z.l.drop (k + 1)).length (c0 - (k + 1))) rfl (by kernel_rfl) (by kernel_rfl) (by kernel_rfl) (fun _ _ _ h => h) (Or.inl ⟨by rfl, ?_⟩) hHeld ?_
            · intro u hu
              rw [hdk]; go_simp
            try simp only [Act.put, List.setIfInBounds_toArray, List.set_cons_zero, List.set_cons_succ]
            refine wpAnyH_ready (rs := [1]) (by kernel_rfl) (by simp) ?_
            refine (AllReadyH.cons (o := { dst := some 51, op := Op.buildSlice 47 0 #[], type := 47, pos := _, after := #[], guard := none }) rfl (fun K hK => ?_) AllReadyH.nil)
            refine step_bs0 rfl rfl ?_
            intro g1 v1 a1' l1' o1 b1'
            have B1' : Below WX.heap.size WX v1 := bnext ((Below.refl _ WX).drew) b1' (Nat.le_refl _)
            have hg1 : WX.heap.size ≤ g1 := a1'
            refine hK.out _ _ ((Stp.of_below B1' (fun _ => False)).cell z2 id) (fun hHeld => ?_)
            clear hK K
            try simp only [Act.put, List.setIfInBounds_toArray, List.set_cons_zero, List.set_cons_succ]
            refine wpAnyH_ready (rs := [8]) (by kernel_rfl) (by simp) ?_
            refine (AllReadyH.cons (o := { dst := some 58, op := Op.call { callee := Callee.builtin Builtin.append, args := #[Operand.tmp 51, Operand.tmp 57], argTypes := #[47, 47] }, type := 47, pos := _, after := #[{ on := 1, ground := Ground.data }, { on := 7, ground := Ground.data }], guard := none }) rfl (fun K hK => ?_) AllReadyH.nil)
            refine step_appO (v := .slice (some ⟨g1, 0, none⟩) 0 0) (B := WX.heap.size) (l := []) (l2 := Z.l.take k) rfl (.tmp 51) (.tmp 57) rfl rfl o1 (new_at hg1) (by simp) ⟨g0, 0, none⟩ c0 rfl (nc1 _ B1') (by simp; omega) B1'.size ?_
            intro g2 c2 v2 o2 ng2 s2
            have B2' : Below WX.heap.size WX v2 := ((Stp.of_below B1' (fun x => WX.heap.size ≤ x)).next s2 (fun x e => .inl (own_ge hg1 e))).below (Nat.le_refl _) (fun _ h => h)
            refine hK.out _ _ ((Stp.of_below B2' (fun _ => False)).cell z2 id) (fun hHeld => ?_)
            clear hK K
            try simp only [Act.put, List.setIfInBounds_toArray, List.set_cons_zero, List.set_cons_succ]
            refine wpAnyH_ready (rs := [16]) (by kernel_rfl) (by simp) ?_
            refine (AllReadyH.cons (o := { dst := some 66, op := Op.call { callee := Callee.builtin Builtin.append, args := #[Operand.tmp 58, Operand.tmp 65], argTypes := #[47, 47] }, type := 47, pos := _, after := #[{ on := 8, ground := Ground.data }, { on := 15, ground := Ground.data }, { on := 8, ground := Ground.chain }], guard := none }) rfl (fun K hK => ?_) AllReadyH.nil)
            refine step_appO (v := .slice (some ⟨g2, 0, none⟩) (([] : El).length + (Z.l.take k).length) c2) (B := WX.heap.size) (l := [] ++ Z.l.take k) (l2 := Z.l.drop (k + 1)) rfl (.tmp 58) (.tmp 65) rfl rfl o2 (new_at ng2) (by simp) ad2 (c0 - (k + 1)) rfl (nc2 _ B2') (by simp; omega) B2'.size ?_
            intro g3 c3 v3 o3 ng3 s3
            have B3' : Below WX.heap.size WX v3 := ((Stp.of_below B2' (fun x => WX.heap.size ≤ x)).next s3 (fun x e => .inl (own_ge ng2 e))).below (Nat.le_refl _) (fun _ h => h)
            refine hK.out _ _ ((Stp.of_below B3' (fun _ => False)).cell z2 id) (fun hHeld => ?_)
            clear hK K
            try simp only [Act.put, List.setIfInBounds_toArray, List.set_cons_zero, List.set_cons_succ]
            refine wpAnyH_take (i := 17) (oi := { dst := some 67, op := Op.nilCheck (Operand.tmp 50), type := 0, pos := _, after := #[{ on := 0, ground := Ground.data }, { on := 0, ground := Ground.phase }, { on := 1, ground := Ground.phase }, { on := 2, ground := Ground.phase }, { on := 3, ground := Ground.phase }, { on := 4, ground := Ground.phase }, { on := 5, ground := Ground.phase }, { on := 6, ground := Ground.phase }, { on := 7, ground := Ground.phase }, { on := 8, ground := Ground.phase }, { on := 9, ground := Ground.phase }, { on := 10, ground := Ground.phase }, { on := 11, ground := Ground.phase }, { on := 12, ground := Ground.phase }, { on := 13, ground := Ground.phase }, { on := 14, ground := Ground.phase }, { on := 15, ground := Ground.phase }, { on := 16, ground := Ground.phase }], guard := none }) (v := .pointer (some ⟨yc, 0, none⟩)) rfl (by kernel_rfl) (by kernel_rfl) (by kernel_rfl) (fun _ _ _ h => h) (Or.inl ⟨by rfl, ?_⟩) hHeld ?_
            · intro u hu
              go_simp
            try simp only [Act.put, List.setIfInBounds_toArray, List.set_cons_zero, List.set_cons_succ]
            refine wpAnyH_take (i := 18) (oi := { dst := some 68, op := Op.fieldAddr 49 (Operand.tmp 67) 2, type := 0, pos := _, after := #[{ on := 17, ground := Ground.data }, { on := 0, ground := Ground.phase }, { on := 1, ground := Ground.phase }, { on := 2, ground := Ground.phase }, { on := 3, ground := Ground.phase }, { on := 4, ground := Ground.phase }, { on := 5, ground := Ground.phase }, { on := 6, ground := Ground.phase }, { on := 7, ground := Ground.phase }, { on := 8, ground := Ground.phase }, { on := 9, ground := Ground.phase }, { on := 10, ground := Ground.phase }, { on := 11, ground := Ground.phase }, { on := 12, ground := Ground.phase }, { on := 13, ground := Ground.phase }, { on := 14, ground := Ground.phase }, { on := 15, ground := Ground.phase }, { on := 16, ground := Ground.phase }], guard := none }) (v := .pointer (some ⟨yc, 2, none⟩)) rfl (by kernel_rfl) (by kernel_rfl) (by kernel_rfl) (fun _ _ _ h => h) (Or.inl ⟨by rfl, ?_⟩) hHeld ?_
            · intro u hu
              go_simp
            try simp only [Act.put, List.setIfInBounds_toArray, List.set_cons_zero, List.set_cons_succ]
            refine wpAnyH_done (by kernel_rfl) ?_ _
            have hl3 : [] ++ Z.l.take k ++ Z.l.drop (k + 1) = rmv Z.l e.1 := by rw [List.nil_append]; exact hrm
            have o4 : OwL v3 (.slice (some ⟨g3, 0, none⟩) (([] ++ Z.l.take k).length + (Z.l.drop (k + 1)).length) c3) (rmv Z.l e.1) := by rw [← hl3]; exact o3
            have z3 := hHeld
            have f3 : v3.frozen? ⟨yc, 2, none⟩ = false := ((HX.c.later B3').frozen 2)
            obtain ⟨E', HF, sF, gF⟩ := HX.gone (i := e.1) B3' o4 (new_at ng3)
            show wpList _ _ _ [_] _ _
            refine wpList_skip (by rfl) rfl (w' := v3.setCell ⟨yc, 2, none⟩ (.slice (some ⟨g3, 0, none⟩) (([] ++ Z.l.take k).length + (Z.l.drop (k + 1)).length) c3)) (by go_simp) ?_
            clear hHeld z3 f3 o4 o3 o2 o1 hl3
            go_wp2_with fail
            go_returns

            exact ⟨by rw [hH.out.1]; rfl, RTo.pre ⟨s, _, E', R, by rw [hH.out.2]; exact HF, sF.mono (fun x e => .inl (.inl e)), gF, Grew.refl _ _ _⟩ BX⟩
          | true =>
            have hbE : Z.backE e.1 = useRes Z.d Z.p e.1 := by unfold CZ.backE bkE; rw [hfe]; simp [hch]
            have hbk : Z.back e.1 = Z.wrt e.1 e.2 := by unfold CZ.back; rw [hfe]; simp [hch]
            have hrE : Z.roomE = useRes Z.d Z.p e.1 := by unfold CZ.roomE; rw [if_neg hl, hv]; exact hbE
            go_wp2_with (first
              | (refine at_getO (by rfl) _ (by rfl) g0 (k * 67) (by rfl) e rk ?_)
              | (refine at_newO (by rfl) (by rfl) ?_; intro gx w6 a6 l6 r6 b6)
              | (refine at_putO (by rfl) _ _ (by rfl) gx (by rfl) e (by rfl) _ r6 ?_; intro w7 r7 s7
                 have B7 : Below wr.heap.size wr w7 := ((Stp.of_below b6 (fun x => wr.heap.size ≤ x)).next s7 (fun x e => .inl (e ▸ a6))).below (Nat.le_refl _) (fun _ h => h)
                 have x1 : w7.cell? ⟨gx, 66, none⟩ = some (.int .i64 0) := by have := onc_pn r7.range; rw [hp] at this; simpa using this
                 have x2 : w7.cell? ⟨gx, 65, none⟩ = some (.bool true) := by have := onc_ch r7.range; rw [hch] at this; simpa using this
                 clear r6 b6 s7))
            have H7 := H2.later B7
            have B70 : Below w.heap.size w w7 := bnext hb B7 (Nat.le_refl _)
            have hw7 : RwL w7 g0 c0 Z.l cur := ⟨by rw [B7.block g0 hw.lt]; exact hw.at', hw.le, hw.cm, hw.size, hw.take⟩
            have hW := fun u (hu : Below w7.heap.size w7 u) => rwrite_x (H7.later hu) ok ht e.1 e.2.b
            have rgb := onc_b r7.range
            have c7 := onc_at r7.range
            have q0 := H7.c.cell 0 _ rfl
            have hEg := H7.eo g0 rfl
            have hgx : ¬ (R gx ∨ gx = q) := fun e => by
              rcases e with e | e
              · have := H2.rd.lt gx e; omega
              · have := H2.qt; omega
            have far : ∀ x, E x → ¬ (R x ∨ x = q) := fun x hx e => by
              rcases e with e | e
              · exact H.er x hx e
              · exact H.eq (e ▸ hx)
            have hS7 : ∀ u, Stp (fun x => R x ∨ x = q) w7 u → (u.cell? ⟨yc, 0, none⟩ = some (.pointer (some ⟨y, 0, none⟩)) ∧ u.cell? ⟨gx, 0, none⟩ = some (.int .i64 e.1) ∧ u.rangeAt gx 1 e.2.b.cs) := fun u hu =>
              ⟨hu.cell q0 (far _ H.eg), hu.cell c7 hgx, by have := hu.range rgb hgx; simpa using this⟩
            clear y0 y1 y2 y3 y4 z0 z1 z2 z3 z4 y2D hS
            refine wp_region_held_drew (S := fun u => u.cell? ⟨yc, 0, none⟩ = some (.pointer (some ⟨y, 0, none⟩)) ∧ u.cell? ⟨gx, 0, none⟩ = some (.int .i64 e.1) ∧ u.rangeAt gx 1 e.2.b.cs) (by kernel_rfl) (hS7 _ (Stp.refl _ w7).drew) (fun hHeld => ?_)
            refine wpAnyH_take (i := 0) (oi := { dst := some 38, op := Op.move (Operand.tmp 0), type := 37, pos := _, after := #[], guard := none }) (v := .pointer (some ⟨yc, 0, none⟩)) rfl (by kernel_rfl) (by kernel_rfl) (by kernel_rfl) (fun _ _ _ h => h) (Or.inl ⟨by rfl, ?_⟩) hHeld ?_
            · intro u hu
              go_simp
            try simp only [Act.put, List.setIfInBounds_toArray, List.set_cons_zero, List.set_cons_succ]
            refine wpAnyH_take (i := 1) (oi := { dst := some 39, op := Op.nilCheck (Operand.tmp 38), type := 0, pos := _, after := #[{ on := 0, ground := Ground.data }], guard := none }) (v := .pointer (some ⟨yc, 0, none⟩)) rfl (by kernel_rfl) (by kernel_rfl) (by kernel_rfl) (fun _ _ _ h => h) (Or.inl ⟨by rfl, ?_⟩) hHeld ?_
            · intro u hu
              go_simp
            try simp only [Act.put, List.setIfInBounds_toArray, List.set_cons_zero, List.set_cons_succ]
            refine wpAnyH_take (i := 2) (oi := { dst := some 40, op := Op.fieldAddr 49 (Operand.tmp 39) 0, type := 0, pos := _, after := #[{ on := 1, ground := Ground.data }], guard := none }) (v := .pointer (some ⟨yc, 0, none⟩)) rfl (by kernel_rfl) (by kernel_rfl) (by kernel_rfl) (fun _ _ _ h => h) (Or.inl ⟨by rfl, ?_⟩) hHeld ?_
            · intro u hu
              go_simp
            try simp only [Act.put, List.setIfInBounds_toArray, List.set_cons_zero, List.set_cons_succ]
            refine wpAnyH_take (i := 3) (oi := { dst := some 41, op := Op.load 31 (Operand.tmp 40), type := 31, pos := _, after := #[{ on := 2, ground := Ground.data }], guard := none }) (v := .pointer (some ⟨y, 0, none⟩)) rfl (by kernel_rfl) (by kernel_rfl) (by kernel_rfl) (fun _ _ _ h => h) (Or.inl ⟨by rfl, ?_⟩) hHeld ?_
            · intro u hu
              have x1 := hu.1; go_simp
            try simp only [Act.put, List.setIfInBounds_toArray, List.set_cons_zero, List.set_cons_succ]
            refine wpAnyH_take (i := 4) (oi := { dst := some 42, op := Op.fieldAddr 82 (Operand.tmp 4) 0, type := 0, pos := _, after := #[], guard := none }) (v := .pointer (some ⟨gx, 0, none⟩)) rfl (by kernel_rfl) (by kernel_rfl) (by kernel_rfl) (fun _ _ _ h => h) (Or.inl ⟨by rfl, ?_⟩) hHeld ?_
            · intro u hu
              go_simp
            try simp only [Act.put, List.setIfInBounds_toArray, List.set_cons_zero, List.set_cons_succ]
            refine wpAnyH_take (i := 5) (oi := { dst := some 43, op := Op.load 3 (Operand.tmp 42), type := 3, pos := _, after := #[{ on := 4, ground := Ground.data }], guard := none }) (v := .int .i64 e.1) rfl (by kernel_rfl) (by kernel_rfl) (by kernel_rfl) (fun _ _ _ h => h) (Or.inl ⟨by rfl, ?_⟩) hHeld ?_
            · intro u hu
              have x1 := hu.2.1; go_simp
            try simp only [Act.put, List.setIfInBounds_toArray, List.set_cons_zero, List.set_cons_succ]
            refine wpAnyH_take (i := 6) (oi := { dst := some 44, op := Op.fieldAddr 82 (Operand.tmp 4) 1, type := 0, pos := _, after := #[], guard := none }) (v := .pointer (some ⟨gx, 1, none⟩)) rfl (by kernel_rfl) (by kernel_rfl) (by kernel_rfl) (fun _ _ _ h => h) (Or.inl ⟨by rfl, ?_⟩) hHeld ?_
            · intro u hu
              go_simp
            try simp only [Act.put, List.setIfInBounds_toArray, List.set_cons_zero, List.set_cons_succ]
            refine wpAnyH_take (i := 7) (oi := { dst := some 45, op := Op.load 42 (Operand.tmp 44), type := 42, pos := _, after := #[{ on := 6, ground := Ground.data }], guard := none }) (v := .agg e.2.b.cs.toArray) rfl (by kernel_rfl) (by kernel_rfl) (by kernel_rfl) (fun _ _ _ h => h)
              (yields_B (by rfl) _ (by rfl) gx 1 (by rfl) e.2.b (fun u hu => hu.2.2)) hHeld ?_
            try simp only [Act.put, List.setIfInBounds_toArray, List.set_cons_zero, List.set_cons_succ]
            refine wpAnyH_ready (rs := [8]) (by kernel_rfl) (by simp) ?_
            refine (AllReadyH.cons (o := { dst := some 46, op := Op.call { callee := Callee.value (Operand.func 55), args := #[Operand.tmp 41, Operand.tmp 43, Operand.tmp 45], argTypes := #[31, 3, 42] }, type := 28, pos := _, after := #[{ on := 3, ground := Ground.data }, { on := 5, ground := Ground.data }, { on := 7, ground := Ground.data }], guard := none }) rfl (fun K hK => ?_) AllReadyH.nil)
            go_simp
            refine (hW _ (Below.refl _ _).drew).mono ?_
            rintro e' WX ⟨rfl, s', R', HX, hk7, hg7⟩
            try go_wp2_with fail
            have hk8 : Stp (fun x => R x ∨ x = q) w7 WX := ((Stp.refl _ w7).drew).trans hk7
            refine hK.out _ _ (hS7 _ hk8) (fun hHeld => ?_)
            clear hK K
            try simp only [Act.put, List.setIfInBounds_toArray, List.set_cons_zero, List.set_cons_succ]
            refine wpAnyH_take (i := 9) (oi := { dst := some 5, op := Op.assign (Operand.tmp 46), type := 28, pos := _, after := #[{ on := 8, ground := Ground.data }, { on := 8, ground := Ground.chain }, { on := 0, ground := Ground.phase }, { on := 1, ground := Ground.phase }, { on := 2, ground := Ground.phase }, { on := 3, ground := Ground.phase }, { on := 4, ground := Ground.phase }, { on := 5, ground := Ground.phase }, { on := 6, ground := Ground.phase }, { on := 7, ground := Ground.phase }, { on := 8, ground := Ground.phase }], guard := none }) (v := .int .i64 (useRes Z.d Z.p e.1)) rfl (by kernel_rfl) (by kernel_rfl) (by kernel_rfl) (fun _ _ _ h => h) (Or.inl ⟨by rfl, ?_⟩) hHeld ?_
            · intro u hu
              go_simp
            try simp only [Act.put, List.setIfInBounds_toArray, List.set_cons_zero, List.set_cons_succ]
            refine wpAnyH_done (by kernel_rfl) ?_ _
            clear hHeld hS7 hW rgb c7 q0
            have S8 : Stp (Rl q E R) w7 WX := hk8.mono (fun x e => .inl (.inr e))
            by_cases hu : useRes Z.d Z.p e.1 = 0
            · have hH : Hid (Z.roomE = 0 ∧ Z.room = CZ.less { Z with d := Z.d.write Z.p e.1 e.2.b, p := useP Z.d Z.p e.1 } e.1) := by
                refine ⟨by rw [hrE, hu], ?_⟩
                unfold CZ.room
                rw [if_neg hl, hv]
                simp only [hbE, hu, if_true, hbk]
                unfold CZ.less CZ.wrt
                simp only [hu, if_true]
                rcases rmv_setP Z.l e.1 ⟨e.2.b, false, e.2.pn⟩ with h | h
                · rw [h]
                · exact absurd ok.nd h
              rw [hu]
              have HWX : RwL WX g0 c0 Z.l cur := ⟨by rw [hk8.block g0 hw7.lt (far _ hEg.1)]; exact hw7.at', hw.le, hw.cm, hw.size, hw.take⟩
              clear hu hrE hbE hbk hfe hv
              have hwX : RwL WX g0 c0 Z.l cur := HWX
              have z2 := HX.c.cell 2 _ rfl
              have hlk : (Z.l.take k).length = k := by rw [List.length_take]; omega
              have hdk : (Z.l.drop (k + 1)).length = Z.l.length - (k + 1) := List.length_drop
              have hcap : Z.l.length ≤ c0 := hwX.le
              have hkc : k ≤ c0 := by omega
              have hkc' : (k : Int) ≤ (c0 : Int) := by omega
              have hk1a : (0 : Int) ≤ (k : Int) + 1 := by omega
              have hk1b : (k : Int) + 1 ≤ (Z.l.length : Int) := by omega
              have htn : ((k : Int) + 1).toNat = k + 1 := by omega
              obtain ⟨ad2, hif, had⟩ : ∃ ad2 : Addr, (if c0 = k + 1 then some (⟨g0, 0, none⟩ : Addr) else some ⟨g0, (k + 1) * 67, none⟩) = some ad2 ∧ (c0 ≠ k + 1 → ad2 = ⟨g0, (k + 1) * 67, none⟩) := by
                by_cases hc : c0 = k + 1
                · exact ⟨_, if_pos hc, fun h => absurd hc h⟩
                · exact ⟨_, if_neg hc, fun _ => rfl⟩
              have ncell : ∀ (u : World), Below WX.heap.size WX u → ∀ j x, (flN Z.l)[j]? = some x → u.cell? ⟨g0, j, none⟩ = some x := fun u hu j x hx => (Stp.of_below hu (fun _ => False)).cell (hwX.cells j x hx) id
              have nc1 : ∀ (u : World), Below WX.heap.size WX u → ∀ j x, (flN (Z.l.take k))[j]? = some x → u.cell? ((⟨g0, 0, none⟩ : Addr).add j) = some x := fun u hu j x hx => by
                rw [← flN_tk, List.getElem?_take] at hx
                rw [Addr.add_mid, Nat.zero_add]
                split at hx
                · exact ncell u hu j x hx
                · cases hx
              have nc2 : ∀ (u : World), Below WX.heap.size WX u → ∀ j x, (flN (Z.l.drop (k + 1)))[j]? = some x → u.cell? (ad2.add j) = some x := fun u hu j x hx => by
                rw [← flN_dp, List.getElem?_drop] at hx
                have hj := (List.getElem?_eq_some_iff.1 hx).1
                rw [flN_len] at hj
                have hc : c0 ≠ k + 1 := fun hc => by
                  have : Z.l.length * 67 ≤ (k + 1) * 67 := Nat.mul_le_mul_right _ (by omega)
                  omega
                rw [had hc, Addr.add_mid]
                exact ncell u hu _ x hx
              clear had
              go_wp2_with fail
              refine wp_region_last (S := fun u => u.cell? ⟨yc, 2, none⟩ = some (.slice (some ⟨g0, 0, none⟩) Z.l.length c0)) _ _ (by simp only [List.pop_toArray, List.dropLast_cons_cons, List.dropLast_singleton]; rfl) (by simp only [List.back?_toArray, List.getLast?_cons_cons, List.getLast?_singleton]; rfl) (by kernel_rfl) (by kernel_rfl) z2 (fun hHeld => ?_)
              refine wpAnyH_take (i := 0) (oi := { dst := some 50, op := Op.move (Operand.tmp 0), type := 37, pos := _, after := #[], guard := none }) (v := .pointer (some ⟨yc, 0, none⟩)) rfl (by kernel_rfl) (by kernel_rfl) (by kernel_rfl) (fun _ _ _ h => h) (Or.inl ⟨by rfl, ?_⟩) hHeld ?_
              · intro u hu
                go_simp
              try simp only [Act.put, List.setIfInBounds_toArray, List.set_cons_zero, List.set_cons_succ]
              refine wpAnyH_take (i := 2) (oi := { dst := some 52, op := Op.move (Operand.tmp 0), type := 37, pos := _, after := #[], guard := none }) (v := .pointer (some ⟨yc, 0, none⟩)) rfl (by kernel_rfl) (by kernel_rfl) (by kernel_rfl) (fun _ _ _ h => h) (Or.inl ⟨by rfl, ?_⟩) hHeld ?_
              · intro u hu
                go_simp
              try simp only [Act.put, List.setIfInBounds_toArray, List.set_cons_zero, List.set_cons_succ]
              refine wpAnyH_take (i := 3) (oi := { dst := some 53, op := Op.nilCheck (Operand.tmp 52), type := 0, pos := _, after := #[{ on := 2, ground := Ground.data }], guard := none }) (v := .pointer (some ⟨yc, 0, none⟩)) rfl (by kernel_rfl) (by kernel_rfl) (by kernel_rfl) (fun _ _ _ h => h) (Or.inl ⟨by rfl, ?_⟩) hHeld ?_
              · intro u hu
                go_simp
              try simp only [Act.put, List.setIfInBounds_toArray, List.set_cons_zero, List.set_cons_succ]
              refine wpAnyH_take (i := 4) (oi := { dst := some 54, op := Op.fieldAddr 49 (Operand.tmp 53) 2, type := 0, pos := _, after := #[{ on := 3, ground := Ground.data }], guard := none }) (v := .pointer (some ⟨yc, 2, none⟩)) rfl (by kernel_rfl) (by kernel_rfl) (by kernel_rfl) (fun _ _ _ h => h) (Or.inl ⟨by rfl, ?_⟩) hHeld ?_
              · intro u hu
                go_simp
              try simp only [Act.put, List.setIfInBounds_toArray, List.set_cons_zero, List.set_cons_succ]
              refine wpAnyH_take (i := 5) (oi := { dst := some 55, op := Op.load 47 (Operand.tmp 54), type := 47, pos := _, after := #[{ on := 4, ground := Ground.data }], guard := none }) (v := .slice (some ⟨g0, 0, none⟩) Z.l.length c0) rfl (by kernel_rfl) (by kernel_rfl) (by kernel_rfl) (fun _ _ _ h => h) (Or.inl ⟨by rfl, ?_⟩) hHeld ?_
              · intro u hu
                have x1 := hu; go_simp
              try simp only [Act.put, List.setIfInBounds_toArray, List.set_cons_zero, List.set_cons_succ]
              refine wpAnyH_take (i := 6) (oi := { dst := some 56, op := Op.move (Operand.tmp 3), type := 3, pos := _, after := #[], guard := none }) (v := .int .i64 (k : Int)) rfl (by kernel_rfl) (by kernel_rfl) (by kernel_rfl) (fun _ _ _ h => h) (Or.inl ⟨by rfl, ?_⟩) hHeld ?_
              · intro u hu
                go_simp
              try simp only [Act.put, List.setIfInBounds_toArray, List.set_cons_zero, List.set_cons_succ]
              refine wpAnyH_take (i := 7) (oi := { dst := some 57, op := Op.slice 47 (Operand.tmp 55) none (some (Operand.tmp 56)) none, type := 47, pos := _, after := #[{ on := 5, ground := Ground.data }, { on := 6, ground := Ground.data }], guard := none }) (v := .slice (some ⟨g0, 0, none⟩) (Z.l.take k).length c0) rfl (by kernel_rfl) (by kernel_rfl) (by kernel_rfl) (fun _ _ _ h => h) (Or.inl ⟨by rfl, ?_⟩) hHeld ?_
              · intro u hu
                rw [hlk]; clear hif; go_simp
              try simp only [Act.put, List.setIfInBounds_toArray, List.set_cons_zero, List.set_cons_succ]
              refine wpAnyH_take (i := 9) (oi := { dst := some 59, op := Op.move (Operand.tmp 0), type := 37, pos := _, after := #[], guard := none }) (v := .pointer (some ⟨yc, 0, none⟩)) rfl (by kernel_rfl) (by kernel_rfl) (by kernel_rfl) (fun _ _ _ h => h) (Or.inl ⟨by rfl, ?_⟩) hHeld ?_
              · intro u hu
                go_simp
              try simp only [Act.put, List.setIfInBounds_toArray, List.set_cons_zero, List.set_cons_succ]
              refine wpAnyH_take (i := 10) (oi := { dst := some 60, op := Op.nilCheck (Operand.tmp 59), type := 0, pos := _, after := #[{ on := 9, ground := Ground.data }], guard := none }) (v := .pointer (some ⟨yc, 0, none⟩)) rfl (by kernel_rfl) (by kernel_rfl) (by kernel_rfl) (fun _ _ _ h => h) (Or.inl ⟨by rfl, ?_⟩) hHeld ?_
              · intro u hu
                go_simp
              try simp only [Act.put, List.setIfInBounds_toArray, List.set_cons_zero, List.set_cons_succ]
              refine wpAnyH_take (i := 11) (oi := { dst := some 61, op := Op.fieldAddr 49 (Operand.tmp 60) 2, type := 0, pos := _, after := #[{ on := 10, ground := Ground.data }], guard := none }) (v := .pointer (some ⟨yc, 2, none⟩)) rfl (by kernel_rfl) (by kernel_rfl) (by kernel_rfl) (fun _ _ _ h => h) (Or.inl ⟨by rfl, ?_⟩) hHeld ?_
              · intro u hu
                go_simp
              try simp only [Act.put, List.setIfInBounds_toArray, List.set_cons_zero, List.set_cons_succ]
              refine wpAnyH_take (i := 12) (oi := { dst := some 62, op := Op.load 47 (Operand.tmp 61), type := 47, pos := _, after := #[{ on := 11, ground := Ground.data }], guard := none }) (v := .slice (some ⟨g0, 0, none⟩) Z.l.length c0) rfl (by kernel_rfl) (by kernel_rfl) (by kernel_rfl) (fun _ _ _ h => h) (Or.inl ⟨by rfl, ?_⟩) hHeld ?_
              · intro u hu
                have x1 := hu; go_simp
              try simp only [Act.put, List.setIfInBounds_toArray, List.set_cons_zero, List.set_cons_succ]
              refine wpAnyH_take (i := 13) (oi := { dst := some 63, op := Op.move (Operand.tmp 3), type := 3, pos := _, after := #[], guard := none }) (v := .int .i64 (k : Int)) rfl (by kernel_rfl) (by kernel_rfl) (by kernel_rfl) (fun _ _ _ h => h) (Or.inl ⟨by rfl, ?_⟩) hHeld ?_
              · intro u hu
                go_simp
              try simp only [Act.put, List.setIfInBounds_toArray, List.set_cons_zero, List.set_cons_succ]
              refine wpAnyH_take (i := 14) (oi := { dst := some 64, op := Op.binOp BinOp.add 3 (Operand.tmp 63) (Operand.const (Value.int IntKind.i64 1)) 3, type := 3, pos := _, after := #[{ on := 13, ground := Ground.data }], guard := none }) (v := .int .i64 ((k : Int) + 1)) rfl (by kernel_rfl) (by kernel_rfl) (by kernel_rfl) (fun _ _ _ h => h) (Or.inl ⟨by rfl, ?_⟩) hHeld ?_
              · intro u hu
                go_simp
              try simp only [Act.put, List.setIfInBounds_toArray, List.set_cons_zero, List.set_cons_succ]
              refine wpAnyH_take (i := 15) (oi := { dst := some 65, op := Op.slice 47 (Operand.tmp 62) (some (Operand.tmp 64)) none none, type := 47, pos := _, after := #[{ on := 12, ground := Ground.data }, { on := 14, ground := Ground.data }], guard := none }) (v := .slice (some ad2) (Z.l.drop (k + 1)).length (c0 - (k + 1))) rfl (by kernel_rfl) (by kernel_rfl) (by kernel_rfl) (fun _ _ _ h => h) (Or.inl ⟨by rfl, ?_⟩) hHeld ?_
              · intro u hu
                rw [hdk]; go_simp
              try simp only [Act.put, List.setIfInBounds_toArray, List.set_cons_zero, List.set_cons_succ]
              refine wpAnyH_ready (rs := [1]) (by kernel_rfl) (by simp) ?_
              refine (AllReadyH.cons (o := { dst := some 51, op := Op.buildSlice 47 0 #[], type := 47, pos := _, after := #[], guard := none }) rfl (fun K hK => ?_) AllReadyH.nil)
              refine step_bs0 rfl rfl ?_
              intro g1 v1 a1' l1' o1 b1'
              have B1' : Below WX.heap.size WX v1 := bnext ((Below.refl _ WX).drew) b1' (Nat.le_refl _)
              have hg1 : WX.heap.size ≤ g1 := a1'
              refine hK.out _ _ ((Stp.of_below B1' (fun _ => False)).cell z2 id) (fun hHeld => ?_)
              clear hK K
              try simp only [Act.put, List.setIfInBounds_toArray, List.set_cons_zero, List.set_cons_succ]
              refine wpAnyH_ready (rs := [8]) (by kernel_rfl) (by simp) ?_
              refine (AllReadyH.cons (o := { dst := some 58, op := Op.call { callee := Callee.builtin Builtin.append, args := #[Operand.tmp 51, Operand.tmp 57], argTypes := #[47, 47] }, type := 47, pos := _, after := #[{ on := 1, ground := Ground.data }, { on := 7, ground := Ground.data }], guard := none }) rfl (fun K hK => ?_) AllReadyH.nil)
              refine step_appO (v := .slice (some ⟨g1, 0, none⟩) 0 0) (B := WX.heap.size) (l := []) (l2 := Z.l.take k) rfl (.tmp 51) (.tmp 57) rfl rfl o1 (new_at hg1) (by simp) ⟨g0, 0, none⟩ c0 rfl (nc1 _ B1') (by simp; omega) B1'.size ?_
              intro g2 c2 v2 o2 ng2 s2
              have B2' : Below WX.heap.size WX v2 := ((Stp.of_below B1' (fun x => WX.heap.size ≤ x)).next s2 (fun x e => .inl (own_ge hg1 e))).below (Nat.le_refl _) (fun _ h => h)
              refine hK.out _ _ ((Stp.of_below B2' (fun _ => False)).cell z2 id) (fun hHeld => ?_)
              clear hK K
              try simp only [Act.put, List.setIfInBounds_toArray, List.set_cons_zero, List.set_cons_succ]
              refine wpAnyH_ready (rs := [16]) (by kernel_rfl) (by simp) ?_
              refine (AllReadyH.cons (o := { dst := some 66, op := Op.call { callee := Callee.builtin Builtin.append, args := #[Operand.tmp 58, Operand.tmp 65], argTypes := #[47, 47] }, type := 47, pos := _, after := #[{ on := 8, ground := Ground.data }, { on := 15, ground := Ground.data }, { on := 8, ground := Ground.chain }], guard := none }) rfl (fun K hK => ?_) AllReadyH.nil)
              refine step_appO (v := .slice (some ⟨g2, 0, none⟩) (([] : El).length + (Z.l.take k).length) c2) (B := WX.heap.size) (l := [] ++ Z.l.take k) (l2 := Z.l.drop (k + 1)) rfl (.tmp 58) (.tmp 65) rfl rfl o2 (new_at ng2) (by simp) ad2 (c0 - (k + 1)) rfl (nc2 _ B2') (by simp; omega) B2'.size ?_
              intro g3 c3 v3 o3 ng3 s3
              have B3' : Below WX.heap.size WX v3 := ((Stp.of_below B2' (fun x => WX.heap.size ≤ x)).next s3 (fun x e => .inl (own_ge ng2 e))).below (Nat.le_refl _) (fun _ h => h)
              refine hK.out _ _ ((Stp.of_below B3' (fun _ => False)).cell z2 id) (fun hHeld => ?_)
              clear hK K
              try simp only [Act.put, List.setIfInBounds_toArray, List.set_cons_zero, List.set_cons_succ]
              refine wpAnyH_take (i := 17) (oi := { dst := some 67, op := Op.nilCheck (Operand.tmp 50), type := 0, pos := _, after := #[{ on := 0, ground := Ground.data }, { on := 0, ground := Ground.phase }, { on := 1, ground := Ground.phase }, { on := 2, ground := Ground.phase }, { on := 3, ground := Ground.phase }, { on := 4, ground := Ground.phase }, { on := 5, ground := Ground.phase }, { on := 6, ground := Ground.phase }, { on := 7, ground := Ground.phase }, { on := 8, ground := Ground.phase }, { on := 9, ground := Ground.phase }, { on := 10, ground := Ground.phase }, { on := 11, ground := Ground.phase }, { on := 12, ground := Ground.phase }, { on := 13, ground := Ground.phase }, { on := 14, ground := Ground.phase }, { on := 15, ground := Ground.phase }, { on := 16, ground := Ground.phase }], guard := none }) (v := .pointer (some ⟨yc, 0, none⟩)) rfl (by kernel_rfl) (by kernel_rfl) (by kernel_rfl) (fun _ _ _ h => h) (Or.inl ⟨by rfl, ?_⟩) hHeld ?_
              · intro u hu
                go_simp
              try simp only [Act.put, List.setIfInBounds_toArray, List.set_cons_zero, List.set_cons_succ]
              refine wpAnyH_take (i := 18) (oi := { dst := some 68, op := Op.fieldAddr 49 (Operand.tmp 67) 2, type := 0, pos := _, after := #[{ on := 17, ground := Ground.data }, { on := 0, ground := Ground.phase }, { on := 1, ground := Ground.phase }, { on := 2, ground := Ground.phase }, { on := 3, ground := Ground.phase }, { on := 4, ground := Ground.phase }, { on := 5, ground := Ground.phase }, { on := 6, ground := Ground.phase }, { on := 7, ground := Ground.phase }, { on := 8, ground := Ground.phase }, { on := 9, ground := Ground.phase }, { on := 10, ground := Ground.phase }, { on := 11, ground := Ground.phase }, { on := 12, ground := Ground.phase }, { on := 13, ground := Ground.phase }, { on := 14, ground := Ground.phase }, { on := 15, ground := Ground.phase }, { on := 16, ground := Ground.phase }], guard := none }) (v := .pointer (some ⟨yc, 2, none⟩)) rfl (by kernel_rfl) (by kernel_rfl) (by kernel_rfl) (fun _ _ _ h => h) (Or.inl ⟨by rfl, ?_⟩) hHeld ?_
              · intro u hu
                go_simp
              try simp only [Act.put, List.setIfInBounds_toArray, List.set_cons_zero, List.set_cons_succ]
              refine wpAnyH_done (by kernel_rfl) ?_ _
              have hl3 : [] ++ Z.l.take k ++ Z.l.drop (k + 1) = rmv Z.l e.1 := by rw [List.nil_append]; exact hrm
              have o4 : OwL v3 (.slice (some ⟨g3, 0, none⟩) (([] ++ Z.l.take k).length + (Z.l.drop (k + 1)).length) c3) (rmv Z.l e.1) := by rw [← hl3]; exact o3
              have z3 := hHeld
              have f3 : v3.frozen? ⟨yc, 2, none⟩ = false := ((HX.c.later B3').frozen 2)
              obtain ⟨E', HF, sF, gF⟩ := HX.gone (i := e.1) B3' o4 (new_at ng3)
              show wpList _ _ _ [_] _ _
              refine wpList_skip (by rfl) rfl (w' := v3.setCell ⟨yc, 2, none⟩ (.slice (some ⟨g3, 0, none⟩) (([] ++ Z.l.take k).length + (Z.l.drop (k + 1)).length) c3)) (by go_simp) ?_
              clear hHeld z3 f3 o4 o3 o2 o1 hl3
              go_wp2_with fail
              go_returns

              exact ⟨by rw [hH.out.1]; rfl, RTo.pre (RTo.mk' S8 ⟨s', _, E', R', by rw [hH.out.2]; exact HF, sF.mono (fun x e => .inl (.inl e)), gF, Grew.refl _ _ _⟩ (Grew.refl _ _ _) hg7) B70⟩
            · have hH : Hid (Z.roomE = useRes Z.d Z.p e.1 ∧ Z.room = { Z with d := Z.d.write Z.p e.1 e.2.b, p := useP Z.d Z.p e.1 }) := by
                refine ⟨hrE, ?_⟩
                unfold CZ.room
                rw [if_neg hl, hv]
                simp only [hbE, hu, if_false, hbk]
                unfold CZ.wrt
                rw [if_neg hu]
              clear hrE hbE hbk hfe hv
              go_wp2
              go_returns
              exact ⟨by rw [hH.out.1]; rfl, RTo.pre ⟨s', _, E, R', by rw [hH.out.2]; exact HX, S8, Grew.refl _ _ _, hg7⟩ B70⟩
        · have hp' : 0 < e.2.pn := by omega
          have hH : Hid (oldN Z.l Z.l.length = oldN Z.l k) := by show _ = _; rw [hk2, ho2, if_neg hp]
          clear hvk ho2 ho hk2
          go_wp2_with (first
            | (refine at_getO (by rfl) _ (by rfl) g0 (k * 67) (by rfl) e rk ?_)
            | (refine at_newO (by rfl) (by rfl) ?_; intro gx w6 a6 l6 r6 b6)
            | (refine at_putO (by rfl) _ _ (by rfl) gx (by rfl) e (by rfl) _ r6 ?_; intro w7 r7 s7
               have B7 : Below wr.heap.size wr w7 := ((Stp.of_below b6 (fun x => wr.heap.size ≤ x)).next s7 (fun x e => .inl (e ▸ a6))).below (Nat.le_refl _) (fun _ h => h)
               have x1 : w7.cell? ⟨gx, 66, none⟩ = some (.int .i64 e.2.pn) := by have := onc_pn r7.range; simpa using this
               clear r6 b6 s7))
          go_roundw
          case rel => exact ⟨k, by omega, by go_num, hH.out, bnext hb B7 (Nat.le_refl _)⟩
          case measure => simp [intOf]
end Go.Proofs.Ytecedklfdmbnpaa
