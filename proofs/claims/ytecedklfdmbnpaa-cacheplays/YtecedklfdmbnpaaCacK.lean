/-
  The cache, its disk and its supply as one object, and what each call makes of it; two slices of ints held against each other: no statement is proved here.
-/
import Derived.Test.YtecedklfdmbnpaaCacJ
namespace Go.Proofs.Ytecedklfdmbnpaa
open Go.ChangeShapes Go.WideShapes Go.ChangeAt Go.RowKit
set_option linter.unusedVariables false
set_option linter.unusedSimpArgs false

/-- The cache at gc, of the disk at g, whose supply is sp; U: all that they take. -/
def Ca (u : World) (gc g : Nat) (sp : Value) (Z : CZ) (U : Nat → Prop) : Prop := ∃ mp ov f E F G, Cx u gc g sp Z mp ov f E F G ∧ ∀ x, U x ↔ Al E F G x
/-- From w to w' it came to Z'. -/
def Goes (gc g : Nat) (sp : Value) (Z' : CZ) (U : Nat → Prop) (w w' : World) : Prop := ∃ U', Ca w' gc g sp Z' U' ∧ Stp U w w' ∧ Grew U U' w w'
section
variable {u u' : World} {gc g : Nat} {sp : Value} {Z Z' : CZ} {U B : Nat → Prop} {t : Nat}
theorem Ca.lt (h : Ca u gc g sp Z U) : ∀ x, U x → x < u.heap.size := by
  obtain ⟨mp, ov, f, E, F, G, H, hU⟩ := h
  intro x hx
  exact Nat.lt_of_not_le (fun hl => H.far x hl ((hU x).1 hx))
theorem Ca.step (h : Ca u gc g sp Z U) (k : Stp B u u') (hB : ∀ x, U x → ¬ B x) : Ca u' gc g sp Z U := by
  obtain ⟨mp, ov, f, E, F, G, H, hU⟩ := h
  exact ⟨mp, ov, f, E, F, G, H.step k (fun x hx => hB x ((hU x).2 (.inl hx))) (fun x hx => hB x ((hU x).2 (.inr (.inl hx)))) (fun x hx => hB x ((hU x).2 (.inr (.inr hx)))), hU⟩
theorem Ca.later (h : Ca u gc g sp Z U) (k : Below u.heap.size u u') : Ca u' gc g sp Z U := h.step (Stp.of_below k (fun _ => False)) (fun _ _ => id)
theorem to_goes {mp : Nat} {E F G : Nat → Prop} (h : To gc g mp sp E F G Z' u u') (hU : ∀ x, U x ↔ Al E F G x) : Goes gc g sp Z' U u u' := by
  obtain ⟨ov', f', E', F', h1, h2, h3, h4⟩ := h
  refine ⟨Al E' F' G, ⟨mp, ov', f', E', F', G, h1, fun _ => Iff.rfl⟩, h2.mono (fun x hx => .inl ((hU x).2 hx)), fun x hx => ?_⟩
  rcases Al.grew h3 h4 x hx with e | e
  · exact .inl ((hU x).2 e)
  · exact .inr e
theorem Ca.n2 (h : Ca u gc g sp Z U) : Z.d.n ≤ 2048 := by
  obtain ⟨mp, ov, f, E, F, G, H, hU⟩ := h
  exact H.dd.d.ok.n2
theorem get_ca (h : Ca u gc g sp Z U) (ok : Z.ok t) (ht : t ≤ 9000) (i : Int) (hi : (Lit.int .i64 i).wf = true) :
    Calls Try.prog 28 #[.pointer (some ⟨gc, 0, none⟩), .int .i64 i] u fun e u' => e = .returned (.tuple #[.agg (Z.got i).cs.toArray, .int .i64 (Z.holdE i)]) ∧ Goes gc g sp (Z.hold i) U u u' := by
  obtain ⟨mp, ov, f, E, F, G, H, hU⟩ := h
  exact (get_any H ok (by omega) i hi).mono (fun e u' ⟨h1, h2⟩ => ⟨h1, to_goes h2 hU⟩)
theorem put_ca (h : Ca u gc g sp Z U) (ok : Z.ok t) (ht : t ≤ 9000) (i : Int) (hi : (Lit.int .i64 i).wf = true) (b : Blk) :
    Calls Try.prog 24 #[.pointer (some ⟨gc, 0, none⟩), .int .i64 i, .agg b.cs.toArray] u fun e u' => e = .returned (.int .i64 (Z.holdE i)) ∧ Goes gc g sp (Z.put i b) U u u' := by
  obtain ⟨mp, ov, f, E, F, G, H, hU⟩ := h
  exact (put_any H ok (by omega) i hi b).mono (fun e u' ⟨h1, h2⟩ => ⟨h1, to_goes h2 hU⟩)
theorem force_ca (h : Ca u gc g sp Z U) (ok : Z.ok t) (ht : t ≤ 9000) (i : Int) (hi : (Lit.int .i64 i).wf = true) (b : Blk) :
    Calls Try.prog 25 #[.pointer (some ⟨gc, 0, none⟩), .int .i64 i, .agg b.cs.toArray] u fun e u' => e = .returned (.int .i64 (Z.forceE i)) ∧ Goes gc g sp (Z.force i b) U u u' := by
  obtain ⟨mp, ov, f, E, F, G, H, hU⟩ := h
  exact (cforce_any H ok (by omega) i hi b).mono (fun e u' ⟨h1, h2⟩ => ⟨h1, to_goes h2 hU⟩)
theorem pin_ca (h : Ca u gc g sp Z U) (i : Int) (hi : (Lit.int .i64 i).wf = true) :
    Calls Try.prog 30 #[.pointer (some ⟨gc, 0, none⟩), .int .i64 i] u fun e u' => e = .returned (.int .i64 (Z.pinE i)) ∧ Goes gc g sp (Z.pin i) U u u' := by
  obtain ⟨mp, ov, f, E, F, G, H, hU⟩ := h
  exact (pin_any H i hi).mono (fun e u' ⟨h1, h2⟩ => ⟨h1, to_goes h2 hU⟩)
theorem unpin_ca (h : Ca u gc g sp Z U) (i : Int) (hi : (Lit.int .i64 i).wf = true) :
    Calls Try.prog 31 #[.pointer (some ⟨gc, 0, none⟩), .int .i64 i] u fun e u' => e = .returned (.int .i64 (Z.unpinE i)) ∧ Goes gc g sp (Z.unpin i) U u u' := by
  obtain ⟨mp, ov, f, E, F, G, H, hU⟩ := h
  exact (unpin_any H i hi).mono (fun e u' ⟨h1, h2⟩ => ⟨h1, to_goes h2 hU⟩)
theorem back_ca (h : Ca u gc g sp Z U) (ok : Z.ok t) (ht : t ≤ 9000) (i : Int) (hi : (Lit.int .i64 i).wf = true) :
    Calls Try.prog 26 #[.pointer (some ⟨gc, 0, none⟩), .int .i64 i] u fun e u' => e = .returned (.int .i64 (Z.backE i)) ∧ Goes gc g sp (Z.back i) U u u' := by
  obtain ⟨mp, ov, f, E, F, G, H, hU⟩ := h
  exact (back_any H ok (by omega) i hi).mono (fun e u' ⟨h1, F', h2, h3, h4⟩ => ⟨h1, to_goes ⟨ov, f, E, F', h2, h3, Grew.refl _ _ _, h4⟩ hU⟩)
theorem sync_ca (h : Ca u gc g sp Z U) (ok : Z.ok t) (ht : t ≤ 9000) :
    Calls Try.prog 27 #[.pointer (some ⟨gc, 0, none⟩)] u fun e u' => e = .returned (.int .i64 (CZ.syncL Z.chg Z).1) ∧ Goes gc g sp (CZ.syncL Z.chg Z).2 U u u' := by
  obtain ⟨mp, ov, f, E, F, G, H, hU⟩ := h
  exact (sync_any H ok ht).mono (fun e u' ⟨h1, h2⟩ => ⟨h1, to_goes h2 hU⟩)
theorem drop_ca (h : Ca u gc g sp Z U) :
    Calls Try.prog 29 #[.pointer (some ⟨gc, 0, none⟩)] u fun e u' => e = .returned (.tuple #[]) ∧ Goes gc g sp Z.drop U u u' := by
  obtain ⟨mp, ov, f, E, F, G, H, hU⟩ := h
  exact (drop_any H).mono (fun e u' ⟨h1, h2⟩ => ⟨h1, to_goes h2 hU⟩)
theorem held_ca (h : Ca u gc g sp Z U) (ok : Z.ok t) :
    Calls Try.prog 15 #[.pointer (some ⟨gc, 0, none⟩)] u fun e u' => ∃ v', e = .returned v' ∧ OwV u' v' (keys Z.l) ∧ Below u.heap.size u u' := by
  obtain ⟨mp, ov, f, E, F, G, H, hU⟩ := h
  exact (held_any H ok).mono (fun e u' ⟨v', h1, h2, h3, h4⟩ => ⟨v', h1, h2, h4⟩)
theorem changed_ca (h : Ca u gc g sp Z U) (ok : Z.ok t) :
    Calls Try.prog 17 #[.pointer (some ⟨gc, 0, none⟩)] u fun e u' => ∃ v', e = .returned v' ∧ OwV u' v' Z.chg ∧ Below u.heap.size u u' := by
  obtain ⟨mp, ov, f, E, F, G, H, hU⟩ := h
  exact (changed_any H ok).mono (fun e u' ⟨v', h1, h2, h3, h4⟩ => ⟨v', h1, h2, h4⟩)
theorem counts_ca (h : Ca u gc g sp Z U) :
    Calls Try.prog 13 #[.pointer (some ⟨gc, 0, none⟩)] u fun e u' => e = .returned (.tuple #[.int .i64 Z.h, .int .i64 Z.m]) ∧ Below u.heap.size u u' := by
  obtain ⟨mp, ov, f, E, F, G, H, hU⟩ := h
  exact counts_any H
theorem read_ca (h : Ca u gc g sp Z U) (i : Int) (hi : (Lit.int .i64 i).wf = true) :
    Calls Try.prog 20 #[.pointer (some ⟨g, 0, none⟩), .int .i64 i] u fun e u' => e = .returned (.tuple #[.agg (Z.d.shown i).cs.toArray, .int .i64 (checkErr Z.d i)]) ∧ Below u.heap.size u u' := by
  obtain ⟨mp, ov, f, E, F, G, H, hU⟩ := h
  exact read_any H.dd.d i hi
theorem cnew_ca {d : DS} {p : Option PS} {F G : Nat → Prop} (hd : DD u g sp d p F G) (n : Nat) (h1 : 1 ≤ n) (h2 : n ≤ 64) :
    Calls Try.prog 10 #[.pointer (some ⟨g, 0, none⟩), .int .i64 (n : Int)] u fun e u' => ∃ gc U, e = .returned (.tuple #[.pointer (some ⟨gc, 0, none⟩), .int .i64 0]) ∧ Ca u' gc g sp (CZ.new d p n) U ∧ Below u.heap.size u u' ∧ (∀ x, U x → F x ∨ G x ∨ u.heap.size ≤ x) :=
  (cnew_good hd n h1 h2).mono (fun e u' ⟨gc, mp, E, h1, h2, h3, h4⟩ => ⟨gc, Al E F G, h1, ⟨mp, _, _, E, F, G, h2, fun _ => Iff.rfl⟩, h3, fun x hx => by
    rcases hx with e | e | e
    · exact .inr (.inr (h4 x e))
    · exact .inl e
    · exact .inr (.inl e)⟩)
end
/-- Two slices of ints, held against each other. -/
theorem same_any {w : World} {v1 v2 : Value} {l1 l2 : List Int} (h1 : OwV w v1 l1) (h2 : OwV w v2 l2) (hl : l1.length ≤ 1000000) :
    Calls Try.prog 14 #[v1, v2] w fun e w' => e = .returned (.bool (decide (l1 = l2))) ∧ Below w.heap.size w w' := by
  obtain ⟨a1, c1, rfl⟩ : ∃ a c, v1 = .slice a l1.length c := by
    rcases h1.row with ⟨e, e2⟩ | ⟨g0, cap, cur, e, _⟩
    · exact ⟨_, _, by rw [e2]; exact e⟩
    · exact ⟨_, _, e⟩
  obtain ⟨a2, c2, rfl⟩ : ∃ a c, v2 = .slice a l2.length c := by
    rcases h2.row with ⟨e, e2⟩ | ⟨g0, cap, cur, e, _⟩
    · exact ⟨_, _, by rw [e2]; exact e⟩
    · exact ⟨_, _, e⟩
  by_cases hlen : l1.length = l2.length
  · generalize hm0 : l2.length = m at h2 hlen ⊢
    subst hlen
    have hm : Hid (l2.length = l1.length) := hm0
    clear hm0
    go_enter Try.func14, Try.ntmps14
    go_wp2
    go_loopw [5] (fun v wr => ∃ k : Nat, k ≤ l1.length ∧ v = .int .i64 (k : Int) ∧ l1.take k = l2.take k ∧ Below w.heap.size w wr) (fun v _ => l1.length - (intOf v).toNat)
    case atStart => exact ⟨0, Nat.zero_le _, rfl, rfl, Below.refl _ _⟩
    case round =>
      obtain ⟨k, hk, rfl, heq, hb⟩ := hrel
      by_cases hlt : k < l1.length
      · have hlt' : (k : Int) < (l1.length : Int) := by omega
        have n1 : l1 ≠ [] := by intro e; rw [e] at hlt; simp at hlt
        have n2 : l2 ≠ [] := by intro e; have := hm.out; rw [e] at this; simp at this; omega
        obtain ⟨r1, cap1, cur1, e1, w1⟩ := (h1.later hb).row1 n1
        obtain ⟨r2, cap2, cur2, e2, w2⟩ := (h2.later hb).row1 n2
        obtain ⟨p1, -, p2⟩ := Value.slice.inj e1
        obtain ⟨p3, -, p4⟩ := Value.slice.inj e2
        subst p1; subst p2; subst p3; subst p4
        clear e1 e2
        have k1 := w1.cell k hlt
        have k2 := w2.cell k (by rw [hm.out]; exact hlt)
        have t1 : l1.take (k + 1) = l1.take k ++ [l1.getD k 0] := by
          rw [List.take_add_one, List.getD_eq_getElem?_getD, List.getElem?_eq_getElem hlt]; rfl
        have t2 : l2.take (k + 1) = l2.take k ++ [l2.getD k 0] := by
          rw [List.take_add_one, List.getD_eq_getElem?_getD, List.getElem?_eq_getElem (show k < l2.length by rw [hm.out]; exact hlt)]; rfl
        have hne : l1.getD k 0 ≠ l2.getD k 0 → l1 ≠ l2 := fun h e => h (by rw [e])
        generalize l1.getD k 0 = x at *
        generalize l2.getD k 0 = y at *
        have hS : ∀ u, Below wr.heap.size wr u → (u.cell? ⟨r1, k, none⟩ = some (.int .i64 x) ∧ u.cell? ⟨r2, k, none⟩ = some (.int .i64 y)) := fun u hu =>
          ⟨(Stp.of_below hu (fun _ => False)).cell k1 id, (Stp.of_below hu (fun _ => False)).cell k2 id⟩
        have hH : Hid (l1.take k = l2.take k ∧ l1.take (k + 1) = l1.take k ++ [x] ∧ l2.take (k + 1) = l2.take k ++ [y] ∧ (x ≠ y → l1 ≠ l2)) := ⟨heq, t1, t2, hne⟩
        clear heq t1 t2 hne
        go_wp2
        by_cases hxy : x = y
        · refine wp_region_held_drew (S := fun u => u.cell? ⟨r1, k, none⟩ = some (.int .i64 x) ∧ u.cell? ⟨r2, k, none⟩ = some (.int .i64 y)) (by kernel_rfl) (hS _ (Below.refl _ _).drew) (fun hHeld => ?_)
          refine wpAnyH_take (i := 0) (oi := { dst := some 17, op := Op.move (Operand.tmp 0), type := 51, pos := _, after := #[], guard := none }) (v := .slice (some ⟨r1, 0, none⟩) l1.length c1) rfl (by kernel_rfl) (by kernel_rfl) (by kernel_rfl) (fun _ _ _ h => h) (Or.inl ⟨by rfl, ?_⟩) hHeld ?_
          · intro u hu
            go_simp
          try simp only [Act.put, List.setIfInBounds_toArray, List.set_cons_zero, List.set_cons_succ]
          refine wpAnyH_take (i := 1) (oi := { dst := some 18, op := Op.move (Operand.tmp 5), type := 3, pos := _, after := #[], guard := none }) (v := .int .i64 (k : Int)) rfl (by kernel_rfl) (by kernel_rfl) (by kernel_rfl) (fun _ _ _ h => h) (Or.inl ⟨by rfl, ?_⟩) hHeld ?_
          · intro u hu
            go_simp
          try simp only [Act.put, List.setIfInBounds_toArray, List.set_cons_zero, List.set_cons_succ]
          refine wpAnyH_take (i := 2) (oi := { dst := some 19, op := Op.indexAddr 51 (Operand.tmp 17) (Operand.tmp 18), type := 0, pos := _, after := #[{ on := 0, ground := Ground.data }, { on := 1, ground := Ground.data }], guard := none }) (v := .pointer (some ⟨r1, k, none⟩)) rfl (by kernel_rfl) (by kernel_rfl) (by kernel_rfl) (fun _ _ _ h => h) (Or.inl ⟨by rfl, ?_⟩) hHeld ?_
          · intro u hu
            go_simp
          try simp only [Act.put, List.setIfInBounds_toArray, List.set_cons_zero, List.set_cons_succ]
          refine wpAnyH_take (i := 3) (oi := { dst := some 20, op := Op.load 3 (Operand.tmp 19), type := 3, pos := _, after := #[{ on := 2, ground := Ground.data }], guard := none }) (v := .int .i64 x) rfl (by kernel_rfl) (by kernel_rfl) (by kernel_rfl) (fun _ _ _ h => h) (Or.inl ⟨by rfl, ?_⟩) hHeld ?_
          · intro u hu
            have x1 := hu.1; go_simp
          try simp only [Act.put, List.setIfInBounds_toArray, List.set_cons_zero, List.set_cons_succ]
          refine wpAnyH_take (i := 4) (oi := { dst := some 21, op := Op.move (Operand.tmp 1), type := 51, pos := _, after := #[], guard := none }) (v := .slice (some ⟨r2, 0, none⟩) l1.length c2) rfl (by kernel_rfl) (by kernel_rfl) (by kernel_rfl) (fun _ _ _ h => h) (Or.inl ⟨by rfl, ?_⟩) hHeld ?_
          · intro u hu
            go_simp
          try simp only [Act.put, List.setIfInBounds_toArray, List.set_cons_zero, List.set_cons_succ]
          refine wpAnyH_take (i := 5) (oi := { dst := some 22, op := Op.move (Operand.tmp 5), type := 3, pos := _, after := #[], guard := none }) (v := .int .i64 (k : Int)) rfl (by kernel_rfl) (by kernel_rfl) (by kernel_rfl) (fun _ _ _ h => h) (Or.inl ⟨by rfl, ?_⟩) hHeld ?_
          · intro u hu
            go_simp
          try simp only [Act.put, List.setIfInBounds_toArray, List.set_cons_zero, List.set_cons_succ]
          refine wpAnyH_take (i := 6) (oi := { dst := some 23, op := Op.indexAddr 51 (Operand.tmp 21) (Operand.tmp 22), type := 0, pos := _, after := #[{ on := 4, ground := Ground.data }, { on := 5, ground := Ground.data }], guard := none }) (v := .pointer (some ⟨r2, k, none⟩)) rfl (by kernel_rfl) (by kernel_rfl) (by kernel_rfl) (fun _ _ _ h => h) (Or.inl ⟨by rfl, ?_⟩) hHeld ?_
          · intro u hu
            go_simp
          try simp only [Act.put, List.setIfInBounds_toArray, List.set_cons_zero, List.set_cons_succ]
          refine wpAnyH_take (i := 7) (oi := { dst := some 24, op := Op.load 3 (Operand.tmp 23), type := 3, pos := _, after := #[{ on := 6, ground := Ground.data }], guard := none }) (v := .int .i64 y) rfl (by kernel_rfl) (by kernel_rfl) (by kernel_rfl) (fun _ _ _ h => h) (Or.inl ⟨by rfl, ?_⟩) hHeld ?_
          · intro u hu
            have x1 := hu.2; go_simp
          try simp only [Act.put, List.setIfInBounds_toArray, List.set_cons_zero, List.set_cons_succ]
          refine wpAnyH_take (i := 8) (oi := { dst := some 25, op := Op.binOp BinOp.neq 3 (Operand.tmp 20) (Operand.tmp 24) 3, type := 4, pos := _, after := #[{ on := 3, ground := Ground.data }, { on := 7, ground := Ground.data }], guard := none }) (v := .bool false) rfl (by kernel_rfl) (by kernel_rfl) (by kernel_rfl) (fun _ _ _ h => h) (Or.inl ⟨by rfl, ?_⟩) hHeld ?_
          · intro u hu
            go_simp
          try simp only [Act.put, List.setIfInBounds_toArray, List.set_cons_zero, List.set_cons_succ]
          refine wpAnyH_done (by kernel_rfl) ?_ _
          go_wp2
          go_roundw
          case rel => exact ⟨k + 1, by omega, by go_num, by obtain ⟨q1, q2, q3, _⟩ := hH.out; rw [q2, q3, q1, hxy], by go_grown⟩
          case measure => simp [intOf]; omega
        · refine wp_region_held_drew (S := fun u => u.cell? ⟨r1, k, none⟩ = some (.int .i64 x) ∧ u.cell? ⟨r2, k, none⟩ = some (.int .i64 y)) (by kernel_rfl) (hS _ (Below.refl _ _).drew) (fun hHeld => ?_)
          refine wpAnyH_take (i := 0) (oi := { dst := some 17, op := Op.move (Operand.tmp 0), type := 51, pos := _, after := #[], guard := none }) (v := .slice (some ⟨r1, 0, none⟩) l1.length c1) rfl (by kernel_rfl) (by kernel_rfl) (by kernel_rfl) (fun _ _ _ h => h) (Or.inl ⟨by rfl, ?_⟩) hHeld ?_
          · intro u hu
            go_simp
          try simp only [Act.put, List.setIfInBounds_toArray, List.set_cons_zero, List.set_cons_succ]
          refine wpAnyH_take (i := 1) (oi := { dst := some 18, op := Op.move (Operand.tmp 5), type := 3, pos := _, after := #[], guard := none }) (v := .int .i64 (k : Int)) rfl (by kernel_rfl) (by kernel_rfl) (by kernel_rfl) (fun _ _ _ h => h) (Or.inl ⟨by rfl, ?_⟩) hHeld ?_
          · intro u hu
            go_simp
          try simp only [Act.put, List.setIfInBounds_toArray, List.set_cons_zero, List.set_cons_succ]
          refine wpAnyH_take (i := 2) (oi := { dst := some 19, op := Op.indexAddr 51 (Operand.tmp 17) (Operand.tmp 18), type := 0, pos := _, after := #[{ on := 0, ground := Ground.data }, { on := 1, ground := Ground.data }], guard := none }) (v := .pointer (some ⟨r1, k, none⟩)) rfl (by kernel_rfl) (by kernel_rfl) (by kernel_rfl) (fun _ _ _ h => h) (Or.inl ⟨by rfl, ?_⟩) hHeld ?_
          · intro u hu
            go_simp
          try simp only [Act.put, List.setIfInBounds_toArray, List.set_cons_zero, List.set_cons_succ]
          refine wpAnyH_take (i := 3) (oi := { dst := some 20, op := Op.load 3 (Operand.tmp 19), type := 3, pos := _, after := #[{ on := 2, ground := Ground.data }], guard := none }) (v := .int .i64 x) rfl (by kernel_rfl) (by kernel_rfl) (by kernel_rfl) (fun _ _ _ h => h) (Or.inl ⟨by rfl, ?_⟩) hHeld ?_
          · intro u hu
            have x1 := hu.1; go_simp
          try simp only [Act.put, List.setIfInBounds_toArray, List.set_cons_zero, List.set_cons_succ]
          refine wpAnyH_take (i := 4) (oi := { dst := some 21, op := Op.move (Operand.tmp 1), type := 51, pos := _, after := #[], guard := none }) (v := .slice (some ⟨r2, 0, none⟩) l1.length c2) rfl (by kernel_rfl) (by kernel_rfl) (by kernel_rfl) (fun _ _ _ h => h) (Or.inl ⟨by rfl, ?_⟩) hHeld ?_
          · intro u hu
            go_simp
          try simp only [Act.put, List.setIfInBounds_toArray, List.set_cons_zero, List.set_cons_succ]
          refine wpAnyH_take (i := 5) (oi := { dst := some 22, op := Op.move (Operand.tmp 5), type := 3, pos := _, after := #[], guard := none }) (v := .int .i64 (k : Int)) rfl (by kernel_rfl) (by kernel_rfl) (by kernel_rfl) (fun _ _ _ h => h) (Or.inl ⟨by rfl, ?_⟩) hHeld ?_
          · intro u hu
            go_simp
          try simp only [Act.put, List.setIfInBounds_toArray, List.set_cons_zero, List.set_cons_succ]
          refine wpAnyH_take (i := 6) (oi := { dst := some 23, op := Op.indexAddr 51 (Operand.tmp 21) (Operand.tmp 22), type := 0, pos := _, after := #[{ on := 4, ground := Ground.data }, { on := 5, ground := Ground.data }], guard := none }) (v := .pointer (some ⟨r2, k, none⟩)) rfl (by kernel_rfl) (by kernel_rfl) (by kernel_rfl) (fun _ _ _ h => h) (Or.inl ⟨by rfl, ?_⟩) hHeld ?_
          · intro u hu
            go_simp
          try simp only [Act.put, List.setIfInBounds_toArray, List.set_cons_zero, List.set_cons_succ]
          refine wpAnyH_take (i := 7) (oi := { dst := some 24, op := Op.load 3 (Operand.tmp 23), type := 3, pos := _, after := #[{ on := 6, ground := Ground.data }], guard := none }) (v := .int .i64 y) rfl (by kernel_rfl) (by kernel_rfl) (by kernel_rfl) (fun _ _ _ h => h) (Or.inl ⟨by rfl, ?_⟩) hHeld ?_
          · intro u hu
            have x1 := hu.2; go_simp
          try simp only [Act.put, List.setIfInBounds_toArray, List.set_cons_zero, List.set_cons_succ]
          refine wpAnyH_take (i := 8) (oi := { dst := some 25, op := Op.binOp BinOp.neq 3 (Operand.tmp 20) (Operand.tmp 24) 3, type := 4, pos := _, after := #[{ on := 3, ground := Ground.data }, { on := 7, ground := Ground.data }], guard := none }) (v := .bool true) rfl (by kernel_rfl) (by kernel_rfl) (by kernel_rfl) (fun _ _ _ h => h) (Or.inl ⟨by rfl, ?_⟩) hHeld ?_
          · intro u hu
            go_simp
          try simp only [Act.put, List.setIfInBounds_toArray, List.set_cons_zero, List.set_cons_succ]
          refine wpAnyH_done (by kernel_rfl) ?_ _
          go_wp2
          go_returns
          exact ⟨by have := hH.out.2.2.2 hxy; simp [this], by go_grown⟩
      · obtain rfl : k = l1.length := by omega
        have : l1 = l2 := by
          rw [List.take_length] at heq
          rw [heq, ← hm.out, List.take_length]
        have hH : Hid (l1 = l2) := this
        clear this heq
        go_wp2
        go_returns
        exact ⟨by have := hH.out; simp [this], hb⟩
  · have hlen' : ¬ ((l1.length : Int) = (l2.length : Int)) := by omega
    have hH : Hid (l1 ≠ l2) := fun e => hlen (by rw [e])
    go_enter Try.func14, Try.ntmps14
    go_wp2
    go_returns
    exact ⟨by have := hH.out; simp [this], Below.refl _ _⟩
end Go.Proofs.Ytecedklfdmbnpaa
