/-
  What a sector is opened to, by the code of layer 7: no statement is proved here.
-/
import Derived.Test.YteceapdkgidenaaSealB
namespace Go.Proofs.Yteceapdkgidenaa
open Go.ChangeShapes Go.WideShapes Go.ChangeAt Go.RowKit
set_option linter.unusedVariables false

set_option maxRecDepth 100000 in
theorem open_no (b : Blk) (w : World) (hk : isK (byt b 54) = false) :
    Calls Try.prog 48 #[.agg b.cs.toArray] w fun e w' => e = .returned (.tuple #[.int .i64 (oK b : Nat), .agg (oP b).cs.toArray, .int .u32 (oT b : Nat)]) ∧ Below w.heap.size w w' := by
  have hb := b.len
  have hr : rightB b = false := by unfold rightB; rw [hk]; rfl
  have e1 : oK b = 0 := by unfold oK; rw [hr]; rfl
  have e2 : oP b = Ld.zero := by unfold oP; rw [hr]; rfl
  have e3 : oT b = 0 := by unfold oT; rw [hr]; rfl
  rw [e1, e2, e3]
  clear e1 e2 e3 hr
  have hl := byt_lt b 54
  go_enter Try.func48, Try.ntmps48
  go_wp2_with (first
    | (refine at_box 23 64 arrB (by rfl) _ (by rfl) b.l (by rfl) hb ?_; intro gb w1 a1 z1 r1 b1)
    | (refine at_new 35 54 arrL (by rfl) (by rfl) ?_; intro gr w2 a2 z2 r2 b2; have c54 : w2.cell? ⟨gb, 54, none⟩ = some (.int .u8 (byt b 54 : Nat)) := (r1.later b2).cell 54 (by omega))
    | (go_at_call 45; refine (isKind_any _ _).mono ?_; rintro e w3 ⟨rfl, rfl⟩; rw [hk])
    | (refine at_bldL (by rfl) (by rfl) ?_)
    | (refine at_put 35 54 arrL (by rfl) _ _ (by rfl) gr (by rfl) Ld.zero.l (by rfl) Ld.zero.len _ r2 (by simp) ?_; intro w9 r9 s9))
  have S2 : Stp (fun x => w.heap.size ≤ x) w w2 := Stp.of_below (bnext b1 b2 (Nat.le_refl _)) _
  have hgr : w.heap.size ≤ gr := by have := b1.size; omega
  refine bodyPost_ret (retTAt arrL Try.results48 rfl rfl rfl r9 Ld.zero.len) rfl ⟨rfl, (S2.next s9 (fun x hx => .inl (by subst hx; exact hgr))).below (Nat.le_refl _) (fun _ h => h)⟩
theorem le4_ints (l : List UInt8) (k : Nat) : le4 (ints l) k = ((get4 l k : Nat) : Int) := by
  unfold le4 get4 num4
  rw [ints_getD, ints_getD, ints_getD, ints_getD]; omega
theorem get32_56 (g : Nat) (l : List UInt8) (w : World) (h : Row w g l) (hl : l.length = 64) :
    Calls Try.prog 59 #[.slice (some ⟨g, 0, none⟩) 64 64, .int .i64 56] w fun e w' => e = .returned (.tuple #[.int .u32 (get4 l 56 : Nat), .int .i64 0]) ∧ w = w' := by
  have hb := h.bs0 64 64 (by omega) (Nat.le_refl _) (by decide)
  rw [List.take_of_length_le (by omega)] at hb
  rw [← le4_ints]
  exact get32_ok _ 64 64 _ 56 w hb (by omega)
/-- What opening a sector of a kind comes to. -/
theorem open_is (b : Blk) (hk : isK (byt b 54) = true) (d : Bool) (hd : decide (b = sealK (byt b 54) (trn b) (ldOf b)) = d) :
    oK b = (if d then byt b 54 else 0) ∧ oP b = (if d then ldOf b else Ld.zero) ∧ oT b = (if d then trn b else 0) := by
  have : rightB b = d := by unfold rightB; rw [hk, hd]; rfl
  unfold oK oP oT; rw [this]; exact ⟨rfl, rfl, rfl⟩
set_option maxRecDepth 100000 in
theorem open_yes (b : Blk) (w : World) (hk : isK (byt b 54) = true) :
    Calls Try.prog 48 #[.agg b.cs.toArray] w fun e w' => e = .returned (.tuple #[.int .i64 (oK b : Nat), .agg (oP b).cs.toArray, .int .u32 (oT b : Nat)]) ∧ Below w.heap.size w w' := by
  have hb := b.len
  have ho := open_is b hk
  have hl := byt_lt b 54
  have hk2 : 1 ≤ byt b 54 ∧ byt b 54 ≤ 6 := by unfold isK at hk; simp at hk; omega
  have ht : trn b < 4294967296 := get4_lt _ _
  have hld : (ldOf b).l = b.l.take 54 := rfl
  have tok : True := trivial
  go_enter Try.func48, Try.ntmps48
  go_wp2_with (first
    | (refine at_box 23 64 arrB (by rfl) _ (by rfl) b.l (by rfl) hb ?_; intro gb w1 a1 z1 r1 b1)
    | (have _t := tok; refine at_new 35 54 arrL (by rfl) (by rfl) ?_; intro gr w2 a2 z2 r2 b2; clear _t tok; have c54 : w2.cell? ⟨gb, 54, none⟩ = some (.int .u8 (byt b 54 : Nat)) := (r1.later b2).cell 54 (by omega))
    | (refine at_new 35 54 arrL (by rfl) (by rfl) ?_; intro gp w3 a3 z3 r3 b3)
    | (go_at_call 45; refine (isKind_any _ _).mono ?_; rintro e w3 ⟨rfl, rfl⟩; rw [hk]))
  have u3 := (r1.later b2).later b3
  have q3 := r2.later b3
  have B3 : Below w.heap.size w w3 := bnext (bnext b1 b2 (Nat.le_refl _)) b3 (Nat.le_refl _)
  have n1 : gb ≠ gp := by omega
  have n2 : gr ≠ gp := by omega
  have n3 : gb ≠ gr := by omega
  have hgr : w.heap.size ≤ gr := by have := b1.size; omega
  have hgp : w.heap.size ≤ gp := by have := b1.size; have := b2.size; omega
  clear r1 r2 b1 b2 b3 a1 a2 a3 z1 z2 z3 c54
  clear w1 w2
  simp only [Act.put, List.setIfInBounds_toArray, List.set_cons_zero, List.set_cons_succ]
  go_region_law (refine step_copyR rfl (.tmp 16) (.tmp 17) rfl gp 0 54 54 gb 54 64 (by simp [Act.eval, Act.put]) (by simp [Act.eval, Act.put]) (List.replicate 54 0) b.l (r3.later (by go_grown)) (u3.later (by go_grown)) (by omega) (by simp) (by omega) ?_; intro w4 r4 s4)
  have e4 : splice (List.replicate 54 (0 : UInt8)) 0 (b.l.take 54) = (ldOf b).l := by
    have : (b.l.take 54).length = 54 := by simp [hb]
    unfold splice; rw [this, hld]; simp
  rw [e4] at r4
  have u4' : Row w4 gb b.l := (u3.later (w' := w3.drew) (by go_grown)).step s4 n1
  have q4 : Row w4 gr (List.replicate 54 0) := (q3.later (w' := w3.drew) (by go_grown)).step s4 n2
  have S4 : Stp (fun x => w.heap.size ≤ x) w w4 := (Stp.of_below B3 _).drew.next s4 (fun x hx => .inl (by subst hx; exact hgp))
  clear r3 u3 q3 B3 s4 e4 hld
  clear w3
  go_wp2_with (first
    | (go_at_call 59; refine (get32_56 gb b.l _ u4' hb).mono ?_; rintro e w5 ⟨rfl, rfl⟩))
  have et : get4 b.l 56 = trn b := rfl
  rw [et]; clear et
  have hS : ∀ w', Below w4.heap.size w4 w' → (Below w4.heap.size w4 w' ∧ Row w' gb b.l ∧ Row w' gp (ldOf b).l) := fun w' h => ⟨h, u4'.later h, r4.later h⟩
  generalize hd : decide (b = sealK (byt b 54) (trn b) (ldOf b)) = d at *
  obtain ⟨o1, o2, o3⟩ := ho d rfl
  have hq := eqB b (sealK (byt b 54) (trn b) (ldOf b))
  rw [hd] at hq
  have hgd := guardB
  have hlp := (ldOf b).len
  refine wp_region_held_drew (S := fun w' => Below w4.heap.size w4 w' ∧ Row w' gb b.l ∧ Row w' gp (ldOf b).l) (by kernel_rfl) (hS _ (Below.refl _ _).drew) (fun hHeld => ?_)
  refine wpAnyH_take (i := 0) (oi := { dst := some 24, op := Op.load 23 (Operand.tmp 1), type := 23, pos := _, after := #[], guard := none }) (v := .agg b.cs.toArray) rfl (by kernel_rfl) (by kernel_rfl) (by kernel_rfl) (fun _ _ _ h => h)
    (yields_row 23 64 arrB (by rfl) (.tmp 1) rfl gb (by rfl) b.l hb (fun u hu => hu.2.1)) hHeld ?_
  try simp only [Act.put, List.setIfInBounds_toArray, List.set_cons_zero, List.set_cons_succ]
  refine wpAnyH_take (i := 1) (oi := { dst := some 25, op := Op.move (Operand.tmp 5), type := 3, pos := _, after := #[], guard := none }) (v := .int .i64 (byt b 54 : Nat)) rfl (by kernel_rfl) (by kernel_rfl) (by kernel_rfl) (fun _ _ _ h => h) (Or.inl ⟨by rfl, ?_⟩) hHeld ?_
  · intro u hu
    go_simp
  try simp only [Act.put, List.setIfInBounds_toArray, List.set_cons_zero, List.set_cons_succ]
  refine wpAnyH_take (i := 2) (oi := { dst := some 26, op := Op.move (Operand.tmp 7), type := 28, pos := _, after := #[], guard := none }) (v := .int .u32 (trn b : Nat)) rfl (by kernel_rfl) (by kernel_rfl) (by kernel_rfl) (fun _ _ _ h => h) (Or.inl ⟨by rfl, ?_⟩) hHeld ?_
  · intro u hu
    go_simp
  try simp only [Act.put, List.setIfInBounds_toArray, List.set_cons_zero, List.set_cons_succ]
  refine wpAnyH_take (i := 3) (oi := { dst := some 27, op := Op.load 35 (Operand.tmp 6), type := 35, pos := _, after := #[], guard := none }) (v := .agg (ldOf b).cs.toArray) rfl (by kernel_rfl) (by kernel_rfl) (by kernel_rfl) (fun _ _ _ h => h)
    (yields_row 35 54 arrL (by rfl) (.tmp 6) rfl gp (by rfl) (ldOf b).l hlp (fun u hu => hu.2.2)) hHeld ?_
  try simp only [Act.put, List.setIfInBounds_toArray, List.set_cons_zero, List.set_cons_succ]
  refine wpAnyH_ready (rs := [4]) (by kernel_rfl) (by simp) ?_
  refine AllReadyH.cons (o := { dst := some 28, op := Op.call { callee := Callee.value (Operand.func 46), args := #[Operand.tmp 25, Operand.tmp 26, Operand.tmp 27], argTypes := #[3, 28, 35] }, type := 23, pos := _, after := #[{ on := 1, ground := Ground.data }, { on := 2, ground := Ground.data }, { on := 3, ground := Ground.data }], guard := none }) rfl (fun K hK => ?_) AllReadyH.nil
  go_simp
  refine (sealed_any _ _ _ _ hk2.1 hk2.2 ht).mono ?_
  rintro e w5 ⟨rfl, b5⟩
  try go_wp2_with fail
  have B5 : Below w4.heap.size w4 w5 := bnext ((Below.refl w4.heap.size w4).drew) b5 (Nat.le_refl _)
  refine hK.out _ _ (hS _ B5) (fun hHeld => ?_)
  clear hK K b5
  try simp only [Act.put, List.setIfInBounds_toArray, List.set_cons_zero, List.set_cons_succ]
  refine wpAnyH_take (i := 5) (oi := { dst := some 29, op := Op.binOp BinOp.neq 23 (Operand.tmp 24) (Operand.tmp 28) 23, type := 4, pos := _, after := #[{ on := 0, ground := Ground.data }, { on := 4, ground := Ground.data }], guard := none }) (v := .bool (!d)) rfl (by kernel_rfl) (by kernel_rfl) (by kernel_rfl) (fun _ _ _ h => h) (Or.inl ⟨by rfl, ?_⟩) hHeld ?_
  · intro u hu
    go_simp
  try simp only [Act.put, List.setIfInBounds_toArray, List.set_cons_zero, List.set_cons_succ]
  refine wpAnyH_done (by kernel_rfl) ?_ _
  have r5 := r4.later B5
  have q5 := q4.later B5
  have S5 := S4.next (Stp.of_below B5 (fun _ => False)) (fun _ h => h.elim)
  clear hHeld hS hq u4' r4 q4 S4 B5 ho hd
  clear hHeld
  cases d
  · have hE : Hid (oK b = 0 ∧ oP b = Ld.zero ∧ oT b = 0) := ⟨o1, o2, o3⟩
    clear o1 o2 o3
    go_wp2_with (first
      | (refine at_bldL (by rfl) (by rfl) ?_)
      | (refine at_put 35 54 arrL (by rfl) _ _ (by rfl) gr (by rfl) Ld.zero.l (by rfl) Ld.zero.len _ q5 (by simp) ?_; intro w9 r9 s9))
    refine bodyPost_ret (retTAt arrL Try.results48 rfl rfl rfl r9 Ld.zero.len) rfl ⟨by obtain ⟨q1, q2, q3⟩ := hE.out; rw [q1, q2, q3]; rfl, (S5.next s9 (fun x hx => .inl (by subst hx; exact hgr))).below (Nat.le_refl _) (fun _ h => h)⟩
  · have hE : Hid (oK b = byt b 54 ∧ oP b = ldOf b ∧ oT b = trn b) := ⟨o1, o2, o3⟩
    clear o1 o2 o3
    go_wp2_with fail
    refine wp_region_held_drew (S := fun w' => Row w' gp (ldOf b).l) (by kernel_rfl) (r5.later (Below.refl _ _).drew) (fun hHeld => ?_)
    refine wpAnyH_take (i := 0) (oi := { dst := some 31, op := Op.move (Operand.tmp 5), type := 3, pos := _, after := #[], guard := none }) (v := .int .i64 (byt b 54 : Nat)) rfl (by kernel_rfl) (by kernel_rfl) (by kernel_rfl) (fun _ _ _ h => h) (Or.inl ⟨by rfl, ?_⟩) hHeld ?_
    · intro u hu
      go_simp
    try simp only [Act.put, List.setIfInBounds_toArray, List.set_cons_zero, List.set_cons_succ]
    refine wpAnyH_take (i := 1) (oi := { dst := some 32, op := Op.load 35 (Operand.tmp 6), type := 35, pos := _, after := #[{ on := 3, ground := Ground.gcOnly Departure.lateStores }], guard := none }) (v := .agg (ldOf b).cs.toArray) rfl (by kernel_rfl) (by kernel_rfl) (by kernel_rfl) (fun _ _ _ h => h)
      (yields_row 35 54 arrL (by rfl) (.tmp 6) rfl gp (by rfl) (ldOf b).l hlp (fun u hu => hu)) hHeld ?_
    try simp only [Act.put, List.setIfInBounds_toArray, List.set_cons_zero, List.set_cons_succ]
    refine wpAnyH_take (i := 2) (oi := { dst := some 33, op := Op.move (Operand.tmp 7), type := 28, pos := _, after := #[{ on := 4, ground := Ground.gcOnly Departure.lateStores }], guard := none }) (v := .int .u32 (trn b : Nat)) rfl (by kernel_rfl) (by kernel_rfl) (by kernel_rfl) (fun _ _ _ h => h) (Or.inl ⟨by rfl, ?_⟩) hHeld ?_
    · intro u hu
      go_simp
    try simp only [Act.put, List.setIfInBounds_toArray, List.set_cons_zero, List.set_cons_succ]
    refine wpAnyH_take (i := 3) (oi := { dst := some 2, op := Op.assign (Operand.tmp 31), type := 3, pos := _, after := #[{ on := 0, ground := Ground.data }, { on := 0, ground := Ground.phase }, { on := 1, ground := Ground.textOnly Departure.lateStores }, { on := 2, ground := Ground.textOnly Departure.lateStores }], guard := none }) (v := .int .i64 (byt b 54 : Nat)) rfl (by kernel_rfl) (by kernel_rfl) (by kernel_rfl) (fun _ _ _ h => h) (Or.inl ⟨by rfl, ?_⟩) hHeld ?_
    · intro u hu
      go_simp
    try simp only [Act.put, List.setIfInBounds_toArray, List.set_cons_zero, List.set_cons_succ]
    refine wpAnyH_ready (rs := [4]) (by kernel_rfl) (by simp) ?_
    refine AllReadyH.cons (o := { dst := none, op := Op.store 35 (Operand.tmp 3) (Operand.tmp 32), type := 0, pos := _, after := #[{ on := 1, ground := Ground.data }, { on := 3, ground := Ground.chain }, { on := 0, ground := Ground.phase }, { on := 1, ground := Ground.phase }, { on := 2, ground := Ground.textOnly Departure.lateStores }, { on := 3, ground := Ground.phase }], guard := none }) rfl (fun K hK => ?_) AllReadyH.nil
    refine step_put 35 54 arrL rfl (.tmp 3) (.tmp 32) rfl gr (by rfl) (ldOf b).l (by rfl) hlp (List.replicate 54 0) (q5.later (Below.refl _ _).drew) (by simp) ?_
    intro w9 r9 s9
    refine hK.out _ _ (hHeld.step s9 (Ne.symm n2)) (fun hHeld => ?_)
    clear hK K
    try simp only [Act.put]
    refine wpAnyH_take (i := 5) (oi := { dst := some 4, op := Op.assign (Operand.tmp 33), type := 28, pos := _, after := #[{ on := 2, ground := Ground.data }, { on := 4, ground := Ground.chain }, { on := 0, ground := Ground.phase }, { on := 1, ground := Ground.phase }, { on := 2, ground := Ground.phase }, { on := 3, ground := Ground.phase }, { on := 4, ground := Ground.phase }], guard := none }) (v := .int .u32 (trn b : Nat)) rfl (by kernel_rfl) (by kernel_rfl) (by kernel_rfl) (fun _ _ _ h => h) (Or.inl ⟨by rfl, ?_⟩) hHeld ?_
    · intro u hu
      go_simp
    try simp only [Act.put, List.setIfInBounds_toArray, List.set_cons_zero, List.set_cons_succ]
    refine wpAnyH_done (by kernel_rfl) ?_ _
    go_wp2_with fail
    refine bodyPost_ret (retTAt arrL Try.results48 rfl rfl rfl r9 hlp) rfl ⟨by obtain ⟨q1, q2, q3⟩ := hE.out; rw [q1, q2, q3]; rfl, ((S5.drew).next s9 (fun x hx => .inl (by subst hx; exact hgr))).below (Nat.le_refl _) (fun _ h => h)⟩
theorem open_any (b : Blk) (w : World) :
    Calls Try.prog 48 #[.agg b.cs.toArray] w fun e w' => e = .returned (.tuple #[.int .i64 (oK b : Nat), .agg (oP b).cs.toArray, .int .u32 (oT b : Nat)]) ∧ Below w.heap.size w w' := by
  cases hk : isK (byt b 54)
  · exact open_no b w hk
  · exact open_yes b w hk
end Go.Proofs.Yteceapdkgidenaa
