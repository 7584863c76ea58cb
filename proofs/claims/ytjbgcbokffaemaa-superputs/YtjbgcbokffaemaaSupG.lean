/-
  What the document's 'one' of layer 8 returns; disks as slices of sectors: no statement is proved here.
-/
import Derived.Test.YtjbgcbokffaemaaSupF
namespace Go.Proofs.Ytjbgcbokffaemaa
open Go.ChangeShapes Go.WideShapes Go.ChangeAt Go.RowKit
set_option linter.unusedVariables false

theorem siE_or (b : Blk) : siE b = 0 ∨ siE b = 22 := by
  unfold siE sgE; split
  · split
    · exact .inl rfl
    · exact .inr rfl
  · exact .inr rfl
theorem has_ways (b : Blk) (n : Nat) : (siE b = 22 ∧ hasB b n = false) ∨ (siE b = 0 ∧ ((siG b).total == (n : Int)) = false ∧ hasB b n = false) ∨ (siE b = 0 ∧ ((siG b).total == (n : Int)) = true ∧ hasB b n = true) := by
  unfold hasB
  rcases siE_or b with h | h
  · rw [h]
    by_cases h2 : (siG b).total = (n : Int)
    · exact .inr (.inr ⟨rfl, by simp [h2], by simp [h2]⟩)
    · exact .inr (.inl ⟨rfl, by simp [h2], by simp [h2]⟩)
  · exact .inl ⟨h, by rw [h]; simp⟩
set_option maxRecDepth 100000 in
set_option maxHeartbeats 4000000 in
theorem one_any (b : Blk) (n : Nat) (w : World) :
    Calls Try.prog 32 #[.agg b.cs.toArray, .int .i64 (n : Int)] w fun e w' => e = .returned (.tuple #[gv (siG b), .bool (hasB b n)]) ∧ Below w.heap.size w w' := by
  have hb := b.len
  have hget := rget_any 1 b
  have hlq := (gP 1 b).len
  have hsg := rsget_any (gP 1 b)
  have hway := si_ways b
  have hhas := has_ways b n
  have htot := rtotal_any (sgG (gP 1 b))
  generalize gP 1 b = q at *
  generalize gE 1 b = e0 at *
  rcases hway with ⟨rfl, h1, h2⟩ | ⟨rfl, h1, h2⟩
  · have hE : Hid (hasB b n = false ∧ siG b = Gm.zero) := by
      rcases hhas with ⟨_, h⟩ | ⟨h, _⟩ | ⟨h, _⟩
      · exact ⟨h, h2⟩
      · rw [h1] at h; omega
      · rw [h1] at h; omega
    clear h1 h2 hhas hsg htot
    go_enter Try.func32, Try.ntmps32
    go_wp2_with (first
      | (refine at_box 32 64 arrB (by rfl) _ (by rfl) b.l (by rfl) hb ?_; intro g1 w1 a1 z1 r1 b1)
      | (refine at_newG (by rfl) (by rfl) ?_; intro gr w2 a2 z2 r2 b2)
      | (refine at_getB (by rfl) _ (by rfl) g1 (by rfl) b (r1.later b2) ?_)
      | (go_at_call 21; refine (hget _).mono ?_; rintro e w3 ⟨rfl, b3⟩)
      | (refine at_new 25 54 arrL (by rfl) (by rfl) ?_; intro gp w4 a4 z4 r4 b4)
      | (refine at_put 25 54 arrL (by rfl) _ _ (by rfl) gp (by rfl) q.l (by rfl) hlq _ r4 (by simp) ?_; intro w5 r5 s5
         have rr5 : GR w5 gr Gm.zero := ((r2.later b3).later b4).step s5 (by have := b3.size; omega)
         have hgr : w.heap.size ≤ gr := by have := b1.size; omega
         have S5 : Stp (fun x => w.heap.size ≤ x) w w5 := (Stp.of_below (bnext (bnext (bnext b1 b2 (Nat.le_refl _)) b3 (Nat.le_refl _)) b4 (Nat.le_refl _)) _).next s5 (fun x hx => .inl (by subst hx; have := b1.size; have := b2.size; have := b3.size; omega))
         clear a1 z1 r1 b1 a2 z2 r2 b2 b3 b4 a4 z4 r4 s5)
      | (refine at_putG (by rfl) _ _ (by rfl) gr (by rfl) Gm.zero (by rfl) _ rr5 ?_; intro w9 r9 s9))
    refine bodyPost_ret (retGt Try.results32 rfl rfl r9) rfl ⟨by obtain ⟨q1, q2⟩ := hE.out; rw [q1, q2]; rfl, (S5.next s9 (fun x hx => .inl (by subst hx; exact hgr))).below (Nat.le_refl _) (fun _ h => h)⟩
  · rw [h1, h2] at hhas
    have hG : Hid (siG b = sgG q) := h2
    clear h1 h2
    generalize hs1 : sgG q = s1 at *
    generalize sgE q = e1 at *
    clear hs1
    have t1 : True := trivial
    go_enter Try.func32, Try.ntmps32
    go_wp2_with (first
      | (refine at_box 32 64 arrB (by rfl) _ (by rfl) b.l (by rfl) hb ?_; intro g1 w1 a1 z1 r1 b1)
      | (have _t := t1; refine at_newG (by rfl) (by rfl) ?_; intro gr w2 a2 z2 r2 b2; clear _t t1)
      | (refine at_getB (by rfl) _ (by rfl) g1 (by rfl) b (r1.later b2) ?_)
      | (go_at_call 21; refine (hget _).mono ?_; rintro e w3 ⟨rfl, b3⟩)
      | (refine at_new 25 54 arrL (by rfl) (by rfl) ?_; intro gp w4 a4 z4 r4 b4)
      | (refine at_put 25 54 arrL (by rfl) _ _ (by rfl) gp (by rfl) q.l (by rfl) hlq _ r4 (by simp) ?_; intro w5 r5 s5
         have rr5 : GR w5 gr Gm.zero := ((r2.later b3).later b4).step s5 (by have := b3.size; omega)
         have hgr : w.heap.size ≤ gr := by have := b1.size; omega
         have S5 : Stp (fun x => w.heap.size ≤ x) w w5 := (Stp.of_below (bnext (bnext (bnext b1 b2 (Nat.le_refl _)) b3 (Nat.le_refl _)) b4 (Nat.le_refl _)) _).next s5 (fun x hx => .inl (by subst hx; have := b1.size; have := b2.size; have := b3.size; omega))
         clear a1 z1 r1 b1 a2 z2 r2 b2 b3 b4 a4 z4 r4 s5)
      | (refine at_getL (by rfl) _ (by rfl) gp (by rfl) q r5 ?_)
      | (go_at_call 10; refine (hsg _).mono ?_; rintro e w6 ⟨rfl, b6⟩)
      | (refine at_newG (by rfl) (by rfl) ?_; intro g7 w7 a7 z7 r7 b7)
      | (refine at_putG (by rfl) _ _ (by rfl) g7 (by rfl) s1 (by rfl) _ r7 ?_; intro W y8 s8
         have rrc : GR W gr Gm.zero := ((rr5.later b6).later b7).step s8 (by have := rr5.lt; have := b6.size; omega)
         have S8 := (S5.next (Stp.of_below (bnext b6 b7 (Nat.le_refl _)) (fun _ => False)) (fun _ h => h.elim)).next s8 (fun x hx => .inl (by subst hx; have := S5.size; have := b6.size; omega))
         have hne : g7 ≠ gr := by have := rr5.lt; have := b6.size; omega
         clear rr5 b6 b7 s8 a7 z7 r7 S5 r5))
    have rrc := rrc.later (Below.refl _ W).drew
    clear hget hsg
    rcases hhas with ⟨rfl, hF⟩ | ⟨rfl, hT, hF⟩ | ⟨rfl, hT, hF⟩
    · have hE : Hid (hasB b n = false ∧ siG b = s1) := ⟨hF, hG.out⟩
      clear hF hG
      refine wp_region_held_drew (S := fun u => Stp (fun x => x = gr) W u) (by kernel_rfl) (Stp.refl _ _).drew (fun hHeld => ?_)
      refine wpAnyH_take (i := 0) (oi := { dst := some 25, op := Op.load 23 (Operand.tmp 9), type := 23, pos := _, after := #[], guard := none }) (v := gv s1) rfl (by kernel_rfl) (by kernel_rfl) (by kernel_rfl) (fun _ _ _ h => h)
        (yields_G (by rfl) (.tmp 9) rfl g7 (by rfl) s1 (fun u hu => y8.step hu hne)) hHeld ?_
      try simp only [Act.put, List.setIfInBounds_toArray, List.set_cons_zero, List.set_cons_succ]
      refine wpAnyH_take (i := 1) (oi := { dst := some 26, op := Op.move (Operand.tmp 10), type := 26, pos := _, after := #[], guard := none }) (v := .int .i64 22) rfl (by kernel_rfl) (by kernel_rfl) (by kernel_rfl) (fun _ _ _ h => h) (Or.inl ⟨by rfl, ?_⟩) hHeld ?_
      · intro u hu
        go_simp
      try simp only [Act.put, List.setIfInBounds_toArray, List.set_cons_zero, List.set_cons_succ]
      refine wpAnyH_take (i := 2) (oi := { dst := some 27, op := Op.binOp BinOp.eql 26 (Operand.tmp 26) (Operand.const (Value.int IntKind.i64 0)) 26, type := 4, pos := _, after := #[{ on := 1, ground := Ground.data }], guard := none }) (v := .bool false) rfl (by kernel_rfl) (by kernel_rfl) (by kernel_rfl) (fun _ _ _ h => h) (Or.inl ⟨by rfl, ?_⟩) hHeld ?_
      · intro u hu
        go_simp
      try simp only [Act.put, List.setIfInBounds_toArray, List.set_cons_zero, List.set_cons_succ]
      refine wpAnyH_take (i := 3) (oi := { dst := some 28, op := Op.move (Operand.tmp 27), type := 4, pos := _, after := #[{ on := 2, ground := Ground.data }], guard := none }) (v := .bool false) rfl (by kernel_rfl) (by kernel_rfl) (by kernel_rfl) (fun _ _ _ h => h) (Or.inl ⟨by rfl, ?_⟩) hHeld ?_
      · intro u hu
        go_simp
      try simp only [Act.put, List.setIfInBounds_toArray, List.set_cons_zero, List.set_cons_succ]
      refine wpAnyH_take (i := 4) (oi := { dst := some 29, op := Op.load 23 (Operand.tmp 9), type := 23, pos := _, after := #[{ on := 3, ground := Ground.guard }], guard := some (3, true) }) (v := undef) rfl (by kernel_rfl) (by kernel_rfl) (by kernel_rfl) (fun _ _ _ h => h)
        (Or.inr ⟨by rfl, rfl⟩) hHeld ?_
      try simp only [Act.put, List.setIfInBounds_toArray, List.set_cons_zero, List.set_cons_succ]
      refine wpAnyH_take (i := 5) (oi := { dst := some 30, op := Op.call { callee := Callee.value (Operand.func 46), args := #[Operand.tmp 29], argTypes := #[23] }, type := 3, pos := _, after := #[{ on := 4, ground := Ground.data }, { on := 3, ground := Ground.chain }, { on := 3, ground := Ground.guard }], guard := some (3, true) }) (v := undef) rfl (by kernel_rfl) (by kernel_rfl) (by kernel_rfl) (fun _ _ _ h => h)
        (Or.inr ⟨by rfl, rfl⟩) hHeld ?_
      try simp only [Act.put, List.setIfInBounds_toArray, List.set_cons_zero, List.set_cons_succ]
      refine wpAnyH_take (i := 6) (oi := { dst := some 31, op := Op.move (Operand.tmp 1), type := 3, pos := _, after := #[{ on := 3, ground := Ground.guard }, { on := 9, ground := Ground.gcOnly Departure.lateStores }], guard := some (3, true) }) (v := undef) rfl (by kernel_rfl) (by kernel_rfl) (by kernel_rfl) (fun _ _ _ h => h)
        (Or.inr ⟨by rfl, rfl⟩) hHeld ?_
      try simp only [Act.put, List.setIfInBounds_toArray, List.set_cons_zero, List.set_cons_succ]
      refine wpAnyH_take (i := 7) (oi := { dst := some 32, op := Op.binOp BinOp.eql 3 (Operand.tmp 30) (Operand.tmp 31) 3, type := 4, pos := _, after := #[{ on := 5, ground := Ground.data }, { on := 6, ground := Ground.data }, { on := 3, ground := Ground.guard }, { on := 9, ground := Ground.gcOnly Departure.lateStores }], guard := some (3, true) }) (v := undef) rfl (by kernel_rfl) (by kernel_rfl) (by kernel_rfl) (fun _ _ _ h => h)
        (Or.inr ⟨by rfl, rfl⟩) hHeld ?_
      try simp only [Act.put, List.setIfInBounds_toArray, List.set_cons_zero, List.set_cons_succ]
      refine wpAnyH_take (i := 8) (oi := { dst := some 33, op := Op.pick (Operand.tmp 28) (Operand.tmp 32) (Operand.const (Value.bool false)), type := 4, pos := _, after := #[{ on := 3, ground := Ground.data }, { on := 7, ground := Ground.data }, { on := 9, ground := Ground.gcOnly Departure.lateStores }], guard := none }) (v := .bool false) rfl (by kernel_rfl) (by kernel_rfl) (by kernel_rfl) (fun _ _ _ h => h) (Or.inl ⟨by rfl, ?_⟩) hHeld ?_
      · intro u hu
        go_simp
      try simp only [Act.put, List.setIfInBounds_toArray, List.set_cons_zero, List.set_cons_succ]
      refine wpAnyH_ready (rs := [9]) (by kernel_rfl) (by simp) ?_
      refine (AllReadyH.cons (o := { dst := none, op := Op.store 23 (Operand.tmp 4) (Operand.tmp 25), type := 0, pos := _, after := #[{ on := 0, ground := Ground.data }, { on := 5, ground := Ground.chain }, { on := 0, ground := Ground.phase }, { on := 1, ground := Ground.textOnly Departure.lateStores }, { on := 2, ground := Ground.textOnly Departure.lateStores }, { on := 3, ground := Ground.textOnly Departure.lateStores }, { on := 4, ground := Ground.textOnly Departure.lateStores }, { on := 5, ground := Ground.textOnly Departure.lateStoresUnsure }, { on := 6, ground := Ground.textOnly Departure.lateStores }, { on := 7, ground := Ground.textOnly Departure.lateStores }, { on := 8, ground := Ground.textOnly Departure.lateStores }], guard := none }) rfl (fun K hK => ?_) AllReadyH.nil)
      refine step_putG rfl (.tmp 4) (.tmp 25) rfl gr (by rfl) s1 (by rfl) Gm.zero rrc ?_
      intro v9 r9 s9
      refine hK.out _ _ (hHeld.next s9 (fun _ h => .inl h)) (fun hHeld => ?_)
      clear hK K
      try simp only [Act.put]
      refine wpAnyH_take (i := 10) (oi := { dst := some 5, op := Op.assign (Operand.tmp 33), type := 4, pos := _, after := #[{ on := 8, ground := Ground.data }, { on := 9, ground := Ground.chain }, { on := 0, ground := Ground.phase }, { on := 1, ground := Ground.phase }, { on := 2, ground := Ground.phase }, { on := 3, ground := Ground.phase }, { on := 4, ground := Ground.phase }, { on := 5, ground := Ground.phase }, { on := 6, ground := Ground.phase }, { on := 7, ground := Ground.phase }, { on := 8, ground := Ground.phase }, { on := 9, ground := Ground.phase }], guard := none }) (v := .bool false) rfl (by kernel_rfl) (by kernel_rfl) (by kernel_rfl) (fun _ _ _ h => h) (Or.inl ⟨by rfl, ?_⟩) hHeld ?_
      · intro u hu
        go_simp
      try simp only [Act.put, List.setIfInBounds_toArray, List.set_cons_zero, List.set_cons_succ]
      refine wpAnyH_done (by kernel_rfl) ?_ _
      go_wp2_with fail
      refine bodyPost_ret (retGt Try.results32 rfl rfl r9) rfl ⟨by obtain ⟨q1, q2⟩ := hE.out; rw [q1, q2]; rfl, (S8.next hHeld (fun x hx => .inl (by subst hx; exact hgr))).below (Nat.le_refl _) (fun _ h => h)⟩
    · have hE : Hid (hasB b n = false ∧ siG b = s1) := ⟨hF, hG.out⟩
      clear hF hG
      refine wp_region_held_drew (S := fun u => Stp (fun x => x = gr) W u) (by kernel_rfl) (Stp.refl _ _).drew (fun hHeld => ?_)
      refine wpAnyH_take (i := 0) (oi := { dst := some 25, op := Op.load 23 (Operand.tmp 9), type := 23, pos := _, after := #[], guard := none }) (v := gv s1) rfl (by kernel_rfl) (by kernel_rfl) (by kernel_rfl) (fun _ _ _ h => h)
        (yields_G (by rfl) (.tmp 9) rfl g7 (by rfl) s1 (fun u hu => y8.step hu hne)) hHeld ?_
      try simp only [Act.put, List.setIfInBounds_toArray, List.set_cons_zero, List.set_cons_succ]
      refine wpAnyH_take (i := 1) (oi := { dst := some 26, op := Op.move (Operand.tmp 10), type := 26, pos := _, after := #[], guard := none }) (v := .int .i64 0) rfl (by kernel_rfl) (by kernel_rfl) (by kernel_rfl) (fun _ _ _ h => h) (Or.inl ⟨by rfl, ?_⟩) hHeld ?_
      · intro u hu
        go_simp
      try simp only [Act.put, List.setIfInBounds_toArray, List.set_cons_zero, List.set_cons_succ]
      refine wpAnyH_take (i := 2) (oi := { dst := some 27, op := Op.binOp BinOp.eql 26 (Operand.tmp 26) (Operand.const (Value.int IntKind.i64 0)) 26, type := 4, pos := _, after := #[{ on := 1, ground := Ground.data }], guard := none }) (v := .bool true) rfl (by kernel_rfl) (by kernel_rfl) (by kernel_rfl) (fun _ _ _ h => h) (Or.inl ⟨by rfl, ?_⟩) hHeld ?_
      · intro u hu
        go_simp
      try simp only [Act.put, List.setIfInBounds_toArray, List.set_cons_zero, List.set_cons_succ]
      refine wpAnyH_take (i := 3) (oi := { dst := some 28, op := Op.move (Operand.tmp 27), type := 4, pos := _, after := #[{ on := 2, ground := Ground.data }], guard := none }) (v := .bool true) rfl (by kernel_rfl) (by kernel_rfl) (by kernel_rfl) (fun _ _ _ h => h) (Or.inl ⟨by rfl, ?_⟩) hHeld ?_
      · intro u hu
        go_simp
      try simp only [Act.put, List.setIfInBounds_toArray, List.set_cons_zero, List.set_cons_succ]
      refine wpAnyH_take (i := 4) (oi := { dst := some 29, op := Op.load 23 (Operand.tmp 9), type := 23, pos := _, after := #[{ on := 3, ground := Ground.guard }], guard := some (3, true) }) (v := gv s1) rfl (by kernel_rfl) (by kernel_rfl) (by kernel_rfl) (fun _ _ _ h => h)
        (yields_G (by rfl) (.tmp 9) rfl g7 (by rfl) s1 (fun u hu => y8.step hu hne)) hHeld ?_
      try simp only [Act.put, List.setIfInBounds_toArray, List.set_cons_zero, List.set_cons_succ]
      refine wpAnyH_take (i := 6) (oi := { dst := some 31, op := Op.move (Operand.tmp 1), type := 3, pos := _, after := #[{ on := 3, ground := Ground.guard }, { on := 9, ground := Ground.gcOnly Departure.lateStores }], guard := some (3, true) }) (v := .int .i64 (n : Int)) rfl (by kernel_rfl) (by kernel_rfl) (by kernel_rfl) (fun _ _ _ h => h) (Or.inl ⟨by rfl, ?_⟩) hHeld ?_
      · intro u hu
        go_simp
      try simp only [Act.put, List.setIfInBounds_toArray, List.set_cons_zero, List.set_cons_succ]
      refine wpAnyH_ready (rs := [5]) (by kernel_rfl) (by simp) ?_
      refine (AllReadyH.cons (o := { dst := some 30, op := Op.call { callee := Callee.value (Operand.func 46), args := #[Operand.tmp 29], argTypes := #[23] }, type := 3, pos := _, after := #[{ on := 4, ground := Ground.data }, { on := 3, ground := Ground.chain }, { on := 3, ground := Ground.guard }], guard := some (3, true) }) rfl (fun K hK => ?_) AllReadyH.nil)
      go_simp
      refine (htot _).mono ?_
      rintro e v5 ⟨rfl, c5⟩
      try go_wp2_with fail
      have rrc := rrc.later c5
      refine hK.out _ _ (hHeld.next (Stp.of_below c5 (fun _ => False)) (fun _ h => h.elim)) (fun hHeld => ?_)
      clear hK K
      try simp only [Act.put, List.setIfInBounds_toArray, List.set_cons_zero, List.set_cons_succ]
      refine wpAnyH_take (i := 7) (oi := { dst := some 32, op := Op.binOp BinOp.eql 3 (Operand.tmp 30) (Operand.tmp 31) 3, type := 4, pos := _, after := #[{ on := 5, ground := Ground.data }, { on := 6, ground := Ground.data }, { on := 3, ground := Ground.guard }, { on := 9, ground := Ground.gcOnly Departure.lateStores }], guard := some (3, true) }) (v := .bool false) rfl (by kernel_rfl) (by kernel_rfl) (by kernel_rfl) (fun _ _ _ h => h) (Or.inl ⟨by rfl, ?_⟩) hHeld ?_
      · intro u hu
        go_simp
      try simp only [Act.put, List.setIfInBounds_toArray, List.set_cons_zero, List.set_cons_succ]
      refine wpAnyH_take (i := 8) (oi := { dst := some 33, op := Op.pick (Operand.tmp 28) (Operand.tmp 32) (Operand.const (Value.bool false)), type := 4, pos := _, after := #[{ on := 3, ground := Ground.data }, { on := 7, ground := Ground.data }, { on := 9, ground := Ground.gcOnly Departure.lateStores }], guard := none }) (v := .bool false) rfl (by kernel_rfl) (by kernel_rfl) (by kernel_rfl) (fun _ _ _ h => h) (Or.inl ⟨by rfl, ?_⟩) hHeld ?_
      · intro u hu
        go_simp
      try simp only [Act.put, List.setIfInBounds_toArray, List.set_cons_zero, List.set_cons_succ]
      refine wpAnyH_ready (rs := [9]) (by kernel_rfl) (by simp) ?_
      refine (AllReadyH.cons (o := { dst := none, op := Op.store 23 (Operand.tmp 4) (Operand.tmp 25), type := 0, pos := _, after := #[{ on := 0, ground := Ground.data }, { on := 5, ground := Ground.chain }, { on := 0, ground := Ground.phase }, { on := 1, ground := Ground.textOnly Departure.lateStores }, { on := 2, ground := Ground.textOnly Departure.lateStores }, { on := 3, ground := Ground.textOnly Departure.lateStores }, { on := 4, ground := Ground.textOnly Departure.lateStores }, { on := 5, ground := Ground.textOnly Departure.lateStoresUnsure }, { on := 6, ground := Ground.textOnly Departure.lateStores }, { on := 7, ground := Ground.textOnly Departure.lateStores }, { on := 8, ground := Ground.textOnly Departure.lateStores }], guard := none }) rfl (fun K hK => ?_) AllReadyH.nil)
      refine step_putG rfl (.tmp 4) (.tmp 25) rfl gr (by rfl) s1 (by rfl) Gm.zero rrc ?_
      intro v9 r9 s9
      refine hK.out _ _ (hHeld.next s9 (fun _ h => .inl h)) (fun hHeld => ?_)
      clear hK K
      try simp only [Act.put]
      refine wpAnyH_take (i := 10) (oi := { dst := some 5, op := Op.assign (Operand.tmp 33), type := 4, pos := _, after := #[{ on := 8, ground := Ground.data }, { on := 9, ground := Ground.chain }, { on := 0, ground := Ground.phase }, { on := 1, ground := Ground.phase }, { on := 2, ground := Ground.phase }, { on := 3, ground := Ground.phase }, { on := 4, ground := Ground.phase }, { on := 5, ground := Ground.phase }, { on := 6, ground := Ground.phase }, { on := 7, ground := Ground.phase }, { on := 8, ground := Ground.phase }, { on := 9, ground := Ground.phase }], guard := none }) (v := .bool false) rfl (by kernel_rfl) (by kernel_rfl) (by kernel_rfl) (fun _ _ _ h => h) (Or.inl ⟨by rfl, ?_⟩) hHeld ?_
      · intro u hu
        go_simp
      try simp only [Act.put, List.setIfInBounds_toArray, List.set_cons_zero, List.set_cons_succ]
      refine wpAnyH_done (by kernel_rfl) ?_ _
      go_wp2_with fail
      refine bodyPost_ret (retGt Try.results32 rfl rfl r9) rfl ⟨by obtain ⟨q1, q2⟩ := hE.out; rw [q1, q2]; rfl, (S8.next hHeld (fun x hx => .inl (by subst hx; exact hgr))).below (Nat.le_refl _) (fun _ h => h)⟩
    · have hE : Hid (hasB b n = true ∧ siG b = s1) := ⟨hF, hG.out⟩
      clear hF hG
      refine wp_region_held_drew (S := fun u => Stp (fun x => x = gr) W u) (by kernel_rfl) (Stp.refl _ _).drew (fun hHeld => ?_)
      refine wpAnyH_take (i := 0) (oi := { dst := some 25, op := Op.load 23 (Operand.tmp 9), type := 23, pos := _, after := #[], guard := none }) (v := gv s1) rfl (by kernel_rfl) (by kernel_rfl) (by kernel_rfl) (fun _ _ _ h => h)
        (yields_G (by rfl) (.tmp 9) rfl g7 (by rfl) s1 (fun u hu => y8.step hu hne)) hHeld ?_
      try simp only [Act.put, List.setIfInBounds_toArray, List.set_cons_zero, List.set_cons_succ]
      refine wpAnyH_take (i := 1) (oi := { dst := some 26, op := Op.move (Operand.tmp 10), type := 26, pos := _, after := #[], guard := none }) (v := .int .i64 0) rfl (by kernel_rfl) (by kernel_rfl) (by kernel_rfl) (fun _ _ _ h => h) (Or.inl ⟨by rfl, ?_⟩) hHeld ?_
      · intro u hu
        go_simp
      try simp only [Act.put, List.setIfInBounds_toArray, List.set_cons_zero, List.set_cons_succ]
      refine wpAnyH_take (i := 2) (oi := { dst := some 27, op := Op.binOp BinOp.eql 26 (Operand.tmp 26) (Operand.const (Value.int IntKind.i64 0)) 26, type := 4, pos := _, after := #[{ on := 1, ground := Ground.data }], guard := none }) (v := .bool true) rfl (by kernel_rfl) (by kernel_rfl) (by kernel_rfl) (fun _ _ _ h => h) (Or.inl ⟨by rfl, ?_⟩) hHeld ?_
      · intro u hu
        go_simp
      try simp only [Act.put, List.setIfInBounds_toArray, List.set_cons_zero, List.set_cons_succ]
      refine wpAnyH_take (i := 3) (oi := { dst := some 28, op := Op.move (Operand.tmp 27), type := 4, pos := _, after := #[{ on := 2, ground := Ground.data }], guard := none }) (v := .bool true) rfl (by kernel_rfl) (by kernel_rfl) (by kernel_rfl) (fun _ _ _ h => h) (Or.inl ⟨by rfl, ?_⟩) hHeld ?_
      · intro u hu
        go_simp
      try simp only [Act.put, List.setIfInBounds_toArray, List.set_cons_zero, List.set_cons_succ]
      refine wpAnyH_take (i := 4) (oi := { dst := some 29, op := Op.load 23 (Operand.tmp 9), type := 23, pos := _, after := #[{ on := 3, ground := Ground.guard }], guard := some (3, true) }) (v := gv s1) rfl (by kernel_rfl) (by kernel_rfl) (by kernel_rfl) (fun _ _ _ h => h)
        (yields_G (by rfl) (.tmp 9) rfl g7 (by rfl) s1 (fun u hu => y8.step hu hne)) hHeld ?_
      try simp only [Act.put, List.setIfInBounds_toArray, List.set_cons_zero, List.set_cons_succ]
      refine wpAnyH_take (i := 6) (oi := { dst := some 31, op := Op.move (Operand.tmp 1), type := 3, pos := _, after := #[{ on := 3, ground := Ground.guard }, { on := 9, ground := Ground.gcOnly Departure.lateStores }], guard := some (3, true) }) (v := .int .i64 (n : Int)) rfl (by kernel_rfl) (by kernel_rfl) (by kernel_rfl) (fun _ _ _ h => h) (Or.inl ⟨by rfl, ?_⟩) hHeld ?_
      · intro u hu
        go_simp
      try simp only [Act.put, List.setIfInBounds_toArray, List.set_cons_zero, List.set_cons_succ]
      refine wpAnyH_ready (rs := [5]) (by kernel_rfl) (by simp) ?_
      refine (AllReadyH.cons (o := { dst := some 30, op := Op.call { callee := Callee.value (Operand.func 46), args := #[Operand.tmp 29], argTypes := #[23] }, type := 3, pos := _, after := #[{ on := 4, ground := Ground.data }, { on := 3, ground := Ground.chain }, { on := 3, ground := Ground.guard }], guard := some (3, true) }) rfl (fun K hK => ?_) AllReadyH.nil)
      go_simp
      refine (htot _).mono ?_
      rintro e v5 ⟨rfl, c5⟩
      try go_wp2_with fail
      have rrc := rrc.later c5
      refine hK.out _ _ (hHeld.next (Stp.of_below c5 (fun _ => False)) (fun _ h => h.elim)) (fun hHeld => ?_)
      clear hK K
      try simp only [Act.put, List.setIfInBounds_toArray, List.set_cons_zero, List.set_cons_succ]
      refine wpAnyH_take (i := 7) (oi := { dst := some 32, op := Op.binOp BinOp.eql 3 (Operand.tmp 30) (Operand.tmp 31) 3, type := 4, pos := _, after := #[{ on := 5, ground := Ground.data }, { on := 6, ground := Ground.data }, { on := 3, ground := Ground.guard }, { on := 9, ground := Ground.gcOnly Departure.lateStores }], guard := some (3, true) }) (v := .bool true) rfl (by kernel_rfl) (by kernel_rfl) (by kernel_rfl) (fun _ _ _ h => h) (Or.inl ⟨by rfl, ?_⟩) hHeld ?_
      · intro u hu
        go_simp
      try simp only [Act.put, List.setIfInBounds_toArray, List.set_cons_zero, List.set_cons_succ]
      refine wpAnyH_take (i := 8) (oi := { dst := some 33, op := Op.pick (Operand.tmp 28) (Operand.tmp 32) (Operand.const (Value.bool false)), type := 4, pos := _, after := #[{ on := 3, ground := Ground.data }, { on := 7, ground := Ground.data }, { on := 9, ground := Ground.gcOnly Departure.lateStores }], guard := none }) (v := .bool true) rfl (by kernel_rfl) (by kernel_rfl) (by kernel_rfl) (fun _ _ _ h => h) (Or.inl ⟨by rfl, ?_⟩) hHeld ?_
      · intro u hu
        go_simp
      try simp only [Act.put, List.setIfInBounds_toArray, List.set_cons_zero, List.set_cons_succ]
      refine wpAnyH_ready (rs := [9]) (by kernel_rfl) (by simp) ?_
      refine (AllReadyH.cons (o := { dst := none, op := Op.store 23 (Operand.tmp 4) (Operand.tmp 25), type := 0, pos := _, after := #[{ on := 0, ground := Ground.data }, { on := 5, ground := Ground.chain }, { on := 0, ground := Ground.phase }, { on := 1, ground := Ground.textOnly Departure.lateStores }, { on := 2, ground := Ground.textOnly Departure.lateStores }, { on := 3, ground := Ground.textOnly Departure.lateStores }, { on := 4, ground := Ground.textOnly Departure.lateStores }, { on := 5, ground := Ground.textOnly Departure.lateStoresUnsure }, { on := 6, ground := Ground.textOnly Departure.lateStores }, { on := 7, ground := Ground.textOnly Departure.lateStores }, { on := 8, ground := Ground.textOnly Departure.lateStores }], guard := none }) rfl (fun K hK => ?_) AllReadyH.nil)
      refine step_putG rfl (.tmp 4) (.tmp 25) rfl gr (by rfl) s1 (by rfl) Gm.zero rrc ?_
      intro v9 r9 s9
      refine hK.out _ _ (hHeld.next s9 (fun _ h => .inl h)) (fun hHeld => ?_)
      clear hK K
      try simp only [Act.put]
      refine wpAnyH_take (i := 10) (oi := { dst := some 5, op := Op.assign (Operand.tmp 33), type := 4, pos := _, after := #[{ on := 8, ground := Ground.data }, { on := 9, ground := Ground.chain }, { on := 0, ground := Ground.phase }, { on := 1, ground := Ground.phase }, { on := 2, ground := Ground.phase }, { on := 3, ground := Ground.phase }, { on := 4, ground := Ground.phase }, { on := 5, ground := Ground.phase }, { on := 6, ground := Ground.phase }, { on := 7, ground := Ground.phase }, { on := 8, ground := Ground.phase }, { on := 9, ground := Ground.phase }], guard := none }) (v := .bool true) rfl (by kernel_rfl) (by kernel_rfl) (by kernel_rfl) (fun _ _ _ h => h) (Or.inl ⟨by rfl, ?_⟩) hHeld ?_
      · intro u hu
        go_simp
      try simp only [Act.put, List.setIfInBounds_toArray, List.set_cons_zero, List.set_cons_succ]
      refine wpAnyH_done (by kernel_rfl) ?_ _
      go_wp2_with fail
      refine bodyPost_ret (retGt Try.results32 rfl rfl r9) rfl ⟨by obtain ⟨q1, q2⟩ := hE.out; rw [q1, q2]; rfl, (S8.next hHeld (fun x hx => .inl (by subst hx; exact hgr))).below (Nat.le_refl _) (fun _ h => h)⟩
end Go.Proofs.Ytjbgcbokffaemaa
