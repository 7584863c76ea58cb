/-
  The statement SuperFinds, proved: for every list of sectors the law returns true, and what came in reads as it did; no condition.
-/
import Derived.Test.YtjbgcbokffaemaaSupQ
namespace Go.Proofs.Ytjbgcbokffaemaa.superFinds
open Go.ChangeShapes Go.WideShapes Go.ChangeAt Go.RowKit
set_option linter.unusedVariables false

theorem rmend_no (a : Option Addr) (n c : Nat) (l : List Blk) (w : World) (h : Bls w a n c l) (hK : mdN l = 0) :
    Calls Try.prog 18 #[.slice a n c] w fun e w' => ∃ a' c', e = .returned (.tuple #[.slice a' 0 c', .int .i64 (fdE l)]) ∧ Below w.heap.size w w' := by
  refine (rmend_any a n c l w h).mono ?_
  rintro e w' ⟨v, rfl, ⟨a', c', rfl, _⟩, b⟩
  rw [mdL_len, hK]
  exact ⟨a', c', rfl, b⟩
theorem rmend_yes (a : Option Addr) (n c : Nat) (l : List Blk) (w : World) (h : Bls w a n c l) (hK : 0 < mdN l) :
    Calls Try.prog 18 #[.slice a n c] w fun e w' => ∃ g c', e = .returned (.tuple #[.slice (some ⟨g, 0, none⟩) (mdN l) c', .int .i64 (fdE l)]) ∧ (∀ j, j < mdN l → w'.rangeAt g (j * 65) (chc ((mdL l).getD j (0, Blk.zero)))) ∧ mdN l ≤ c' ∧ c' ≤ maxLen ∧ Below w.heap.size w w' := by
  refine (rmend_any a n c l w h).mono ?_
  rintro e w' ⟨v, rfl, ⟨a', c', rfl, h1, h2, h3⟩, b⟩
  rw [mdL_len] at *
  obtain ⟨g, rfl, h4⟩ := h3 hK
  exact ⟨g, c', rfl, h4, h1, h2, b⟩
set_option maxRecDepth 100000 in
set_option maxHeartbeats 8000000 in
theorem walk (a : Option Addr) (n c : Nat) (l : List Blk) (w : World) (h : Bls w a n c l) :
    Calls Try.prog 4 #[.slice a n c] w fun e w' => e = .returned (.bool true) ∧ Below w.heap.size w w' := by
  have h1 := few_any a n c l
  have hN : (l.take 60).length ≤ 60 := by rw [List.length_take]; omega
  generalize l.take 60 = L at *
  have h2 := fun a n c w (h : Bls w a n c L) => few_own a n c L w h
  have h3 := fun a n c w (h : Bls w a n c L) => sfind_any a n c L w h
  have h4 := fun a n c w (h : Bls w a n c L) => rfind_any a n c L w h
  have h5 := fun a n c w (h : Bls w a n c L) => smend_any a n c L w h
  have hno := fun a n c w (h : Bls w a n c L) => rmend_no a n c L w h
  have hyes := fun a n c w (h : Bls w a n c L) => rmend_yes a n c L w h
  have hML := mdL_at L
  rw [mdL_len] at hML
  have hK2 := mdN_le L
  generalize hNN : L.length = N at *
  generalize mdL L = M at *
  generalize mdN L = K at *
  generalize mdF L = f at *
  generalize fdE L = E at *
  generalize fdG L = G at *
  generalize fdI L = I at *
  rcases Nat.eq_zero_or_pos K with rfl | hpos
  · have h6 := fun a n c w h => hno a n c w h rfl
    clear hno hyes hML
    have t1 : True := trivial
    have t2 : True := trivial
    have t3 : True := trivial
    go_enter Try.func4, Try.ntmps4
    go_wp2_with (first
      | (go_at_call 14; have _t := t1; refine (h1 _ h).mono ?_; rintro e w1 ⟨g1, c1, rfl, d1, m1, b1⟩; clear _t t1)
      | (go_at_call 14; have _t := t2; refine (h2 _ _ _ _ d1.bls hN).mono ?_; rintro e w2 ⟨g2, c2, rfl, d2, m2, b2⟩; clear _t t2)
      | (go_at_call 15; refine (h3 _ _ _ _ d2.bls).mono ?_; rintro e w3 ⟨rfl, b3⟩)
      | (have _t := t3; refine at_newG (by rfl) (by rfl) ?_; intro g4 w4 a4 z4 r4 b4; clear _t)
      | (have _t := t3; refine at_putG (by rfl) _ _ (by rfl) g4 (by rfl) G (by rfl) _ r4 ?_; intro w5 r5 s5; clear _t t3
         have B4 := bnext (bnext b2 b3 (Nat.le_refl _)) b4 (Nat.le_refl _)
         have d5 := (d1.later B4).step s5 (by have := d1.lt; have := b2.size; have := b3.size; omega)
         have S5 := (Stp.of_below (bnext b1 B4 (Nat.le_refl _)) (fun x => w.heap.size ≤ x)).next s5 (fun x hx => .inl (by subst hx; have := b1.size; have := b2.size; have := b3.size; omega))
         clear b1 m1 d1 d2 m2 b2 b3 a4 z4 r4 b4 s5 B4)
      | (go_at_call 16; refine (h4 _ _ _ _ d5.bls).mono ?_; rintro e w6 ⟨rfl, b6⟩)
      | (refine at_newG (by rfl) (by rfl) ?_; intro g7 w7 a7 z7 r7 b7)
      | (refine at_putG (by rfl) _ _ (by rfl) g7 (by rfl) G (by rfl) _ r7 ?_; intro w8 r8 s8
         have B7 := bnext b6 b7 (Nat.le_refl _)
         have d8 := (d5.later B7).step s8 (by have := d5.lt; have := b6.size; omega)
         have q8 : GR w8 g4 G := (r5.later B7).step s8 (by have := r5.lt; have := b6.size; omega)
         have S8 := (S5.next (Stp.of_below B7 (fun _ => False)) (fun _ h => h.elim)).next s8 (fun x hx => .inl (by subst hx; have := S5.size; have := b6.size; omega))
         clear d5 r5 S5 b6 a7 z7 r7 b7 s8 B7)
      | (go_at_call 14; refine (h2 _ _ _ _ d8.bls hN).mono ?_; rintro e w9 ⟨g9, c9, rfl, d9, m9, b9⟩)
      | (go_at_call 17; refine (h5 _ _ _ _ d9.bls).mono ?_; rintro e w10 ⟨v, rfl, mv, _, b10⟩)
      | (go_at_call 18; refine (h6 _ _ _ _ ((d8.later b9).later b10).bls).mono ?_; rintro e w11 ⟨a11, c11, rfl, b11⟩
         have B11 := bnext (bnext b9 b10 (Nat.le_refl _)) b11 (Nat.le_refl _)
         have mv11 := mv.later b11
         have q11 := q8.later B11
         have r11 := r8.later B11
         have S11 := S8.next (Stp.of_below B11 (fun _ => False)) (fun _ h => h.elim))
      | (refine at_getG (by rfl) _ (by rfl) g4 (by rfl) G q11 ?_)
      | (refine at_getG (by rfl) _ (by rfl) g7 (by rfl) G r11 ?_)
      | (refine at_mlen (by rfl) _ (by rfl) v _ _ (by rfl) mv11 ?_))
    refine wp_loop_rounds 1 ?_
    rw [rounds_succ]
    go_wp2_with (first
      | (go_at_call 13; refine (sworks_any _).mono ?_; rintro e w22 ⟨rfl, b22⟩))
    go_returns
    exact ⟨rfl, (S11.next (Stp.of_below b22 (fun _ => False)) (fun _ h => h.elim)).below (Nat.le_refl _) (fun _ h => h)⟩
  · have h6 := fun a n c w h => hyes a n c w h hpos
    clear hno hyes
    have t1 : True := trivial
    have t2 : True := trivial
    have t3 : True := trivial
    go_enter Try.func4, Try.ntmps4
    go_wp2_with (first
      | (go_at_call 14; have _t := t1; refine (h1 _ h).mono ?_; rintro e w1 ⟨g1, c1, rfl, d1, m1, b1⟩; clear _t t1)
      | (go_at_call 14; have _t := t2; refine (h2 _ _ _ _ d1.bls hN).mono ?_; rintro e w2 ⟨g2, c2, rfl, d2, m2, b2⟩; clear _t t2)
      | (go_at_call 15; refine (h3 _ _ _ _ d2.bls).mono ?_; rintro e w3 ⟨rfl, b3⟩)
      | (have _t := t3; refine at_newG (by rfl) (by rfl) ?_; intro g4 w4 a4 z4 r4 b4; clear _t)
      | (have _t := t3; refine at_putG (by rfl) _ _ (by rfl) g4 (by rfl) G (by rfl) _ r4 ?_; intro w5 r5 s5; clear _t t3
         have B4 := bnext (bnext b2 b3 (Nat.le_refl _)) b4 (Nat.le_refl _)
         have d5 := (d1.later B4).step s5 (by have := d1.lt; have := b2.size; have := b3.size; omega)
         have S5 := (Stp.of_below (bnext b1 B4 (Nat.le_refl _)) (fun x => w.heap.size ≤ x)).next s5 (fun x hx => .inl (by subst hx; have := b1.size; have := b2.size; have := b3.size; omega))
         clear b1 m1 d1 d2 m2 b2 b3 a4 z4 r4 b4 s5 B4)
      | (go_at_call 16; refine (h4 _ _ _ _ d5.bls).mono ?_; rintro e w6 ⟨rfl, b6⟩)
      | (refine at_newG (by rfl) (by rfl) ?_; intro g7 w7 a7 z7 r7 b7)
      | (refine at_putG (by rfl) _ _ (by rfl) g7 (by rfl) G (by rfl) _ r7 ?_; intro w8 r8 s8
         have B7 := bnext b6 b7 (Nat.le_refl _)
         have d8 := (d5.later B7).step s8 (by have := d5.lt; have := b6.size; omega)
         have q8 : GR w8 g4 G := (r5.later B7).step s8 (by have := r5.lt; have := b6.size; omega)
         have S8 := (S5.next (Stp.of_below B7 (fun _ => False)) (fun _ h => h.elim)).next s8 (fun x hx => .inl (by subst hx; have := S5.size; have := b6.size; omega))
         clear d5 r5 S5 b6 a7 z7 r7 b7 s8 B7)
      | (go_at_call 14; refine (h2 _ _ _ _ d8.bls hN).mono ?_; rintro e w9 ⟨g9, c9, rfl, d9, m9, b9⟩)
      | (go_at_call 17; refine (h5 _ _ _ _ d9.bls).mono ?_; rintro e w10 ⟨v, rfl, mv, _, b10⟩)
      | (go_at_call 18; refine (h6 _ _ _ _ ((d8.later b9).later b10).bls).mono ?_; rintro e W ⟨gc, cc, rfl, rg, le1, le2, b11⟩
         have B11 := bnext (bnext b9 b10 (Nat.le_refl _)) b11 (Nat.le_refl _)
         have mv11 := mv.later b11
         have q11 := q8.later B11
         have r11 := r8.later B11
         have S11 := S8.next (Stp.of_below B11 (fun _ => False)) (fun _ h => h.elim)
         clear q8 r8 S8 B11 b9 b10 b11 d8 d9 m9 mv)
      | (refine at_getG (by rfl) _ (by rfl) g4 (by rfl) G q11 ?_)
      | (refine at_getG (by rfl) _ (by rfl) g7 (by rfl) G r11 ?_)
      | (refine at_mlen (by rfl) _ (by rfl) v _ _ (by rfl) mv11 ?_))
    clear h1 h2 h3 h4 h5 h6 q11 r11
    unfold maxLen at le2
    go_loopw [13] (fun i wr => ∃ k : Nat, k ≤ K ∧ i = .int .i64 k ∧ Below W.heap.size W wr) (fun i _ => K - (intOf i).toNat)
    case atStart => exact ⟨0, Nat.zero_le _, rfl, Below.refl _ _⟩
    case round =>
      obtain ⟨k, hk, rfl, bk⟩ := hrel
      by_cases hlt : k < K
      · obtain ⟨hf, h10⟩ := hML k hlt
        have hr := (Stp.of_below bk (fun _ => False)).range (rg k hlt) id
        obtain ⟨cx, rx⟩ := chc_at hr
        have hwf := wf_small _ h10
        have mk := mv11.later bk
        generalize M.getD k (0, Blk.zero) = x at *
        obtain ⟨x1, y⟩ := x
        simp only at hf h10 cx rx hwf
        have hly := y.len
        have e1 : (f (x1 : Int)).getD Blk.zero = y := by rw [hf]; rfl
        have e2 : (f (x1 : Int)).isSome = true := by rw [hf]; rfl
        have qB : ∀ w, (Op.equalIn 10000 32 (.agg y.cs.toArray) (.agg y.cs.toArray)).run Try.prog w = .ok true w := fun w => by rw [eqB]; simp
        have gB := guardB
        clear hf hML hr rg
        go_wp2_with (first
          | (refine at_mlook (by rfl) _ _ (by rfl) v _ _ (by rfl) mk (x1 : Int) (by rfl) hwf ?_; rw [e1, e2])
          | (refine at_new 32 64 arrB (by rfl) (by rfl) ?_; intro g6 w6 a6 z6 r6 b6)
          | (refine at_put 32 64 arrB (by rfl) _ _ (by rfl) g6 (by rfl) y.l (by rfl) hly _ r6 (by simp) ?_; intro U r7 s7))
        have S7 : Stp (fun z => W.heap.size ≤ z) W U := (Stp.of_below (bnext bk b6 (Nat.le_refl _)) _).next s7 (fun z hz => .inl (by subst hz; have := bk.size; omega))
        have s67 : Stp (fun z => wr.heap.size ≤ z) wr U := (Stp.of_below b6 _).next s7 (fun z hz => .inl (by subst hz; exact a6))
        have hgl : gc < wr.heap.size := World.block_lt_of_cell? _ _ cx
        have rxU := s67.range rx (by omega)
        refine wp_region_held_drew (S := fun u => Below U.heap.size U u) (by kernel_rfl) (Below.refl _ _).drew (fun hHeld => ?_)
        refine wpAnyH_take (i := 0) (oi := { dst := some 83, op := Op.move (Operand.tmp 15), type := 4, pos := _, after := #[], guard := none }) (v := .bool true) rfl (by kernel_rfl) (by kernel_rfl) (by kernel_rfl) (fun _ _ _ h => h) (Or.inl ⟨by rfl, ?_⟩) hHeld ?_
        · intro u hu
          go_simp
        try simp only [Act.put, List.setIfInBounds_toArray, List.set_cons_zero, List.set_cons_succ]
        refine wpAnyH_take (i := 1) (oi := { dst := some 84, op := Op.unOp UnOp.not 4 (Operand.tmp 83), type := 4, pos := _, after := #[{ on := 0, ground := Ground.data }], guard := none }) (v := .bool false) rfl (by kernel_rfl) (by kernel_rfl) (by kernel_rfl) (fun _ _ _ h => h) (Or.inl ⟨by rfl, ?_⟩) hHeld ?_
        · intro u hu
          go_simp
        try simp only [Act.put, List.setIfInBounds_toArray, List.set_cons_zero, List.set_cons_succ]
        refine wpAnyH_take (i := 2) (oi := { dst := some 85, op := Op.move (Operand.tmp 84), type := 4, pos := _, after := #[{ on := 1, ground := Ground.data }], guard := none }) (v := .bool false) rfl (by kernel_rfl) (by kernel_rfl) (by kernel_rfl) (fun _ _ _ h => h) (Or.inl ⟨by rfl, ?_⟩) hHeld ?_
        · intro u hu
          go_simp
        try simp only [Act.put, List.setIfInBounds_toArray, List.set_cons_zero, List.set_cons_succ]
        refine wpAnyH_take (i := 3) (oi := { dst := some 86, op := Op.load 32 (Operand.tmp 14), type := 32, pos := _, after := #[{ on := 2, ground := Ground.guard }], guard := some (2, false) }) (v := .agg y.cs.toArray) rfl (by kernel_rfl) (by kernel_rfl) (by kernel_rfl) (fun _ _ _ h => h)
          (yields_row 32 64 arrB (by rfl) (.tmp 14) rfl g6 (by rfl) y.l hly (fun u hu => r7.later hu)) hHeld ?_
        try simp only [Act.put, List.setIfInBounds_toArray, List.set_cons_zero, List.set_cons_succ]
        refine wpAnyH_take (i := 4) (oi := { dst := some 87, op := Op.move (Operand.tmp 11), type := 46, pos := _, after := #[{ on := 2, ground := Ground.guard }], guard := some (2, false) }) (v := .slice (some ⟨gc, 0, none⟩) K cc) rfl (by kernel_rfl) (by kernel_rfl) (by kernel_rfl) (fun _ _ _ h => h) (Or.inl ⟨by rfl, ?_⟩) hHeld ?_
        · intro u hu
          go_simp
        try simp only [Act.put, List.setIfInBounds_toArray, List.set_cons_zero, List.set_cons_succ]
        refine wpAnyH_take (i := 5) (oi := { dst := some 88, op := Op.move (Operand.tmp 13), type := 3, pos := _, after := #[{ on := 2, ground := Ground.guard }], guard := some (2, false) }) (v := .int .i64 (k : Int)) rfl (by kernel_rfl) (by kernel_rfl) (by kernel_rfl) (fun _ _ _ h => h) (Or.inl ⟨by rfl, ?_⟩) hHeld ?_
        · intro u hu
          go_simp
        try simp only [Act.put, List.setIfInBounds_toArray, List.set_cons_zero, List.set_cons_succ]
        refine wpAnyH_take (i := 6) (oi := { dst := some 89, op := Op.indexAddr 46 (Operand.tmp 87) (Operand.tmp 88), type := 0, pos := _, after := #[{ on := 4, ground := Ground.data }, { on := 5, ground := Ground.data }, { on := 2, ground := Ground.guard }], guard := some (2, false) }) (v := .pointer (some ⟨gc, k * 65, none⟩)) rfl (by kernel_rfl) (by kernel_rfl) (by kernel_rfl) (fun _ _ _ h => h) (Or.inl ⟨by rfl, ?_⟩) hHeld ?_
        · intro u hu
          go_simp
        try simp only [Act.put, List.setIfInBounds_toArray, List.set_cons_zero, List.set_cons_succ]
        refine wpAnyH_take (i := 7) (oi := { dst := some 90, op := Op.fieldAddr 51 (Operand.tmp 89) 1, type := 0, pos := _, after := #[{ on := 6, ground := Ground.data }, { on := 2, ground := Ground.guard }], guard := some (2, false) }) (v := .pointer (some ⟨gc, k * 65 + 1, none⟩)) rfl (by kernel_rfl) (by kernel_rfl) (by kernel_rfl) (fun _ _ _ h => h) (Or.inl ⟨by rfl, ?_⟩) hHeld ?_
        · intro u hu
          go_simp
        try simp only [Act.put, List.setIfInBounds_toArray, List.set_cons_zero, List.set_cons_succ]
        refine wpAnyH_take (i := 8) (oi := { dst := some 91, op := Op.load 32 (Operand.tmp 90), type := 32, pos := _, after := #[{ on := 7, ground := Ground.data }, { on := 2, ground := Ground.guard }], guard := some (2, false) }) (v := .agg y.cs.toArray) rfl (by kernel_rfl) (by kernel_rfl) (by kernel_rfl) (fun _ _ _ h => h)
          (yieldsIf_load_mid (by rfl) 32 (.tmp 90) rfl gc (k * 65 + 1) (by rfl) y.cs _ (fun u hu => (Stp.of_below hu (fun _ => False)).range rxU id) arrB.und rfl (by rw [arrB.size, y.cs_len])) hHeld ?_
        try simp only [Act.put, List.setIfInBounds_toArray, List.set_cons_zero, List.set_cons_succ]
        refine wpAnyH_take (i := 9) (oi := { dst := some 92, op := Op.binOp BinOp.neq 32 (Operand.tmp 86) (Operand.tmp 91) 32, type := 4, pos := _, after := #[{ on := 3, ground := Ground.data }, { on := 8, ground := Ground.data }, { on := 2, ground := Ground.guard }], guard := some (2, false) }) (v := .bool false) rfl (by kernel_rfl) (by kernel_rfl) (by kernel_rfl) (fun _ _ _ h => h) (Or.inl ⟨by rfl, ?_⟩) hHeld ?_
        · intro u hu
          go_simp
        try simp only [Act.put, List.setIfInBounds_toArray, List.set_cons_zero, List.set_cons_succ]
        refine wpAnyH_take (i := 10) (oi := { dst := some 93, op := Op.pick (Operand.tmp 85) (Operand.const (Value.bool true)) (Operand.tmp 92), type := 4, pos := _, after := #[{ on := 2, ground := Ground.data }, { on := 9, ground := Ground.data }], guard := none }) (v := .bool false) rfl (by kernel_rfl) (by kernel_rfl) (by kernel_rfl) (fun _ _ _ h => h) (Or.inl ⟨by rfl, ?_⟩) hHeld ?_
        · intro u hu
          go_simp
        try simp only [Act.put, List.setIfInBounds_toArray, List.set_cons_zero, List.set_cons_succ]
        refine wpAnyH_done (by kernel_rfl) ?_ _
        go_wp2_with fail
        go_roundw
        case rel => exact ⟨k + 1, by omega, by go_num, (S7.next (Stp.of_below hHeld (fun _ => False)) (fun _ h => h.elim)).below (Nat.le_refl _) (fun _ h => h)⟩
        case measure => simp [intOf]; omega
      · obtain rfl : k = K := by omega
        go_wp2_with (first
          | (go_at_call 13; refine (sworks_any _).mono ?_; rintro e w22 ⟨rfl, b22⟩))
        go_returns
        exact ⟨rfl, (S11.next (Stp.of_below (bnext bk b22 (Nat.le_refl _)) (fun _ => False)) (fun _ h => h.elim)).below (Nat.le_refl _) (fun _ h => h)⟩

theorem own : ownKnob Try.prog.godebug = none := by kernel_rfl
theorem laidOut : laidOutB Try.prog = true := by kernel_rfl
set_option maxRecDepth 100000 in
theorem lifted (os : Os) (started : os.Started) (H : Type) (enc : TypeId × Value → H) :
    ReturnsInHanded {} Try.checked os 4 .any (Rows.superFindsSpec.pre6 enc Try.prog Try.f4 Rows.superFindsRow.domain false) (Rows.superFindsSpec.post enc Try.prog Try.f4 false true false false) := by
  refine returnsInHanded_of_change (C := Try.checked) own started (by kernel_rfl) Try.func4
    (ChangeSpec.witness6 (enc := enc) (C := Try.checked) false ⟨#[], #[.slice none 0 0], []⟩ 8 (by kernel_rfl) (by kernel_rfl) (by kernel_rfl) (by kernel_rfl)) ?_
  intro W base args ds gs before hval0 hW hcnd _
  have hval : ∀ (j : Nat) t v, Try.f4.params[j]? = some t → args[j]? = some v → Value.okWide Try.prog W .any base t v := hval0
  have hW' := hW
  obtain ⟨p, q, hA0, hV, rfl, hfz, hnd⟩ := hW
  have hA : DataW.TrodAll enc Try.prog W 0 (fun _ => true) true Try.f4.params.toList args.toList ds p := hA0
  rw [Try.params4] at hA hval
  obtain ⟨v0, vs0, d0, ds0, p0, q0, hargs, rfl, rfl, h0, r0⟩ := trodAll_cons hA
  obtain ⟨rfl, rfl, rfl⟩ := trodAll_nil r0
  obtain rfl : args = #[v0] := by cases args; simp_all
  obtain ⟨rfl, rfl⟩ := trodVars_none hV
  obtain ⟨a0, len0, cap0, rfl⟩ := okWide_slice Try.underlying39 (hval 0 39 v0 rfl rfl)
  have k0 := h0
  have lt0 : ∀ x ∈ p0, x.block < W.heap.size := by obtain ⟨m, hm⟩ := k0; exact DataW.trod_lt m _ _ _ hm
  obtain ⟨z0, w0⟩ : ∃ zs, Bls W a0 len0 cap0 zs := by
    obtain ⟨fuel, hf⟩ := h0
    obtain ⟨a, n, c, l, hcs, hi⟩ := bls_of_trod hf
    simp [Value.cells] at hcs
    obtain ⟨rfl, rfl, rfl⟩ := hcs
    exact ⟨_, hi⟩
  clear hA0 hval0
  refine (walk a0 len0 cap0 z0 W w0).mono fun e W' ⟨he, bel⟩ => ?_
  subst he
  exact ⟨_, rfl, _, _, _, [], _, [], hW', trodAll_mk1 (shut_bool Try.underlying4 _), (trodAll_cons_mk (Below.trod laidOut (by kernel_rfl) (of_decide_eq_true (by kernel_rfl)) k0 bel lt0) trodAll_mk0), rfl, bel.frame _, fun h => by cases h⟩
theorem over : Rows.superFindsRow.holds Try.pinned (OpenSpec.ofChange Rows.superFindsSpec) :=
  OpenClaim.holds_of_wide 4 Try.f4 rfl rfl rfl rfl rfl rfl rfl ⟨rfl, rfl, rfl, rfl, rfl⟩ rfl rfl rfl rfl rfl (by kernel_rfl) Try.func4 (by kernel_rfl)
    (of_decide_eq_true (by kernel_rfl)) (by unfold Func.isWrapper; first | (rw [if_pos (by decide +kernel)]; kernel_rfl) | (rw [if_neg (by decide +kernel)]; exact ⟨rfl, rfl⟩))
    (fun os started H enc _ => lifted os started H enc)
end Go.Proofs.Ytjbgcbokffaemaa.superFinds
namespace Go.Proofs.Ytjbgcbokffaemaa
/-- The statement. -/
theorem superFinds_holds : Rows.SuperFindsSaid := superFinds.over
#print axioms superFinds_holds
end Go.Proofs.Ytjbgcbokffaemaa
