/-
  What the document's Mend of layer 8 returns, for every disk: no statement is proved here.
-/
import Derived.Test.YtjbgcbokffaemaaSupL
namespace Go.Proofs.Ytjbgcbokffaemaa
open Go.ChangeShapes Go.WideShapes Go.ChangeAt Go.RowKit
set_option linter.unusedVariables false

/-- What must be written of the first k sectors, by rising ones. -/
def lK (l : List Blk) (k : Nat) : List (Nat × Blk) :=
  (if 0 < k then (if d0 l then [(0, nx (s0 l) (mdP l))] else []) else []) ++ (if 1 < k then (if d1 l then [(1, nx (s1 l) (mdP l))] else []) else [])
theorem lK_two {l : List Blk} (h : fdE l = 0) : lK l 2 = mdL l := by unfold lK mdL; simp [h]
theorem lK_le (l : List Blk) (k : Nat) : (lK l k).length ≤ 2 := by
  unfold lK
  rw [List.length_append]
  have h0 : (if 0 < k then (if d0 l then [(0, nx (s0 l) (mdP l))] else []) else []).length ≤ 1 := by split <;> (try split) <;> simp
  have h1 : (if 1 < k then (if d1 l then [(1, nx (s1 l) (mdP l))] else []) else []).length ≤ 1 := by split <;> (try split) <;> simp
  omega
theorem lK_no {l : List Blk} {k : Nat} (hk : k < 2) (hd : dueB (l.getD k Blk.zero) (mdP l) = false) : lK l (k + 1) = lK l k := by
  have : k = 0 ∨ k = 1 := by omega
  rcases this with rfl | rfl
  · rw [getD0] at hd
    have hd' : d0 l = false := hd
    unfold lK; simp [hd']
  · rw [getD1] at hd
    have hd' : d1 l = false := hd
    unfold lK; simp [hd']
theorem lK_yes {l : List Blk} {k : Nat} (hk : k < 2) (hd : dueB (l.getD k Blk.zero) (mdP l) = true) : lK l (k + 1) = lK l k ++ [(k, nx (l.getD k Blk.zero) (mdP l))] := by
  have : k = 0 ∨ k = 1 := by omega
  rcases this with rfl | rfl
  · rw [getD0] at hd ⊢
    have hd' : d0 l = true := hd
    unfold lK; simp [hd']
  · rw [getD1] at hd ⊢
    have hd' : d1 l = true := hd
    unfold lK; simp [hd']
theorem due_ways (b : Blk) (p : Ld) : (gE 1 b = 21 ∧ dueB b p = true) ∨ (gE 1 b = 0 ∧ decide (gP 1 b = p) = false ∧ dueB b p = true) ∨ (gE 1 b = 0 ∧ decide (gP 1 b = p) = true ∧ dueB b p = false) := by
  rw [← due_ref]
  rcases si_ways b with ⟨h, _⟩ | ⟨h, _⟩
  · exact .inl ⟨h, by rw [if_neg (by omega)]⟩
  · by_cases h2 : gP 1 b = p
    · exact .inr (.inr ⟨h, by simp [h2], by rw [if_pos h]; simp [h2]⟩)
    · exact .inr (.inl ⟨h, by simp [h2], by rw [if_pos h]; simp [h2]⟩)
theorem rnext_nx (b : Blk) (p : Ld) (w : World) :
    Calls Try.prog 35 #[.int .i64 1, .agg b.cs.toArray, .agg p.cs.toArray] w fun e w' => e = .returned (.tuple #[.agg (nx b p).cs.toArray, .int .i64 0]) ∧ Below w.heap.size w w' := rnext_any 1 b p w
theorem rsput_md {l : List Blk} (h : fdE l = 0) (w : World) :
    Calls Try.prog 8 #[gv (fdG l)] w fun e w' => e = .returned (.tuple #[.agg (mdP l).cs.toArray, .int .i64 0]) ∧ Below w.heap.size w w' := by
  have := rsput_any (fdG l) w
  rw [show (fdG l).err = 0 from if_pos (fd_ok h).2.1] at this
  exact this
set_option maxRecDepth 100000 in
set_option maxHeartbeats 8000000 in
theorem rmend_any (a : Option Addr) (n c : Nat) (l : List Blk) (w : World) (h : Bls w a n c l) :
    Calls Try.prog 18 #[.slice a n c] w fun e w' => ∃ v, e = .returned (.tuple #[v, .int .i64 (fdE l)]) ∧ ChV w' v (mdL l) ∧ Below w.heap.size w w' := by
  have hl := h.len
  have hle := h.le
  have hcap := h.cap
  unfold maxLen at hcap
  have hfind := rfind_any a n c l
  rcases fdE_or l with hE | hE
  · obtain ⟨hn, hok, _⟩ := fd_ok hE
    rw [hl] at hn
    have hput := rsput_md hE
    have hyes := fun k hk hd => lK_yes (l := l) (k := k) hk hd
    have hno := fun k hk hd => lK_no (l := l) (k := k) hk hd
    have hN : Hid (lK l 2 = mdL l) := lK_two hE
    rw [hE] at hfind ⊢
    have hlp := (mdP l).len
    generalize mdP l = p at *
    generalize fdG l = s at *
    obtain ⟨b, o, rfl, hc⟩ := h.cell (by omega)
    go_enter Try.func18, Try.ntmps18
    go_wp2_with (first
      | (go_at_call 16; refine (hfind _ h).mono ?_; rintro e w1 ⟨rfl, b1⟩)
      | (refine at_newG (by rfl) (by rfl) ?_; intro g4 w2 a2 z2 r2 b2)
      | (refine at_putG (by rfl) _ _ (by rfl) g4 (by rfl) s (by rfl) _ r2 ?_; intro w3 r3 s3)
      | (refine at_getG (by rfl) _ (by rfl) g4 (by rfl) s r3 ?_)
      | (go_at_call 8; refine (hput _).mono ?_; rintro e w4 ⟨rfl, b4⟩)
      | (refine at_new 25 54 arrL (by rfl) (by rfl) ?_; intro g7 w5 a5 z5 r5 b5)
      | (refine at_put 25 54 arrL (by rfl) _ _ (by rfl) g7 (by rfl) p.l (by rfl) hlp _ r5 (by simp) ?_; intro V r7 s6)
      | (refine at_bs0C (by rfl) (by rfl) ?_; intro gm W am m7 b7))
    have S3 := (Stp.of_below (bnext b1 b2 (Nat.le_refl _)) (fun x => w.heap.size ≤ x)).next s3 (fun x hx => .inl (by subst hx; have := b1.size; omega))
    have S5 := S3.next (Stp.of_below (bnext b4 b5 (Nat.le_refl _)) (fun _ => False)) (fun _ h => h.elim)
    have SV := S5.next s6 (fun x hx => .inl (by subst hx; have := S3.size; have := b4.size; omega))
    have hg7 := r7.lt
    have hbw : b < w.heap.size := World.block_lt_of_cell? w ⟨b, _, none⟩ (hc 0 (by omega) 0 ((l.getD 0 Blk.zero).cs[0]'(by rw [Blk.cs_len]; omega)) (by simp))
    have hbV := Nat.lt_of_lt_of_le hbw SV.size
    have hc2 : ∀ i, i < n → V.rangeAt b (o + i * 64) (l.getD i Blk.zero).cs := fun i hi => SV.range (hc i hi) (by omega)
    have sW : Stp (fun x => V.heap.size ≤ x) V W := Stp.of_below b7 _
    clear hc h a2 z2 r2 b2 b1 s3 r3 a5 z5 r5 b5 b4 s6 S3 S5 b7 hfind hput am
    clear w1 w2 w3 w4 w5
    go_loopw [9, 10] (fun v i wr => ∃ k g cap : Nat, k ≤ 2 ∧ i = .int .i64 k ∧ v = .slice (some ⟨g, 0, none⟩) (lK l k).length cap ∧ OwC V.heap.size wr g cap (lK l k) ∧ Stp (fun x => V.heap.size ≤ x) V wr) (fun _ i _ => 2 - (intOf i).toNat)
    case atStart => exact ⟨0, gm, 0, Nat.zero_le _, rfl, rfl, m7, sW⟩
    case round =>
      obtain ⟨k, g, cap, hk, rfl, rfl, mk, sk⟩ := hrel
      by_cases hlt : k < 2
      · have hck := sk.range (hc2 k (by omega)) (show ¬ V.heap.size ≤ b by omega)
        have hyk := hyes k hlt
        have hnk := hno k hlt
        have hkn : k < n := by omega
        have hl2 := lK_le l k
        have hml := mk.lt
        generalize l.getD k Blk.zero = x at *
        generalize hL : lK l k = L at *
        have hnx := rnext_nx x p
        have hly := (nx x p).len
        have hget := rget_any 1 x
        have hlq := (gP 1 x).len
        have hway := due_ways x p
        have heq := eqL (gP 1 x) p
        have hgl := guardL
        have hrk := r7.step sk (show ¬ V.heap.size ≤ g7 by omega)
        clear hyes hno hL
        generalize nx x p = y at *
        generalize gP 1 x = q at *
        generalize gE 1 x = e0 at *
        generalize gT 1 x = t0 at *
        generalize decide (q = p) = dd at *
        rcases hway with ⟨rfl, hd⟩ | ⟨rfl, rfl, hd⟩ | ⟨rfl, rfl, hd⟩
        · have hF : Hid (lK l (k + 1) = L ++ [(k, y)]) := hyk hd
          clear hyk hnk hd
          go_wp2_with (first
            | (refine at_getM (by rfl) _ (by rfl) b (o + k * 64) (by rfl) x hck ?_)
            | (go_at_call 21; refine (hget _).mono ?_; rintro e w6 ⟨rfl, b6⟩)
            | (refine at_new 25 54 arrL (by rfl) (by rfl) ?_; intro g11 w8 a8 z8 r8 b8)
            | (refine at_put 25 54 arrL (by rfl) _ _ (by rfl) g11 (by rfl) q.l (by rfl) hlq _ r8 (by simp) ?_; intro U r9 s9
               have S9 : Stp (fun z => wr.heap.size ≤ z) wr U := (Stp.of_below (bnext b6 b8 (Nat.le_refl _)) _).next s9 (fun z hz => .inl (by subst hz; have := b6.size; omega))
               have q9 : Row U g7 p.l := hrk.step S9 (by have := hrk.lt; omega)
               have m9 := mk.step S9 (by omega)
               have sU : Stp (fun x => V.heap.size ≤ x) V U := sk.next S9 (fun z hz => .inl (Nat.le_trans sk.size hz))
               have ck9 := S9.range hck (by have := sk.size; omega)
               clear b6 b8 a8 z8 r8 s9 S9 mk sk hck hrk)
            | (refine at_getL (by rfl) _ (by rfl) g11 (by rfl) q r9 ?_)
            | (refine at_getL (by rfl) _ (by rfl) g7 (by rfl) p q9 ?_))
          refine wp_region_held_drew (S := fun u => Below U.heap.size U u) (by kernel_rfl) (Below.refl _ _).drew (fun hHeld => ?_)
          refine wpAnyH_take (i := 0) (oi := { dst := some 52, op := Op.move (Operand.tmp 0), type := 39, pos := _, after := #[], guard := none }) (v := .slice (some ⟨b, o, none⟩) n c) rfl (by kernel_rfl) (by kernel_rfl) (by kernel_rfl) (fun _ _ _ h => h) (Or.inl ⟨by rfl, ?_⟩) hHeld ?_
          · intro u hu
            go_simp
          try simp only [Act.put, List.setIfInBounds_toArray, List.set_cons_zero, List.set_cons_succ]
          refine wpAnyH_take (i := 1) (oi := { dst := some 53, op := Op.move (Operand.tmp 10), type := 3, pos := _, after := #[], guard := none }) (v := .int .i64 (k : Int)) rfl (by kernel_rfl) (by kernel_rfl) (by kernel_rfl) (fun _ _ _ h => h) (Or.inl ⟨by rfl, ?_⟩) hHeld ?_
          · intro u hu
            go_simp
          try simp only [Act.put, List.setIfInBounds_toArray, List.set_cons_zero, List.set_cons_succ]
          refine wpAnyH_take (i := 2) (oi := { dst := some 54, op := Op.indexAddr 39 (Operand.tmp 52) (Operand.tmp 53), type := 0, pos := _, after := #[{ on := 0, ground := Ground.data }, { on := 1, ground := Ground.data }], guard := none }) (v := .pointer (some ⟨b, o + k * 64, none⟩)) rfl (by kernel_rfl) (by kernel_rfl) (by kernel_rfl) (fun _ _ _ h => h) (Or.inl ⟨by rfl, ?_⟩) hHeld ?_
          · intro u hu
            go_simp
          try simp only [Act.put, List.setIfInBounds_toArray, List.set_cons_zero, List.set_cons_succ]
          refine wpAnyH_take (i := 3) (oi := { dst := some 55, op := Op.load 32 (Operand.tmp 54), type := 32, pos := _, after := #[{ on := 2, ground := Ground.data }], guard := none }) (v := .agg x.cs.toArray) rfl (by kernel_rfl) (by kernel_rfl) (by kernel_rfl) (fun _ _ _ h => h)
            (yieldsIf_load_mid (by rfl) 32 (.tmp 54) rfl b (o + k * 64) (by rfl) x.cs _ (fun u hu => (Stp.of_below hu (fun _ => False)).range ck9 id) arrB.und rfl (by rw [arrB.size, x.cs_len])) hHeld ?_
          try simp only [Act.put, List.setIfInBounds_toArray, List.set_cons_zero, List.set_cons_succ]
          refine wpAnyH_take (i := 4) (oi := { dst := some 56, op := Op.load 25 (Operand.tmp 7), type := 25, pos := _, after := #[], guard := none }) (v := .agg p.cs.toArray) rfl (by kernel_rfl) (by kernel_rfl) (by kernel_rfl) (fun _ _ _ h => h)
            (yields_row 25 54 arrL (by rfl) (.tmp 7) rfl g7 (by rfl) p.l hlp (fun u hu => q9.later hu)) hHeld ?_
          try simp only [Act.put, List.setIfInBounds_toArray, List.set_cons_zero, List.set_cons_succ]
          refine wpAnyH_ready (rs := [5, 9]) (by kernel_rfl) (by simp) ?_
          refine (AllReadyH.cons (o := { dst := some 57, op := Op.call { callee := Callee.value (Operand.func 35), args := #[Operand.const (Value.int IntKind.i64 1), Operand.tmp 55, Operand.tmp 56], argTypes := #[3, 32, 25] }, type := 33, pos := _, after := #[{ on := 3, ground := Ground.data }, { on := 4, ground := Ground.data }], guard := none }) rfl (fun K hK => ?_) (AllReadyH.cons (o := { dst := some 14, op := Op.alloc 32, type := 0, pos := _, after := #[], guard := none }) rfl (fun K hK => ?_) AllReadyH.nil))
          · skip
            go_simp
            refine (hnx _).mono ?_
            rintro e v5 ⟨rfl, c5⟩
            try go_wp2_with fail
            try (have y9 := y9.later c5)
            refine hK.out _ _ (bnext hHeld c5 (Nat.le_refl _)) (fun hHeld => ?_)
            clear hK K
            try simp only [Act.put, List.setIfInBounds_toArray, List.set_cons_zero, List.set_cons_succ]
            refine wpAnyH_take (i := 6) (oi := { dst := some 51, op := Op.move (Operand.tmp 57), type := 33, pos := _, after := #[{ on := 5, ground := Ground.data }], guard := none }) (v := .tuple #[.agg y.cs.toArray, .int .i64 0]) rfl (by kernel_rfl) (by kernel_rfl) (by kernel_rfl) (fun _ _ _ h => h) (Or.inl ⟨by rfl, ?_⟩) hHeld ?_
            · intro u hu
              go_simp
            try simp only [Act.put, List.setIfInBounds_toArray, List.set_cons_zero, List.set_cons_succ]
            refine wpAnyH_take (i := 7) (oi := { dst := some 58, op := Op.extract (Operand.tmp 51) 0, type := 32, pos := _, after := #[{ on := 6, ground := Ground.data }], guard := none }) (v := .agg y.cs.toArray) rfl (by kernel_rfl) (by kernel_rfl) (by kernel_rfl) (fun _ _ _ h => h) (Or.inl ⟨by rfl, ?_⟩) hHeld ?_
            · intro u hu
              go_simp
            try simp only [Act.put, List.setIfInBounds_toArray, List.set_cons_zero, List.set_cons_succ]
            refine wpAnyH_take (i := 8) (oi := { dst := some 59, op := Op.extract (Operand.tmp 51) 1, type := 26, pos := _, after := #[{ on := 6, ground := Ground.data }, { on := 10, ground := Ground.gcOnly Departure.lateStores }], guard := none }) (v := .int .i64 0) rfl (by kernel_rfl) (by kernel_rfl) (by kernel_rfl) (fun _ _ _ h => h) (Or.inl ⟨by rfl, ?_⟩) hHeld ?_
            · intro u hu
              go_simp
            try simp only [Act.put, List.setIfInBounds_toArray, List.set_cons_zero, List.set_cons_succ]
            refine wpAnyH_ready (rs := [9]) (by kernel_rfl) (by simp) ?_
            refine (AllReadyH.cons (o := { dst := some 14, op := Op.alloc 32, type := 0, pos := _, after := #[], guard := none }) rfl (fun K hK => ?_) AllReadyH.nil)
            refine step_new 32 64 arrB rfl rfl ?_
            intro g9 v9 a9 z9 y9 b9
            have m9' : U.heap.size ≤ g9 := Nat.le_trans hHeld.size a9
            refine hK.out _ _ (bnext hHeld b9 (Nat.le_refl _)) (fun hHeld => ?_)
            clear hK K
            try simp only [Act.put, List.setIfInBounds_toArray, List.set_cons_zero, List.set_cons_succ]
            refine wpAnyH_ready (rs := [10]) (by kernel_rfl) (by simp) ?_
            refine (AllReadyH.cons (o := { dst := none, op := Op.store 32 (Operand.tmp 14) (Operand.tmp 58), type := 0, pos := _, after := #[{ on := 9, ground := Ground.data }, { on := 7, ground := Ground.data }, { on := 5, ground := Ground.chain }, { on := 0, ground := Ground.phase }, { on := 1, ground := Ground.phase }, { on := 2, ground := Ground.phase }, { on := 3, ground := Ground.phase }, { on := 4, ground := Ground.phase }, { on := 5, ground := Ground.phase }, { on := 6, ground := Ground.phase }, { on := 7, ground := Ground.phase }, { on := 8, ground := Ground.textOnly Departure.lateStores }, { on := 9, ground := Ground.phase }], guard := none }) rfl (fun K hK => ?_) AllReadyH.nil)
            refine step_put 32 64 arrB rfl (.tmp 14) (.tmp 58) rfl g9 (by rfl) y.l (by rfl) hly _ y9 (by simp) ?_
            intro v10 y10 s10
            refine hK.out _ _ (((Stp.of_below hHeld (fun x => U.heap.size ≤ x)).next s10 (fun x hx => .inl (by subst hx; exact m9'))).below (Nat.le_refl _) (fun _ h => h)) (fun hHeld => ?_)
            clear hK K
            try simp only [Act.put]
            refine wpAnyH_take (i := 11) (oi := { dst := some 15, op := Op.assign (Operand.tmp 59), type := 26, pos := _, after := #[{ on := 8, ground := Ground.data }, { on := 10, ground := Ground.chain }, { on := 0, ground := Ground.phase }, { on := 1, ground := Ground.phase }, { on := 2, ground := Ground.phase }, { on := 3, ground := Ground.phase }, { on := 4, ground := Ground.phase }, { on := 5, ground := Ground.phase }, { on := 6, ground := Ground.phase }, { on := 7, ground := Ground.phase }, { on := 8, ground := Ground.phase }, { on := 9, ground := Ground.phase }, { on := 10, ground := Ground.phase }], guard := none }) (v := .int .i64 0) rfl (by kernel_rfl) (by kernel_rfl) (by kernel_rfl) (fun _ _ _ h => h) (Or.inl ⟨by rfl, ?_⟩) hHeld ?_
            · intro u hu
              go_simp
            try simp only [Act.put, List.setIfInBounds_toArray, List.set_cons_zero, List.set_cons_succ]
            refine wpAnyH_done (by kernel_rfl) ?_ _
            have oc := m9.later hHeld
            have sc := sU.next (Stp.of_below hHeld (fun _ => False)) (fun _ h => h.elim)
            go_wp2_with (first
              | (refine at_getB (by rfl) _ (by rfl) g9 (by rfl) y y10 ?_)
              | (refine at_bldC (by rfl) _ _ (by rfl) k (by rfl) y (by rfl) ?_)
              | (refine at_bsC (by rfl) _ (by rfl) (k, y) (by rfl) ?_; intro g20 w20 a20 r20 b20)
              | (at_builtin; refine at_appC rfl _ _ rfl rfl (oc.later b20) g20 (k, y) rfl r20 (by omega) (by have := sc.size; have := b20.size; omega) ?_; intro g21 c21 w21 o21 s21))
            have s21' := (sc.next (Stp.of_below b20 (fun _ => False)) (fun _ h => h.elim)).next s21 (fun _ h => .inl h)
            go_roundw
            case rel => exact ⟨k + 1, g21, c21, by omega, by go_num, by rw [hF.out]; simp, by rw [hF.out]; exact o21, s21'⟩
            case measure => simp [intOf]; omega
          · skip
            refine step_new 32 64 arrB rfl rfl ?_
            intro g9 v9 a9 z9 y9 b9
            have m9' : U.heap.size ≤ g9 := Nat.le_trans hHeld.size a9
            refine hK.out _ _ (bnext hHeld b9 (Nat.le_refl _)) (fun hHeld => ?_)
            clear hK K
            try simp only [Act.put, List.setIfInBounds_toArray, List.set_cons_zero, List.set_cons_succ]
            refine wpAnyH_ready (rs := [5]) (by kernel_rfl) (by simp) ?_
            refine (AllReadyH.cons (o := { dst := some 57, op := Op.call { callee := Callee.value (Operand.func 35), args := #[Operand.const (Value.int IntKind.i64 1), Operand.tmp 55, Operand.tmp 56], argTypes := #[3, 32, 25] }, type := 33, pos := _, after := #[{ on := 3, ground := Ground.data }, { on := 4, ground := Ground.data }], guard := none }) rfl (fun K hK => ?_) AllReadyH.nil)
            go_simp
            refine (hnx _).mono ?_
            rintro e v5 ⟨rfl, c5⟩
            try go_wp2_with fail
            try (have y9 := y9.later c5)
            refine hK.out _ _ (bnext hHeld c5 (Nat.le_refl _)) (fun hHeld => ?_)
            clear hK K
            try simp only [Act.put, List.setIfInBounds_toArray, List.set_cons_zero, List.set_cons_succ]
            refine wpAnyH_take (i := 6) (oi := { dst := some 51, op := Op.move (Operand.tmp 57), type := 33, pos := _, after := #[{ on := 5, ground := Ground.data }], guard := none }) (v := .tuple #[.agg y.cs.toArray, .int .i64 0]) rfl (by kernel_rfl) (by kernel_rfl) (by kernel_rfl) (fun _ _ _ h => h) (Or.inl ⟨by rfl, ?_⟩) hHeld ?_
            · intro u hu
              go_simp
            try simp only [Act.put, List.setIfInBounds_toArray, List.set_cons_zero, List.set_cons_succ]
            refine wpAnyH_take (i := 7) (oi := { dst := some 58, op := Op.extract (Operand.tmp 51) 0, type := 32, pos := _, after := #[{ on := 6, ground := Ground.data }], guard := none }) (v := .agg y.cs.toArray) rfl (by kernel_rfl) (by kernel_rfl) (by kernel_rfl) (fun _ _ _ h => h) (Or.inl ⟨by rfl, ?_⟩) hHeld ?_
            · intro u hu
              go_simp
            try simp only [Act.put, List.setIfInBounds_toArray, List.set_cons_zero, List.set_cons_succ]
            refine wpAnyH_take (i := 8) (oi := { dst := some 59, op := Op.extract (Operand.tmp 51) 1, type := 26, pos := _, after := #[{ on := 6, ground := Ground.data }, { on := 10, ground := Ground.gcOnly Departure.lateStores }], guard := none }) (v := .int .i64 0) rfl (by kernel_rfl) (by kernel_rfl) (by kernel_rfl) (fun _ _ _ h => h) (Or.inl ⟨by rfl, ?_⟩) hHeld ?_
            · intro u hu
              go_simp
            try simp only [Act.put, List.setIfInBounds_toArray, List.set_cons_zero, List.set_cons_succ]
            refine wpAnyH_ready (rs := [10]) (by kernel_rfl) (by simp) ?_
            refine (AllReadyH.cons (o := { dst := none, op := Op.store 32 (Operand.tmp 14) (Operand.tmp 58), type := 0, pos := _, after := #[{ on := 9, ground := Ground.data }, { on := 7, ground := Ground.data }, { on := 5, ground := Ground.chain }, { on := 0, ground := Ground.phase }, { on := 1, ground := Ground.phase }, { on := 2, ground := Ground.phase }, { on := 3, ground := Ground.phase }, { on := 4, ground := Ground.phase }, { on := 5, ground := Ground.phase }, { on := 6, ground := Ground.phase }, { on := 7, ground := Ground.phase }, { on := 8, ground := Ground.textOnly Departure.lateStores }, { on := 9, ground := Ground.phase }], guard := none }) rfl (fun K hK => ?_) AllReadyH.nil)
            refine step_put 32 64 arrB rfl (.tmp 14) (.tmp 58) rfl g9 (by rfl) y.l (by rfl) hly _ y9 (by simp) ?_
            intro v10 y10 s10
            refine hK.out _ _ (((Stp.of_below hHeld (fun x => U.heap.size ≤ x)).next s10 (fun x hx => .inl (by subst hx; exact m9'))).below (Nat.le_refl _) (fun _ h => h)) (fun hHeld => ?_)
            clear hK K
            try simp only [Act.put]
            refine wpAnyH_take (i := 11) (oi := { dst := some 15, op := Op.assign (Operand.tmp 59), type := 26, pos := _, after := #[{ on := 8, ground := Ground.data }, { on := 10, ground := Ground.chain }, { on := 0, ground := Ground.phase }, { on := 1, ground := Ground.phase }, { on := 2, ground := Ground.phase }, { on := 3, ground := Ground.phase }, { on := 4, ground := Ground.phase }, { on := 5, ground := Ground.phase }, { on := 6, ground := Ground.phase }, { on := 7, ground := Ground.phase }, { on := 8, ground := Ground.phase }, { on := 9, ground := Ground.phase }, { on := 10, ground := Ground.phase }], guard := none }) (v := .int .i64 0) rfl (by kernel_rfl) (by kernel_rfl) (by kernel_rfl) (fun _ _ _ h => h) (Or.inl ⟨by rfl, ?_⟩) hHeld ?_
            · intro u hu
              go_simp
            try simp only [Act.put, List.setIfInBounds_toArray, List.set_cons_zero, List.set_cons_succ]
            refine wpAnyH_done (by kernel_rfl) ?_ _
            have oc := m9.later hHeld
            have sc := sU.next (Stp.of_below hHeld (fun _ => False)) (fun _ h => h.elim)
            go_wp2_with (first
              | (refine at_getB (by rfl) _ (by rfl) g9 (by rfl) y y10 ?_)
              | (refine at_bldC (by rfl) _ _ (by rfl) k (by rfl) y (by rfl) ?_)
              | (refine at_bsC (by rfl) _ (by rfl) (k, y) (by rfl) ?_; intro g20 w20 a20 r20 b20)
              | (at_builtin; refine at_appC rfl _ _ rfl rfl (oc.later b20) g20 (k, y) rfl r20 (by omega) (by have := sc.size; have := b20.size; omega) ?_; intro g21 c21 w21 o21 s21))
            have s21' := (sc.next (Stp.of_below b20 (fun _ => False)) (fun _ h => h.elim)).next s21 (fun _ h => .inl h)
            go_roundw
            case rel => exact ⟨k + 1, g21, c21, by omega, by go_num, by rw [hF.out]; simp, by rw [hF.out]; exact o21, s21'⟩
            case measure => simp [intOf]; omega
        · have hF : Hid (lK l (k + 1) = L ++ [(k, y)]) := hyk hd
          clear hyk hnk hd
          go_wp2_with (first
            | (refine at_getM (by rfl) _ (by rfl) b (o + k * 64) (by rfl) x hck ?_)
            | (go_at_call 21; refine (hget _).mono ?_; rintro e w6 ⟨rfl, b6⟩)
            | (refine at_new 25 54 arrL (by rfl) (by rfl) ?_; intro g11 w8 a8 z8 r8 b8)
            | (refine at_put 25 54 arrL (by rfl) _ _ (by rfl) g11 (by rfl) q.l (by rfl) hlq _ r8 (by simp) ?_; intro U r9 s9
               have S9 : Stp (fun z => wr.heap.size ≤ z) wr U := (Stp.of_below (bnext b6 b8 (Nat.le_refl _)) _).next s9 (fun z hz => .inl (by subst hz; have := b6.size; omega))
               have q9 : Row U g7 p.l := hrk.step S9 (by have := hrk.lt; omega)
               have m9 := mk.step S9 (by omega)
               have sU : Stp (fun x => V.heap.size ≤ x) V U := sk.next S9 (fun z hz => .inl (Nat.le_trans sk.size hz))
               have ck9 := S9.range hck (by have := sk.size; omega)
               clear b6 b8 a8 z8 r8 s9 S9 mk sk hck hrk)
            | (refine at_getL (by rfl) _ (by rfl) g11 (by rfl) q r9 ?_)
            | (refine at_getL (by rfl) _ (by rfl) g7 (by rfl) p q9 ?_))
          refine wp_region_held_drew (S := fun u => Below U.heap.size U u) (by kernel_rfl) (Below.refl _ _).drew (fun hHeld => ?_)
          refine wpAnyH_take (i := 0) (oi := { dst := some 52, op := Op.move (Operand.tmp 0), type := 39, pos := _, after := #[], guard := none }) (v := .slice (some ⟨b, o, none⟩) n c) rfl (by kernel_rfl) (by kernel_rfl) (by kernel_rfl) (fun _ _ _ h => h) (Or.inl ⟨by rfl, ?_⟩) hHeld ?_
          · intro u hu
            go_simp
          try simp only [Act.put, List.setIfInBounds_toArray, List.set_cons_zero, List.set_cons_succ]
          refine wpAnyH_take (i := 1) (oi := { dst := some 53, op := Op.move (Operand.tmp 10), type := 3, pos := _, after := #[], guard := none }) (v := .int .i64 (k : Int)) rfl (by kernel_rfl) (by kernel_rfl) (by kernel_rfl) (fun _ _ _ h => h) (Or.inl ⟨by rfl, ?_⟩) hHeld ?_
          · intro u hu
            go_simp
          try simp only [Act.put, List.setIfInBounds_toArray, List.set_cons_zero, List.set_cons_succ]
          refine wpAnyH_take (i := 2) (oi := { dst := some 54, op := Op.indexAddr 39 (Operand.tmp 52) (Operand.tmp 53), type := 0, pos := _, after := #[{ on := 0, ground := Ground.data }, { on := 1, ground := Ground.data }], guard := none }) (v := .pointer (some ⟨b, o + k * 64, none⟩)) rfl (by kernel_rfl) (by kernel_rfl) (by kernel_rfl) (fun _ _ _ h => h) (Or.inl ⟨by rfl, ?_⟩) hHeld ?_
          · intro u hu
            go_simp
          try simp only [Act.put, List.setIfInBounds_toArray, List.set_cons_zero, List.set_cons_succ]
          refine wpAnyH_take (i := 3) (oi := { dst := some 55, op := Op.load 32 (Operand.tmp 54), type := 32, pos := _, after := #[{ on := 2, ground := Ground.data }], guard := none }) (v := .agg x.cs.toArray) rfl (by kernel_rfl) (by kernel_rfl) (by kernel_rfl) (fun _ _ _ h => h)
            (yieldsIf_load_mid (by rfl) 32 (.tmp 54) rfl b (o + k * 64) (by rfl) x.cs _ (fun u hu => (Stp.of_below hu (fun _ => False)).range ck9 id) arrB.und rfl (by rw [arrB.size, x.cs_len])) hHeld ?_
          try simp only [Act.put, List.setIfInBounds_toArray, List.set_cons_zero, List.set_cons_succ]
          refine wpAnyH_take (i := 4) (oi := { dst := some 56, op := Op.load 25 (Operand.tmp 7), type := 25, pos := _, after := #[], guard := none }) (v := .agg p.cs.toArray) rfl (by kernel_rfl) (by kernel_rfl) (by kernel_rfl) (fun _ _ _ h => h)
            (yields_row 25 54 arrL (by rfl) (.tmp 7) rfl g7 (by rfl) p.l hlp (fun u hu => q9.later hu)) hHeld ?_
          try simp only [Act.put, List.setIfInBounds_toArray, List.set_cons_zero, List.set_cons_succ]
          refine wpAnyH_ready (rs := [5, 9]) (by kernel_rfl) (by simp) ?_
          refine (AllReadyH.cons (o := { dst := some 57, op := Op.call { callee := Callee.value (Operand.func 35), args := #[Operand.const (Value.int IntKind.i64 1), Operand.tmp 55, Operand.tmp 56], argTypes := #[3, 32, 25] }, type := 33, pos := _, after := #[{ on := 3, ground := Ground.data }, { on := 4, ground := Ground.data }], guard := none }) rfl (fun K hK => ?_) (AllReadyH.cons (o := { dst := some 14, op := Op.alloc 32, type := 0, pos := _, after := #[], guard := none }) rfl (fun K hK => ?_) AllReadyH.nil))
          · skip
            go_simp
            refine (hnx _).mono ?_
            rintro e v5 ⟨rfl, c5⟩
            try go_wp2_with fail
            try (have y9 := y9.later c5)
            refine hK.out _ _ (bnext hHeld c5 (Nat.le_refl _)) (fun hHeld => ?_)
            clear hK K
            try simp only [Act.put, List.setIfInBounds_toArray, List.set_cons_zero, List.set_cons_succ]
            refine wpAnyH_take (i := 6) (oi := { dst := some 51, op := Op.move (Operand.tmp 57), type := 33, pos := _, after := #[{ on := 5, ground := Ground.data }], guard := none }) (v := .tuple #[.agg y.cs.toArray, .int .i64 0]) rfl (by kernel_rfl) (by kernel_rfl) (by kernel_rfl) (fun _ _ _ h => h) (Or.inl ⟨by rfl, ?_⟩) hHeld ?_
            · intro u hu
              go_simp
            try simp only [Act.put, List.setIfInBounds_toArray, List.set_cons_zero, List.set_cons_succ]
            refine wpAnyH_take (i := 7) (oi := { dst := some 58, op := Op.extract (Operand.tmp 51) 0, type := 32, pos := _, after := #[{ on := 6, ground := Ground.data }], guard := none }) (v := .agg y.cs.toArray) rfl (by kernel_rfl) (by kernel_rfl) (by kernel_rfl) (fun _ _ _ h => h) (Or.inl ⟨by rfl, ?_⟩) hHeld ?_
            · intro u hu
              go_simp
            try simp only [Act.put, List.setIfInBounds_toArray, List.set_cons_zero, List.set_cons_succ]
            refine wpAnyH_take (i := 8) (oi := { dst := some 59, op := Op.extract (Operand.tmp 51) 1, type := 26, pos := _, after := #[{ on := 6, ground := Ground.data }, { on := 10, ground := Ground.gcOnly Departure.lateStores }], guard := none }) (v := .int .i64 0) rfl (by kernel_rfl) (by kernel_rfl) (by kernel_rfl) (fun _ _ _ h => h) (Or.inl ⟨by rfl, ?_⟩) hHeld ?_
            · intro u hu
              go_simp
            try simp only [Act.put, List.setIfInBounds_toArray, List.set_cons_zero, List.set_cons_succ]
            refine wpAnyH_ready (rs := [9]) (by kernel_rfl) (by simp) ?_
            refine (AllReadyH.cons (o := { dst := some 14, op := Op.alloc 32, type := 0, pos := _, after := #[], guard := none }) rfl (fun K hK => ?_) AllReadyH.nil)
            refine step_new 32 64 arrB rfl rfl ?_
            intro g9 v9 a9 z9 y9 b9
            have m9' : U.heap.size ≤ g9 := Nat.le_trans hHeld.size a9
            refine hK.out _ _ (bnext hHeld b9 (Nat.le_refl _)) (fun hHeld => ?_)
            clear hK K
            try simp only [Act.put, List.setIfInBounds_toArray, List.set_cons_zero, List.set_cons_succ]
            refine wpAnyH_ready (rs := [10]) (by kernel_rfl) (by simp) ?_
            refine (AllReadyH.cons (o := { dst := none, op := Op.store 32 (Operand.tmp 14) (Operand.tmp 58), type := 0, pos := _, after := #[{ on := 9, ground := Ground.data }, { on := 7, ground := Ground.data }, { on := 5, ground := Ground.chain }, { on := 0, ground := Ground.phase }, { on := 1, ground := Ground.phase }, { on := 2, ground := Ground.phase }, { on := 3, ground := Ground.phase }, { on := 4, ground := Ground.phase }, { on := 5, ground := Ground.phase }, { on := 6, ground := Ground.phase }, { on := 7, ground := Ground.phase }, { on := 8, ground := Ground.textOnly Departure.lateStores }, { on := 9, ground := Ground.phase }], guard := none }) rfl (fun K hK => ?_) AllReadyH.nil)
            refine step_put 32 64 arrB rfl (.tmp 14) (.tmp 58) rfl g9 (by rfl) y.l (by rfl) hly _ y9 (by simp) ?_
            intro v10 y10 s10
            refine hK.out _ _ (((Stp.of_below hHeld (fun x => U.heap.size ≤ x)).next s10 (fun x hx => .inl (by subst hx; exact m9'))).below (Nat.le_refl _) (fun _ h => h)) (fun hHeld => ?_)
            clear hK K
            try simp only [Act.put]
            refine wpAnyH_take (i := 11) (oi := { dst := some 15, op := Op.assign (Operand.tmp 59), type := 26, pos := _, after := #[{ on := 8, ground := Ground.data }, { on := 10, ground := Ground.chain }, { on := 0, ground := Ground.phase }, { on := 1, ground := Ground.phase }, { on := 2, ground := Ground.phase }, { on := 3, ground := Ground.phase }, { on := 4, ground := Ground.phase }, { on := 5, ground := Ground.phase }, { on := 6, ground := Ground.phase }, { on := 7, ground := Ground.phase }, { on := 8, ground := Ground.phase }, { on := 9, ground := Ground.phase }, { on := 10, ground := Ground.phase }], guard := none }) (v := .int .i64 0) rfl (by kernel_rfl) (by kernel_rfl) (by kernel_rfl) (fun _ _ _ h => h) (Or.inl ⟨by rfl, ?_⟩) hHeld ?_
            · intro u hu
              go_simp
            try simp only [Act.put, List.setIfInBounds_toArray, List.set_cons_zero, List.set_cons_succ]
            refine wpAnyH_done (by kernel_rfl) ?_ _
            have oc := m9.later hHeld
            have sc := sU.next (Stp.of_below hHeld (fun _ => False)) (fun _ h => h.elim)
            go_wp2_with (first
              | (refine at_getB (by rfl) _ (by rfl) g9 (by rfl) y y10 ?_)
              | (refine at_bldC (by rfl) _ _ (by rfl) k (by rfl) y (by rfl) ?_)
              | (refine at_bsC (by rfl) _ (by rfl) (k, y) (by rfl) ?_; intro g20 w20 a20 r20 b20)
              | (at_builtin; refine at_appC rfl _ _ rfl rfl (oc.later b20) g20 (k, y) rfl r20 (by omega) (by have := sc.size; have := b20.size; omega) ?_; intro g21 c21 w21 o21 s21))
            have s21' := (sc.next (Stp.of_below b20 (fun _ => False)) (fun _ h => h.elim)).next s21 (fun _ h => .inl h)
            go_roundw
            case rel => exact ⟨k + 1, g21, c21, by omega, by go_num, by rw [hF.out]; simp, by rw [hF.out]; exact o21, s21'⟩
            case measure => simp [intOf]; omega
          · skip
            refine step_new 32 64 arrB rfl rfl ?_
            intro g9 v9 a9 z9 y9 b9
            have m9' : U.heap.size ≤ g9 := Nat.le_trans hHeld.size a9
            refine hK.out _ _ (bnext hHeld b9 (Nat.le_refl _)) (fun hHeld => ?_)
            clear hK K
            try simp only [Act.put, List.setIfInBounds_toArray, List.set_cons_zero, List.set_cons_succ]
            refine wpAnyH_ready (rs := [5]) (by kernel_rfl) (by simp) ?_
            refine (AllReadyH.cons (o := { dst := some 57, op := Op.call { callee := Callee.value (Operand.func 35), args := #[Operand.const (Value.int IntKind.i64 1), Operand.tmp 55, Operand.tmp 56], argTypes := #[3, 32, 25] }, type := 33, pos := _, after := #[{ on := 3, ground := Ground.data }, { on := 4, ground := Ground.data }], guard := none }) rfl (fun K hK => ?_) AllReadyH.nil)
            go_simp
            refine (hnx _).mono ?_
            rintro e v5 ⟨rfl, c5⟩
            try go_wp2_with fail
            try (have y9 := y9.later c5)
            refine hK.out _ _ (bnext hHeld c5 (Nat.le_refl _)) (fun hHeld => ?_)
            clear hK K
            try simp only [Act.put, List.setIfInBounds_toArray, List.set_cons_zero, List.set_cons_succ]
            refine wpAnyH_take (i := 6) (oi := { dst := some 51, op := Op.move (Operand.tmp 57), type := 33, pos := _, after := #[{ on := 5, ground := Ground.data }], guard := none }) (v := .tuple #[.agg y.cs.toArray, .int .i64 0]) rfl (by kernel_rfl) (by kernel_rfl) (by kernel_rfl) (fun _ _ _ h => h) (Or.inl ⟨by rfl, ?_⟩) hHeld ?_
            · intro u hu
              go_simp
            try simp only [Act.put, List.setIfInBounds_toArray, List.set_cons_zero, List.set_cons_succ]
            refine wpAnyH_take (i := 7) (oi := { dst := some 58, op := Op.extract (Operand.tmp 51) 0, type := 32, pos := _, after := #[{ on := 6, ground := Ground.data }], guard := none }) (v := .agg y.cs.toArray) rfl (by kernel_rfl) (by kernel_rfl) (by kernel_rfl) (fun _ _ _ h => h) (Or.inl ⟨by rfl, ?_⟩) hHeld ?_
            · intro u hu
              go_simp
            try simp only [Act.put, List.setIfInBounds_toArray, List.set_cons_zero, List.set_cons_succ]
            refine wpAnyH_take (i := 8) (oi := { dst := some 59, op := Op.extract (Operand.tmp 51) 1, type := 26, pos := _, after := #[{ on := 6, ground := Ground.data }, { on := 10, ground := Ground.gcOnly Departure.lateStores }], guard := none }) (v := .int .i64 0) rfl (by kernel_rfl) (by kernel_rfl) (by kernel_rfl) (fun _ _ _ h => h) (Or.inl ⟨by rfl, ?_⟩) hHeld ?_
            · intro u hu
              go_simp
            try simp only [Act.put, List.setIfInBounds_toArray, List.set_cons_zero, List.set_cons_succ]
            refine wpAnyH_ready (rs := [10]) (by kernel_rfl) (by simp) ?_
            refine (AllReadyH.cons (o := { dst := none, op := Op.store 32 (Operand.tmp 14) (Operand.tmp 58), type := 0, pos := _, after := #[{ on := 9, ground := Ground.data }, { on := 7, ground := Ground.data }, { on := 5, ground := Ground.chain }, { on := 0, ground := Ground.phase }, { on := 1, ground := Ground.phase }, { on := 2, ground := Ground.phase }, { on := 3, ground := Ground.phase }, { on := 4, ground := Ground.phase }, { on := 5, ground := Ground.phase }, { on := 6, ground := Ground.phase }, { on := 7, ground := Ground.phase }, { on := 8, ground := Ground.textOnly Departure.lateStores }, { on := 9, ground := Ground.phase }], guard := none }) rfl (fun K hK => ?_) AllReadyH.nil)
            refine step_put 32 64 arrB rfl (.tmp 14) (.tmp 58) rfl g9 (by rfl) y.l (by rfl) hly _ y9 (by simp) ?_
            intro v10 y10 s10
            refine hK.out _ _ (((Stp.of_below hHeld (fun x => U.heap.size ≤ x)).next s10 (fun x hx => .inl (by subst hx; exact m9'))).below (Nat.le_refl _) (fun _ h => h)) (fun hHeld => ?_)
            clear hK K
            try simp only [Act.put]
            refine wpAnyH_take (i := 11) (oi := { dst := some 15, op := Op.assign (Operand.tmp 59), type := 26, pos := _, after := #[{ on := 8, ground := Ground.data }, { on := 10, ground := Ground.chain }, { on := 0, ground := Ground.phase }, { on := 1, ground := Ground.phase }, { on := 2, ground := Ground.phase }, { on := 3, ground := Ground.phase }, { on := 4, ground := Ground.phase }, { on := 5, ground := Ground.phase }, { on := 6, ground := Ground.phase }, { on := 7, ground := Ground.phase }, { on := 8, ground := Ground.phase }, { on := 9, ground := Ground.phase }, { on := 10, ground := Ground.phase }], guard := none }) (v := .int .i64 0) rfl (by kernel_rfl) (by kernel_rfl) (by kernel_rfl) (fun _ _ _ h => h) (Or.inl ⟨by rfl, ?_⟩) hHeld ?_
            · intro u hu
              go_simp
            try simp only [Act.put, List.setIfInBounds_toArray, List.set_cons_zero, List.set_cons_succ]
            refine wpAnyH_done (by kernel_rfl) ?_ _
            have oc := m9.later hHeld
            have sc := sU.next (Stp.of_below hHeld (fun _ => False)) (fun _ h => h.elim)
            go_wp2_with (first
              | (refine at_getB (by rfl) _ (by rfl) g9 (by rfl) y y10 ?_)
              | (refine at_bldC (by rfl) _ _ (by rfl) k (by rfl) y (by rfl) ?_)
              | (refine at_bsC (by rfl) _ (by rfl) (k, y) (by rfl) ?_; intro g20 w20 a20 r20 b20)
              | (at_builtin; refine at_appC rfl _ _ rfl rfl (oc.later b20) g20 (k, y) rfl r20 (by omega) (by have := sc.size; have := b20.size; omega) ?_; intro g21 c21 w21 o21 s21))
            have s21' := (sc.next (Stp.of_below b20 (fun _ => False)) (fun _ h => h.elim)).next s21 (fun _ h => .inl h)
            go_roundw
            case rel => exact ⟨k + 1, g21, c21, by omega, by go_num, by rw [hF.out]; simp, by rw [hF.out]; exact o21, s21'⟩
            case measure => simp [intOf]; omega
        · have hF : Hid (lK l (k + 1) = L) := hnk hd
          clear hyk hnk hd
          go_wp2_with (first
            | (refine at_getM (by rfl) _ (by rfl) b (o + k * 64) (by rfl) x hck ?_)
            | (go_at_call 21; refine (hget _).mono ?_; rintro e w6 ⟨rfl, b6⟩)
            | (refine at_new 25 54 arrL (by rfl) (by rfl) ?_; intro g11 w8 a8 z8 r8 b8)
            | (refine at_put 25 54 arrL (by rfl) _ _ (by rfl) g11 (by rfl) q.l (by rfl) hlq _ r8 (by simp) ?_; intro U r9 s9
               have S9 : Stp (fun z => wr.heap.size ≤ z) wr U := (Stp.of_below (bnext b6 b8 (Nat.le_refl _)) _).next s9 (fun z hz => .inl (by subst hz; have := b6.size; omega))
               have q9 : Row U g7 p.l := hrk.step S9 (by have := hrk.lt; omega)
               have m9 := mk.step S9 (by omega)
               have sU : Stp (fun x => V.heap.size ≤ x) V U := sk.next S9 (fun z hz => .inl (Nat.le_trans sk.size hz))
               have ck9 := S9.range hck (by have := sk.size; omega)
               clear b6 b8 a8 z8 r8 s9 S9 mk sk hck hrk)
            | (refine at_getL (by rfl) _ (by rfl) g11 (by rfl) q r9 ?_)
            | (refine at_getL (by rfl) _ (by rfl) g7 (by rfl) p q9 ?_))
          go_roundw
          case rel => exact ⟨k + 1, g, cap, by omega, by go_num, by rw [hF.out], by rw [hF.out]; exact m9, sU⟩
          case measure => simp [intOf]; omega
      · obtain rfl : k = 2 := by omega
        rw [hN.out] at mk
        have hcb := mk.capB
        have hat := mk.at
        rw [hN.out]
        go_wp2_with fail
        go_returns
        exact ⟨_, rfl, ⟨_, _, rfl, hcb.1, hcb.2, fun _ => ⟨g, rfl, hat⟩⟩, (SV.next sk (fun z hz => .inl (Nat.le_trans SV.size hz))).below (Nat.le_refl _) (fun _ h => h)⟩
  · have hF : Hid (mdL l = []) := by show _ = _; unfold mdL; rw [if_neg (by omega)]
    rw [hE] at hfind ⊢
    generalize fdG l = s at *
    go_enter Try.func18, Try.ntmps18
    go_wp2_with (first
      | (go_at_call 16; refine (hfind _ h).mono ?_; rintro e w1 ⟨rfl, b1⟩)
      | (refine at_newG (by rfl) (by rfl) ?_; intro g4 w2 a2 z2 r2 b2)
      | (refine at_putG (by rfl) _ _ (by rfl) g4 (by rfl) s (by rfl) _ r2 ?_; intro w3 r3 s3))
    have S3 := (Stp.of_below (bnext b1 b2 (Nat.le_refl _)) (fun x => w.heap.size ≤ x)).next s3 (fun x hx => .inl (by subst hx; have := b1.size; omega))
    go_returns
    exact ⟨_, rfl, by rw [hF.out]; exact ⟨none, 0, rfl, Nat.le_refl _, by decide, fun h => absurd h (by simp)⟩, S3.below (Nat.le_refl _) (fun _ h => h)⟩
end Go.Proofs.Ytjbgcbokffaemaa
