/-
  Disks as slices of sectors; what Find of layer 8, and the document's, returns: no statement is proved here.
-/
import Derived.Test.YtjbgcbokffaemaaSupG
namespace Go.Proofs.Ytjbgcbokffaemaa
open Go.ChangeShapes Go.WideShapes Go.ChangeAt Go.RowKit
set_option linter.unusedVariables false

/-- A slice of sectors that reads as the list l. -/
structure Bls (w : World) (a : Option Addr) (n c : Nat) (l : List Blk) : Prop where
  len : l.length = n
  le : n ≤ c
  cap : c ≤ maxLen
  nil : a = none → c = 0
  cell : 0 < n → ∃ b o, a = some ⟨b, o, none⟩ ∧ ∀ i, i < n → w.rangeAt b (o + i * 64) (l.getD i Blk.zero).cs
theorem Bls.nilSlice (w : World) : Bls w none 0 0 [] := ⟨rfl, Nat.le_refl _, by decide, fun _ => rfl, fun h => absurd h (by omega)⟩
theorem Bls.step {F : Nat → Prop} {w w' : World} {a : Option Addr} {n c : Nat} {l : List Blk} (h : Bls w a n c l) (k : Stp F w w') (hF : ∀ x : Addr, a = some x → ¬ F x.block) : Bls w' a n c l :=
  ⟨h.len, h.le, h.cap, h.nil, fun hn => by obtain ⟨b, o, rfl, hc⟩ := h.cell hn; exact ⟨b, o, rfl, fun i hi => k.range (hc i hi) (hF _ rfl)⟩⟩
theorem Bls.later {w w' : World} {a : Option Addr} {n c : Nat} {l : List Blk} (h : Bls w a n c l) (k : Below w.heap.size w w') : Bls w' a n c l := h.step (Stp.of_below k (fun _ => False)) (fun _ _ => id)
/-- A load of a sector that lies in the midst of a row. -/
theorem at_getM {ops : Array Oper} {rest : List Oper} {o : Oper} {a : Act} {w : World} {Q : Exit → Act → World → Prop} (hw : Region.wanted o (yielded ops a.tmps) = true) (x : Operand) (ho : o.op = .load 32 x) (b off : Nat) (hx : a.eval x = .pointer (some ⟨b, off, none⟩)) (c : Blk) (hc : w.rangeAt b off c.cs)
    (h : wpList Try.prog ops Q rest (a.put o.dst (.agg c.cs.toArray)) w) : wpList Try.prog ops Q (o :: rest) a w := by
  refine op_val hw _ _ ?_ h
  have : (loadVar 32 ⟨b, off, none⟩).run Try.prog w = .ok (.agg c.cs.toArray) w := run_loadVar_mid w b off _ c.cs _ hc arrB.und rfl (by rw [arrB.size, c.cs_len])
  simp [execOp, ho, hx, Instr.loadAt, Instr.sureAddr, this]
theorem getD0 (l : List Blk) : l.getD 0 Blk.zero = s0 l := rfl
theorem getD1 (l : List Blk) : l.getD 1 Blk.zero = s1 l := rfl
theorem find_at {l : List Blk} {k : Nat} (hk : k < 2) (hn : 2 ≤ l.length) (hno : ∀ j, j < k → hasB (l.getD j Blk.zero) l.length = false) (hy : hasB (l.getD k Blk.zero) l.length = true) : fdG l = siG (l.getD k Blk.zero) ∧ fdI l = (k : Int) ∧ fdE l = 0 := by
  unfold fdG fdI fdE c0 c1
  have : k = 0 ∨ k = 1 := by omega
  rcases this with rfl | rfl
  · rw [getD0] at hy ⊢
    simp [hn, hy]
  · have h0 := hno 0 (by omega)
    rw [getD0] at h0
    rw [getD1] at hy ⊢
    simp [hn, hy, h0]
theorem find_none {l : List Blk} (hno : ∀ j, j < 2 → hasB (l.getD j Blk.zero) l.length = false) : fdG l = Gm.zero ∧ fdI l = 0 ∧ fdE l = 22 := by
  have h0 := hno 0 (by omega)
  have h1 := hno 1 (by omega)
  rw [getD0] at h0
  rw [getD1] at h1
  unfold fdG fdI fdE c0 c1
  simp [h0, h1]
theorem find_short {l : List Blk} (hn : l.length < 2) : fdG l = Gm.zero ∧ fdI l = 0 ∧ fdE l = 22 := by
  unfold fdG fdI fdE c0 c1
  have : decide (2 ≤ l.length) = false := by simp; omega
  simp [this]
set_option maxRecDepth 100000 in
set_option maxHeartbeats 4000000 in
theorem sfind_any (a : Option Addr) (n c : Nat) (l : List Blk) (w : World) (h : Bls w a n c l) :
    Calls Try.prog 15 #[.slice a n c] w fun e w' => e = .returned (.tuple #[gv (fdG l), .int .i64 (fdI l), .int .i64 (fdE l)]) ∧ Below w.heap.size w w' := by
  have hl := h.len
  have hle := h.le
  have hcap := h.cap
  unfold maxLen at hcap
  by_cases hn : 2 ≤ n
  · obtain ⟨b, o, rfl, hc⟩ := h.cell (by omega)
    clear h
    go_enter Try.func15, Try.ntmps15
    go_wp2_with (first
      | (refine at_newG (by rfl) (by rfl) ?_; intro gr W a2 z2 r2 b2))
    have hgr : w.heap.size ≤ gr := a2
    have hc2 : ∀ i, i < n → W.rangeAt b (o + i * 64) (l.getD i Blk.zero).cs := fun i hi => (Stp.of_below b2 (fun _ => False)).range (hc i hi) id
    clear hc a2 z2
    go_loopw [16] (fun i wr => ∃ k : Nat, k ≤ 2 ∧ i = .int .i64 k ∧ (∀ j, j < k → hasB (l.getD j Blk.zero) l.length = false) ∧ Below W.heap.size W wr) (fun i _ => 2 - (intOf i).toNat)
    case atStart => exact ⟨0, Nat.zero_le _, rfl, (fun j hj => by omega), Below.refl _ _⟩
    case round =>
      obtain ⟨k, hk, rfl, hno, bk⟩ := hrel
      by_cases hlt : k < 2
      · have hck := (Stp.of_below bk (fun _ => False)).range (hc2 k (by omega)) id
        have hfa := fun hy => find_at hlt (by omega) hno hy
        have hno2 : hasB (l.getD k Blk.zero) l.length = false → ∀ j, j < k + 1 → hasB (l.getD j Blk.zero) l.length = false := fun h j hj => by
          by_cases e : j = k
          · rw [e]; exact h
          · exact hno j (by omega)
        rw [hl] at hfa hno2 hno
        generalize l.getD k Blk.zero = x at *
        have hx := x.len
        have hsh := shapeIn_any x
        have htt := total_any (siG x)
        have hrk := r2.later bk
        have hway := has_ways x n
        generalize siG x = sx at *
        generalize siE x = ex at *
        have t1 : True := trivial
        rcases hway with ⟨rfl, hF⟩ | ⟨rfl, hT, hF⟩ | ⟨rfl, hT, hF⟩
        · go_wp2_with (first
            | (refine at_getM (by rfl) _ (by rfl) b (o + k * 64) (by rfl) x hck ?_)
            | (refine at_new 32 64 arrB (by rfl) (by rfl) ?_; intro g6 w6 a6 z6 r6 b6)
            | (refine at_put 32 64 arrB (by rfl) _ _ (by rfl) g6 (by rfl) x.l (by rfl) hx _ r6 (by simp) ?_; intro w7 r7 s7)
            | (refine at_getB (by rfl) _ (by rfl) g6 (by rfl) x r7 ?_)
            | (go_at_call 31; refine (hsh _).mono ?_; rintro e w8 ⟨rfl, b8⟩)
            | (refine at_newG (by rfl) (by rfl) ?_; intro g9 w9 a9 z9 r9 b9)
            | (refine at_putG (by rfl) _ _ (by rfl) g9 (by rfl) sx (by rfl) _ r9 ?_; intro w10 r10 s10))
          have S7 : Stp (fun x => W.heap.size ≤ x) W w7 := (Stp.of_below (bnext bk b6 (Nat.le_refl _)) _).next s7 (fun x hx => .inl (by subst hx; have := bk.size; omega))
          have S10 := (S7.next (Stp.of_below (bnext b8 b9 (Nat.le_refl _)) (fun _ => False)) (fun _ h => h.elim)).next s10 (fun x hx => .inl (by subst hx; have := S7.size; have := b8.size; omega))
          go_roundw
          case rel => exact ⟨k + 1, by omega, by go_num, (fun j hj => by rw [hl]; exact hno2 hF j hj), S10.below (Nat.le_refl _) (fun _ h => h)⟩
          case measure => simp [intOf]; omega
        · go_wp2_with (first
            | (refine at_getM (by rfl) _ (by rfl) b (o + k * 64) (by rfl) x hck ?_)
            | (refine at_new 32 64 arrB (by rfl) (by rfl) ?_; intro g6 w6 a6 z6 r6 b6)
            | (refine at_put 32 64 arrB (by rfl) _ _ (by rfl) g6 (by rfl) x.l (by rfl) hx _ r6 (by simp) ?_; intro w7 r7 s7)
            | (refine at_getB (by rfl) _ (by rfl) g6 (by rfl) x r7 ?_)
            | (go_at_call 31; refine (hsh _).mono ?_; rintro e w8 ⟨rfl, b8⟩)
            | (refine at_newG (by rfl) (by rfl) ?_; intro g9 w9 a9 z9 r9 b9)
            | (refine at_putG (by rfl) _ _ (by rfl) g9 (by rfl) sx (by rfl) _ r9 ?_; intro w10 r10 s10)
            | (refine at_getG (by rfl) _ (by rfl) g9 (by rfl) sx r10 ?_)
            | (go_at_call 19; refine (htt _).mono ?_; rintro e w11 ⟨rfl, b11⟩))
          have S7 : Stp (fun x => W.heap.size ≤ x) W w7 := (Stp.of_below (bnext bk b6 (Nat.le_refl _)) _).next s7 (fun x hx => .inl (by subst hx; have := bk.size; omega))
          have S10 := ((S7.next (Stp.of_below (bnext b8 b9 (Nat.le_refl _)) (fun _ => False)) (fun _ h => h.elim)).next s10 (fun x hx => .inl (by subst hx; have := S7.size; have := b8.size; omega))).next (Stp.of_below b11 (fun _ => False)) (fun _ h => h.elim)
          go_roundw
          case rel => exact ⟨k + 1, by omega, by go_num, (fun j hj => by rw [hl]; exact hno2 hF j hj), S10.below (Nat.le_refl _) (fun _ h => h)⟩
          case measure => simp [intOf]; omega
        · have hE : Hid (fdG l = sx ∧ fdI l = (k : Int) ∧ fdE l = 0) := hfa hF
          clear hfa hno2 hno
          go_wp2_with (first
            | (refine at_getM (by rfl) _ (by rfl) b (o + k * 64) (by rfl) x hck ?_)
            | (refine at_new 32 64 arrB (by rfl) (by rfl) ?_; intro g6 w6 a6 z6 r6 b6)
            | (refine at_put 32 64 arrB (by rfl) _ _ (by rfl) g6 (by rfl) x.l (by rfl) hx _ r6 (by simp) ?_; intro w7 r7 s7)
            | (refine at_getB (by rfl) _ (by rfl) g6 (by rfl) x r7 ?_)
            | (go_at_call 31; refine (hsh _).mono ?_; rintro e w8 ⟨rfl, b8⟩)
            | (refine at_newG (by rfl) (by rfl) ?_; intro g9 w9 a9 z9 r9 b9)
            | (refine at_putG (by rfl) _ _ (by rfl) g9 (by rfl) sx (by rfl) _ r9 ?_; intro w10 r10 s10
               have rr10 : GR w10 gr Gm.zero := ((((hrk.later b6).step s7 (by have := hrk.lt; omega)).later b8).later b9).step s10 (by have := hrk.lt; have := b6.size; have := s7.size; have := b8.size; omega))
            | (refine at_getG (by rfl) _ (by rfl) g9 (by rfl) sx r10 ?_)
            | (go_at_call 19; refine (htt _).mono ?_; rintro e w11 ⟨rfl, b11⟩)
            | (refine at_getG (by rfl) _ (by rfl) g9 (by rfl) sx (r10.later b11) ?_)
            | (refine at_putG (by rfl) _ _ (by rfl) gr (by rfl) sx (by rfl) _ (rr10.later b11) ?_; intro w12 r12 s12))
          have S7 : Stp (fun x => W.heap.size ≤ x) W w7 := (Stp.of_below (bnext bk b6 (Nat.le_refl _)) _).next s7 (fun x hx => .inl (by subst hx; have := bk.size; omega))
          have S10 := ((S7.next (Stp.of_below (bnext b8 b9 (Nat.le_refl _)) (fun _ => False)) (fun _ h => h.elim)).next s10 (fun x hx => .inl (by subst hx; have := S7.size; have := b8.size; omega))).next (Stp.of_below b11 (fun _ => False)) (fun _ h => h.elim)
          have S12 := ((Stp.of_below b2 (fun x => w.heap.size ≤ x)).next S10 (fun x hx => .inl (Nat.le_trans b2.size hx))).next s12 (fun x hx => .inl (by subst hx; exact hgr))
          refine bodyPost_ret (retGtt Try.results15 rfl rfl rfl r12) rfl ⟨by obtain ⟨q1, q2, q3⟩ := hE.out; rw [q1, q2, q3]; rfl, S12.below (Nat.le_refl _) (fun _ h => h)⟩
      · obtain rfl : k = 2 := by omega
        have hE : Hid (fdG l = Gm.zero ∧ fdI l = 0 ∧ fdE l = 22) := find_none hno
        have hrk := r2.later bk
        clear hno
        go_wp2_with (first
          | (refine at_putG (by rfl) _ _ (by rfl) gr (by rfl) Gm.zero (by rfl) _ hrk ?_; intro w12 r12 s12))
        refine bodyPost_ret (retGtt Try.results15 rfl rfl rfl r12) rfl ⟨by obtain ⟨q1, q2, q3⟩ := hE.out; rw [q1, q2, q3]; rfl, ((Stp.of_below (bnext b2 bk (Nat.le_refl _)) (fun x => w.heap.size ≤ x)).next s12 (fun x hx => .inl (by subst hx; exact hgr))).below (Nat.le_refl _) (fun _ h => h)⟩
  · have hE : Hid (fdG l = Gm.zero ∧ fdI l = 0 ∧ fdE l = 22) := find_short (by omega)
    clear h
    go_enter Try.func15, Try.ntmps15
    go_wp2_with (first
      | (refine at_newG (by rfl) (by rfl) ?_; intro gr W a2 z2 r2 b2)
      | (refine at_putG (by rfl) _ _ (by rfl) gr (by rfl) Gm.zero (by rfl) _ r2 ?_; intro w12 r12 s12))
    refine bodyPost_ret (retGtt Try.results15 rfl rfl rfl r12) rfl ⟨by obtain ⟨q1, q2, q3⟩ := hE.out; rw [q1, q2, q3]; rfl, ((Stp.of_below b2 (fun x => w.heap.size ≤ x)).next s12 (fun x hx => .inl (by subst hx; exact a2))).below (Nat.le_refl _) (fun _ h => h)⟩
end Go.Proofs.Ytjbgcbokffaemaa
