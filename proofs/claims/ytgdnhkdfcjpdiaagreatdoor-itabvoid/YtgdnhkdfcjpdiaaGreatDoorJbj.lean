/-
  Texts of my own, joined: no statement is proved here.
-/
import Derived.Laws.MakeOwn
import Derived.Laws.AppendOwnNone
import Derived.Great.BuildSlice
import Derived.Test.YtgdnhkdfcjpdiaaGreatDoorJbi
set_option linter.unusedSimpArgs false
set_option linter.unusedVariables false
namespace Go.Proofs.YtgdnhkdfcjpdiaaGreatDoor
open Go.ChangeShapes Go.WideShapes Go.ChangeAt Go.RowKit
set_option maxRecDepth 100000
structure BlsU (w : World) (a : Option Addr) (n c : Nat) (l : List Blk) : Prop where
  len : l.length = n
  le : n ≤ c
  cap : c ≤ maxLen
  nil : a = none → c = 0
  cell : 0 < n → ∃ b o, a = some ⟨b, o, none⟩ ∧ ∀ i, i < n → w.rangeAt b (o + i * 64) (l.getD i Blk.zero).cs
theorem BlsU.nilSlice (w : World) : BlsU w none 0 0 [] := ⟨rfl, Nat.le_refl _, by decide, fun _ => rfl, fun h => absurd h (by omega)⟩
theorem at_getM {ops : Array Oper} {rest : List Oper} {o : Oper} {a : Act} {w : World} {Q : Exit → Act → World → Prop} (hw : Region.wanted o (yielded ops a.tmps) = true) (x : Operand) (ho : o.op = .load 88 x) (b off : Nat) (hx : a.eval x = .pointer (some ⟨b, off, none⟩)) (c : Blk) (hc : w.rangeAt b off c.cs)
    (h : wpList Tryz.prog ops Q rest (a.put o.dst (.agg c.cs.toArray)) w) : wpList Tryz.prog ops Q (o :: rest) a w := by
  refine op_val hw _ _ ?_ h
  have : (loadVar 88 ⟨b, off, none⟩).run Tryz.prog w = .ok (.agg c.cs.toArray) w := run_loadVar_mid w b off _ c.cs _ hc arrB.und rfl (by rw [arrB.size, c.cs_len])
  simp [execOp, ho, hx, Instr.loadAt, Instr.sureAddr, this]
theorem getD0 (l : List Blk) : l.getD 0 Blk.zero = s0 l := rfl
theorem getD1 (l : List Blk) : l.getD 1 Blk.zero = s1 l := rfl
theorem find_at {l : List Blk} {k : Nat} (hk : k < 2) (hn : 2 ≤ l.length) (hno : ∀ j, j < k → hasB (l.getD j Blk.zero) l.length = false) (hy : hasB (l.getD k Blk.zero) l.length = true) : fdG l = siG (l.getD k Blk.zero) ∧ fdI l = (k : Int) ∧ fdE l = 0 := by
  unfold fdG fdI fdE c0 c1
  have : k = 0 ∨ k = 1 := by omega
  rcases this with rfl | rfl
  · rw [getD0] at hy ⊢
    simp [hn, hy]
  · have h0 := hno 0 (by omega)
    rw [getD0] at h0
    rw [getD1] at hy ⊢
    simp [hn, hy, h0]
theorem find_none {l : List Blk} (hno : ∀ j, j < 2 → hasB (l.getD j Blk.zero) l.length = false) : fdG l = Gm.zero ∧ fdI l = 0 ∧ fdE l = 22 := by
  have h0 := hno 0 (by omega)
  have h1 := hno 1 (by omega)
  rw [getD0] at h0
  rw [getD1] at h1
  unfold fdG fdI fdE c0 c1
  simp [h0, h1]
theorem find_short {l : List Blk} (hn : l.length < 2) : fdG l = Gm.zero ∧ fdI l = 0 ∧ fdE l = 22 := by
  unfold fdG fdI fdE c0 c1
  have : decide (2 ≤ l.length) = false := by simp; omega
  simp [this]
set_option maxRecDepth 100000 in
set_option maxHeartbeats 4000000 in
theorem sfind_any (a : Option Addr) (n c : Nat) (l : List Blk) (w : World) (h : BlsU w a n c l) :
    Calls Tryz.prog 49 #[.slice a n c] w fun e w' => e = .returned (.tuple #[gv (fdG l), .int .i64 (fdI l), .int .i64 (fdE l)]) ∧ Below w.heap.size w w' := by
  have hl := h.len
  have hle := h.le
  have hcap := h.cap
  unfold maxLen at hcap
  by_cases hn : 2 ≤ n
  · obtain ⟨b, o, rfl, hc⟩ := h.cell (by omega)
    clear h
    go_enter Tryz.func49, Tryz.ntmps49
    go_wp2_with (first
      | (refine at_newG (by rfl) (by rfl) ?_; intro gr W a2 z2 r2 b2))
    have hgr : w.heap.size ≤ gr := a2
    have hc2 : ∀ i, i < n → W.rangeAt b (o + i * 64) (l.getD i Blk.zero).cs := fun i hi => (Stp.of_below b2 (fun _ => False)).range (hc i hi) id
    clear hc a2 z2
    go_loopw [16] (fun i wr => ∃ k : Nat, k ≤ 2 ∧ i = .int .i64 k ∧ (∀ j, j < k → hasB (l.getD j Blk.zero) l.length = false) ∧ Below W.heap.size W wr) (fun i _ => 2 - (intOf i).toNat)
    case atStart => exact ⟨0, Nat.zero_le _, rfl, (fun j hj => by omega), Below.refl _ _⟩
    case round =>
      obtain ⟨k, hk, rfl, hno, bk⟩ := hrel
      by_cases hlt : k < 2
      · have hck := (Stp.of_below bk (fun _ => False)).range (hc2 k (by omega)) id
        have hfa := fun hy => find_at hlt (by omega) hno hy
        have hno2 : hasB (l.getD k Blk.zero) l.length = false → ∀ j, j < k + 1 → hasB (l.getD j Blk.zero) l.length = false := fun h j hj => by
          by_cases e : j = k
          · rw [e]; exact h
          · exact hno j (by omega)
        rw [hl] at hfa hno2 hno
        generalize l.getD k Blk.zero = x at *
        have hx := x.len
        have hsh := shapeIn_any x
        have htt := total_any (siG x)
        have hrk := r2.later bk
        have hway := has_ways x n
        generalize siG x = sx at *
        generalize siE x = ex at *
        have t1 : True := trivial
        rcases hway with ⟨rfl, hF⟩ | ⟨rfl, hT, hF⟩ | ⟨rfl, hT, hF⟩
        · go_wp2_with (first
            | (refine at_getM (by rfl) _ (by rfl) b (o + k * 64) (by rfl) x hck ?_)
            | (refine at_new 88 64 arrB (by rfl) (by rfl) ?_; intro g6 w6 a6 z6 r6 b6)
            | (refine at_put 88 64 arrB (by rfl) _ _ (by rfl) g6 (by rfl) x.l (by rfl) hx _ r6 (by simp) ?_; intro w7 r7 s7)
            | (refine at_getBS (by rfl) _ (by rfl) g6 (by rfl) x r7 ?_)
            | (go_at_call 78; refine (hsh _).mono ?_; rintro e w8 ⟨rfl, b8⟩)
            | (refine at_newG (by rfl) (by rfl) ?_; intro g9 w9 a9 z9 r9 b9)
            | (refine at_putG (by rfl) _ _ (by rfl) g9 (by rfl) sx (by rfl) _ r9 ?_; intro w10 r10 s10))
          have S7 : Stp (fun x => W.heap.size ≤ x) W w7 := (Stp.of_below (bnext bk b6 (Nat.le_refl _)) _).next s7 (fun x hx => .inl (by subst hx; have := bk.size; omega))
          have S10 := (S7.next (Stp.of_below (bnext b8 b9 (Nat.le_refl _)) (fun _ => False)) (fun _ h => h.elim)).next s10 (fun x hx => .inl (by subst hx; have := S7.size; have := b8.size; omega))
          go_roundw
          case rel => exact ⟨k + 1, by omega, by go_num, (fun j hj => by rw [hl]; exact hno2 hF j hj), S10.below (Nat.le_refl _) (fun _ h => h)⟩
          case measure => simp [intOf]; omega
        · go_wp2_with (first
            | (refine at_getM (by rfl) _ (by rfl) b (o + k * 64) (by rfl) x hck ?_)
            | (refine at_new 88 64 arrB (by rfl) (by rfl) ?_; intro g6 w6 a6 z6 r6 b6)
            | (refine at_put 88 64 arrB (by rfl) _ _ (by rfl) g6 (by rfl) x.l (by rfl) hx _ r6 (by simp) ?_; intro w7 r7 s7)
            | (refine at_getBS (by rfl) _ (by rfl) g6 (by rfl) x r7 ?_)
            | (go_at_call 78; refine (hsh _).mono ?_; rintro e w8 ⟨rfl, b8⟩)
            | (refine at_newG (by rfl) (by rfl) ?_; intro g9 w9 a9 z9 r9 b9)
            | (refine at_putG (by rfl) _ _ (by rfl) g9 (by rfl) sx (by rfl) _ r9 ?_; intro w10 r10 s10)
            | (refine at_getG (by rfl) _ (by rfl) g9 (by rfl) sx r10 ?_)
            | (go_at_call 79; refine (htt _).mono ?_; rintro e w11 ⟨rfl, b11⟩))
          have S7 : Stp (fun x => W.heap.size ≤ x) W w7 := (Stp.of_below (bnext bk b6 (Nat.le_refl _)) _).next s7 (fun x hx => .inl (by subst hx; have := bk.size; omega))
          have S10 := ((S7.next (Stp.of_below (bnext b8 b9 (Nat.le_refl _)) (fun _ => False)) (fun _ h => h.elim)).next s10 (fun x hx => .inl (by subst hx; have := S7.size; have := b8.size; omega))).next (Stp.of_below b11 (fun _ => False)) (fun _ h => h.elim)
          go_roundw
          case rel => exact ⟨k + 1, by omega, by go_num, (fun j hj => by rw [hl]; exact hno2 hF j hj), S10.below (Nat.le_refl _) (fun _ h => h)⟩
          case measure => simp [intOf]; omega
        · have hE : Hid (fdG l = sx ∧ fdI l = (k : Int) ∧ fdE l = 0) := hfa hF
          clear hfa hno2 hno
          go_wp2_with (first
            | (refine at_getM (by rfl) _ (by rfl) b (o + k * 64) (by rfl) x hck ?_)
            | (refine at_new 88 64 arrB (by rfl) (by rfl) ?_; intro g6 w6 a6 z6 r6 b6)
            | (refine at_put 88 64 arrB (by rfl) _ _ (by rfl) g6 (by rfl) x.l (by rfl) hx _ r6 (by simp) ?_; intro w7 r7 s7)
            | (refine at_getBS (by rfl) _ (by rfl) g6 (by rfl) x r7 ?_)
            | (go_at_call 78; refine (hsh _).mono ?_; rintro e w8 ⟨rfl, b8⟩)
            | (refine at_newG (by rfl) (by rfl) ?_; intro g9 w9 a9 z9 r9 b9)
            | (refine at_putG (by rfl) _ _ (by rfl) g9 (by rfl) sx (by rfl) _ r9 ?_; intro w10 r10 s10
               have rr10 : GR w10 gr Gm.zero := ((((hrk.later b6).step s7 (by have := hrk.lt; omega)).later b8).later b9).step s10 (by have := hrk.lt; have := b6.size; have := s7.size; have := b8.size; omega))
            | (refine at_getG (by rfl) _ (by rfl) g9 (by rfl) sx r10 ?_)
            | (go_at_call 79; refine (htt _).mono ?_; rintro e w11 ⟨rfl, b11⟩)
            | (refine at_getG (by rfl) _ (by rfl) g9 (by rfl) sx (r10.later b11) ?_)
            | (refine at_putG (by rfl) _ _ (by rfl) gr (by rfl) sx (by rfl) _ (rr10.later b11) ?_; intro w12 r12 s12))
          have S7 : Stp (fun x => W.heap.size ≤ x) W w7 := (Stp.of_below (bnext bk b6 (Nat.le_refl _)) _).next s7 (fun x hx => .inl (by subst hx; have := bk.size; omega))
          have S10 := ((S7.next (Stp.of_below (bnext b8 b9 (Nat.le_refl _)) (fun _ => False)) (fun _ h => h.elim)).next s10 (fun x hx => .inl (by subst hx; have := S7.size; have := b8.size; omega))).next (Stp.of_below b11 (fun _ => False)) (fun _ h => h.elim)
          have S12 := ((Stp.of_below b2 (fun x => w.heap.size ≤ x)).next S10 (fun x hx => .inl (Nat.le_trans b2.size hx))).next s12 (fun x hx => .inl (by subst hx; exact hgr))
          refine bodyPost_ret (retGtt Tryz.results49 rfl rfl rfl r12) rfl ⟨by obtain ⟨q1, q2, q3⟩ := hE.out; rw [q1, q2, q3]; rfl, S12.below (Nat.le_refl _) (fun _ h => h)⟩
      · obtain rfl : k = 2 := by omega
        have hE : Hid (fdG l = Gm.zero ∧ fdI l = 0 ∧ fdE l = 22) := find_none hno
        have hrk := r2.later bk
        clear hno
        go_wp2_with (first
          | (refine at_putG (by rfl) _ _ (by rfl) gr (by rfl) Gm.zero (by rfl) _ hrk ?_; intro w12 r12 s12))
        refine bodyPost_ret (retGtt Tryz.results49 rfl rfl rfl r12) rfl ⟨by obtain ⟨q1, q2, q3⟩ := hE.out; rw [q1, q2, q3]; rfl, ((Stp.of_below (bnext b2 bk (Nat.le_refl _)) (fun x => w.heap.size ≤ x)).next s12 (fun x hx => .inl (by subst hx; exact hgr))).below (Nat.le_refl _) (fun _ h => h)⟩
  · have hE : Hid (fdG l = Gm.zero ∧ fdI l = 0 ∧ fdE l = 22) := find_short (by omega)
    clear h
    go_enter Tryz.func49, Tryz.ntmps49
    go_wp2_with (first
      | (refine at_newG (by rfl) (by rfl) ?_; intro gr W a2 z2 r2 b2)
      | (refine at_putG (by rfl) _ _ (by rfl) gr (by rfl) Gm.zero (by rfl) _ r2 ?_; intro w12 r12 s12))
    refine bodyPost_ret (retGtt Tryz.results49 rfl rfl rfl r12) rfl ⟨by obtain ⟨q1, q2, q3⟩ := hE.out; rw [q1, q2, q3]; rfl, ((Stp.of_below b2 (fun x => w.heap.size ≤ x)).next s12 (fun x hx => .inl (by subst hx; exact a2))).below (Nat.le_refl _) (fun _ h => h)⟩
set_option maxRecDepth 100000
set_option maxRecDepth 100000 in
set_option maxHeartbeats 4000000 in
theorem rfind_anyU (a : Option Addr) (n c : Nat) (l : List Blk) (w : World) (h : BlsU w a n c l) :
    Calls Tryz.prog 54 #[.slice a n c] w fun e w' => e = .returned (.tuple #[gv (fdG l), .int .i64 (fdI l), .int .i64 (fdE l)]) ∧ Below w.heap.size w w' := by
  have hl := h.len
  have hle := h.le
  have hcap := h.cap
  unfold maxLen at hcap
  by_cases hn : 2 ≤ n
  · obtain ⟨b, o, rfl, hc⟩ := h.cell (by omega)
    clear h
    go_enter Tryz.func54, Tryz.ntmps54
    go_wp2_with (first
      | (refine at_newG (by rfl) (by rfl) ?_; intro gr W a2 z2 r2 b2))
    have hgr : w.heap.size ≤ gr := a2
    have hc2 : ∀ i, i < n → W.rangeAt b (o + i * 64) (l.getD i Blk.zero).cs := fun i hi => (Stp.of_below b2 (fun _ => False)).range (hc i hi) id
    clear hc a2 z2
    go_loopw [5] (fun i wr => ∃ k : Nat, k ≤ 2 ∧ i = .int .i64 k ∧ (∀ j, j < k → hasB (l.getD j Blk.zero) l.length = false) ∧ Below W.heap.size W wr) (fun i _ => 2 - (intOf i).toNat)
    case atStart => exact ⟨0, Nat.zero_le _, rfl, (fun j hj => by omega), Below.refl _ _⟩
    case round =>
      obtain ⟨k, hk, rfl, hno, bk⟩ := hrel
      by_cases hlt : k < 2
      · have hck := (Stp.of_below bk (fun _ => False)).range (hc2 k (by omega)) id
        have hfa := fun hy => find_at hlt (by omega) hno hy
        have hno2 : hasB (l.getD k Blk.zero) l.length = false → ∀ j, j < k + 1 → hasB (l.getD j Blk.zero) l.length = false := fun h j hj => by
          by_cases e : j = k
          · rw [e]; exact h
          · exact hno j (by omega)
        rw [hl] at hfa hno2 hno
        generalize l.getD k Blk.zero = x at *
        have hsh := one_any x n
        have hrk := r2.later bk
        generalize siG x = sx at *
        cases hF : hasB x n
        · rw [hF] at hsh
          go_wp2_with (first
            | (refine at_getM (by rfl) _ (by rfl) b (o + k * 64) (by rfl) x hck ?_)
            | (go_at_call 83; refine (hsh _).mono ?_; rintro e w8 ⟨rfl, b8⟩)
            | (refine at_newG (by rfl) (by rfl) ?_; intro g9 w9 a9 z9 r9 b9)
            | (refine at_putG (by rfl) _ _ (by rfl) g9 (by rfl) sx (by rfl) _ r9 ?_; intro w10 r10 s10))
          have S10 := (Stp.of_below (bnext (bnext bk b8 (Nat.le_refl _)) b9 (Nat.le_refl _)) (fun x => W.heap.size ≤ x)).next s10 (fun x hx => .inl (by subst hx; have := bk.size; have := b8.size; omega))
          go_roundw
          case rel => exact ⟨k + 1, by omega, by go_num, (fun j hj => by rw [hl]; exact hno2 hF j hj), S10.below (Nat.le_refl _) (fun _ h => h)⟩
          case measure => simp [intOf]; omega
        · rw [hF] at hsh
          have hE : Hid (fdG l = sx ∧ fdI l = (k : Int) ∧ fdE l = 0) := hfa hF
          clear hfa hno2 hno
          go_wp2_with (first
            | (refine at_getM (by rfl) _ (by rfl) b (o + k * 64) (by rfl) x hck ?_)
            | (go_at_call 83; refine (hsh _).mono ?_; rintro e w8 ⟨rfl, b8⟩)
            | (refine at_newG (by rfl) (by rfl) ?_; intro g9 w9 a9 z9 r9 b9)
            | (refine at_putG (by rfl) _ _ (by rfl) g9 (by rfl) sx (by rfl) _ r9 ?_; intro w10 r10 s10
               have rr10 : GR w10 gr Gm.zero := ((hrk.later b8).later b9).step s10 (by have := hrk.lt; have := b8.size; omega))
            | (refine at_getG (by rfl) _ (by rfl) g9 (by rfl) sx r10 ?_)
            | (refine at_putG (by rfl) _ _ (by rfl) gr (by rfl) sx (by rfl) _ rr10 ?_; intro w12 r12 s12))
          have S10 := (Stp.of_below (bnext (bnext bk b8 (Nat.le_refl _)) b9 (Nat.le_refl _)) (fun x => W.heap.size ≤ x)).next s10 (fun x hx => .inl (by subst hx; have := bk.size; have := b8.size; omega))
          have S12 := ((Stp.of_below b2 (fun x => w.heap.size ≤ x)).next S10 (fun x hx => .inl (Nat.le_trans b2.size hx))).next s12 (fun x hx => .inl (by subst hx; exact hgr))
          refine bodyPost_ret (retGtt Tryz.results54 rfl rfl rfl r12) rfl ⟨by obtain ⟨q1, q2, q3⟩ := hE.out; rw [q1, q2, q3]; rfl, S12.below (Nat.le_refl _) (fun _ h => h)⟩
      · obtain rfl : k = 2 := by omega
        have hE : Hid (fdG l = Gm.zero ∧ fdI l = 0 ∧ fdE l = 22) := find_none hno
        have hrk := r2.later bk
        clear hno
        go_wp2_with (first
          | (refine at_putG (by rfl) _ _ (by rfl) gr (by rfl) Gm.zero (by rfl) _ hrk ?_; intro w12 r12 s12))
        refine bodyPost_ret (retGtt Tryz.results54 rfl rfl rfl r12) rfl ⟨by obtain ⟨q1, q2, q3⟩ := hE.out; rw [q1, q2, q3]; rfl, ((Stp.of_below (bnext b2 bk (Nat.le_refl _)) (fun x => w.heap.size ≤ x)).next s12 (fun x hx => .inl (by subst hx; exact hgr))).below (Nat.le_refl _) (fun _ h => h)⟩
  · have hE : Hid (fdG l = Gm.zero ∧ fdI l = 0 ∧ fdE l = 22) := find_short (by omega)
    clear h
    go_enter Tryz.func54, Tryz.ntmps54
    go_wp2_with (first
      | (refine at_newG (by rfl) (by rfl) ?_; intro gr W a2 z2 r2 b2))
    refine wp_loop_rounds 1 ?_
    rw [rounds_succ]
    go_wp2_with (first
      | (refine at_putG (by rfl) _ _ (by rfl) gr (by rfl) Gm.zero (by rfl) _ r2 ?_; intro w12 r12 s12))
    refine bodyPost_ret (retGtt Tryz.results54 rfl rfl rfl r12) rfl ⟨by obtain ⟨q1, q2, q3⟩ := hE.out; rw [q1, q2, q3]; rfl, ((Stp.of_below b2 (fun x => w.heap.size ≤ x)).next s12 (fun x hx => .inl (by subst hx; exact a2))).below (Nat.le_refl _) (fun _ h => h)⟩
set_option maxRecDepth 100000
structure Wd (w : World) (g n c : Nat) (l : List Blk) : Prop where
  len : l.length = n
  le : n ≤ c
  cap : c ≤ maxLen
  lt : g < w.heap.size
  rng : ∀ i, i < n → w.rangeAt g (i * 64) (l.getD i Blk.zero).cs
  thr : ∀ i, i < n → w.there g (i * 64) 64
section
variable {w w' : World} {g n c : Nat} {l : List Blk} {F : Nat → Prop}
theorem Wd.bls (h : Wd w g n c l) : BlsU w (some ⟨g, 0, none⟩) n c l := ⟨h.len, h.le, h.cap, (fun e => by cases e), fun _ => ⟨g, 0, rfl, fun i hi => by rw [Nat.zero_add]; exact h.rng i hi⟩⟩
theorem Wd.step (h : Wd w g n c l) (k : Stp F w w') (hg : ¬ F g) : Wd w' g n c l :=
  ⟨h.len, h.le, h.cap, Nat.lt_of_lt_of_le h.lt k.size, fun i hi => k.range (h.rng i hi) hg, fun i hi => k.there (h.thr i hi) hg⟩
theorem Wd.later (h : Wd w g n c l) (k : Below w.heap.size w w') : Wd w' g n c l := h.step (Stp.of_below k (fun _ => False)) id
theorem Wd.put (h : Wd w g n c l) (i : Nat) (hi : i < n) (b : Blk) : Wd (w.setCells g (i * 64) b.cs) g n c (l.set i b) := by
  refine ⟨by rw [List.length_set]; exact h.len, h.le, h.cap, by rw [size_setCells]; exact h.lt, fun j hj => ?_, fun j hj => World.there_setCells (h.thr j hj) _ _ _⟩
  have hl := h.len
  by_cases e : j = i
  · subst e
    rw [List.getD_eq_getElem?_getD, List.getElem?_set_self (by omega)]
    exact World.rangeAt_setCells_same w g (j * 64) b.cs (by rw [b.cs_len]; exact h.thr j hj)
  · rw [List.getD_eq_getElem?_getD, List.getElem?_set_ne (Ne.symm e), ← List.getD_eq_getElem?_getD]
    refine World.rangeAt_setCells_apart (h.rng j hj) g (i * 64) b.cs (.inr ?_)
    rw [b.cs_len, Blk.cs_len]
    by_cases h2 : j < i
    · exact .inl (by omega)
    · exact .inr (by omega)
end
theorem at_putM {ops : Array Oper} {rest : List Oper} {o : Oper} {a : Act} {w : World} {Q : Exit → Act → World → Prop} (hw : Region.wanted o (yielded ops a.tmps) = true) (x y : Operand) (ho : o.op = .store 88 x y) (g i n c : Nat) (l : List Blk) (off : Nat) (hx : a.eval x = .pointer (some ⟨g, off, none⟩)) (hoff : off = i * 64) (b : Blk) (hy : a.eval y = .agg b.cs.toArray) (hW : Wd w g n c l) (hi : i < n)
    (h : ∀ w', Wd w' g n c (l.set i b) → Stp (fun x => x = g) w w' → wpList Tryz.prog ops Q rest (a.put o.dst undef) w') : wpList Tryz.prog ops Q (o :: rest) a w := by
  subst hoff
  refine op_unit hw _ ?_ (h (w.setCells g (i * 64) b.cs) (hW.put i hi b) (stp_setCells _ _ _ _))
  simp only [execOp, ho, hx, hy, Instr.storeAt, Instr.sureAddr, Sem.run_bind, Sem.run_pure, Result.andThen_ok]
  rw [run_storeVar_mid w g (i * 64) _ b.cs.toArray (by rw [List.size_toArray, b.cs_len]; exact hW.thr i hi) (by rw [arrB.size, List.size_toArray, b.cs_len]) b.arr]
  simp
theorem infoBk : (Tryz.prog.info? 88).map (fun i => (i.zero, i.size, i.bytes)) = some (some (.agg Blk.zero.cs.toArray), 64, 64) := by kernel_rfl
theorem uBlks : Tryz.prog.underlying 40 = some (.slice 88) := by kernel_rfl
def flatB (l : List Blk) : List Value := l.flatMap Blk.cs
theorem flatB_len (l : List Blk) : (flatB l).length = l.length * 64 := by
  unfold flatB
  induction l with
  | nil => rfl
  | cons a r ih => rw [List.flatMap_cons, List.length_append, ih, a.cs_len, List.length_cons]; omega
theorem flatB_get : ∀ (l : List Blk) (i j : Nat), i < l.length → j < 64 → (flatB l)[i * 64 + j]? = (l.getD i Blk.zero).cs[j]?
  | [], i, j, h, _ => by simp at h
  | a :: r, 0, j, _, hj => by
    unfold flatB; rw [List.flatMap_cons, List.getElem?_append_left (by rw [a.cs_len]; omega)]; simp
  | a :: r, i + 1, j, h, hj => by
    have := flatB_get r i j (by simpa using h) hj
    unfold flatB at *
    rw [List.flatMap_cons, List.getElem?_append_right (by rw [a.cs_len]; omega), a.cs_len, show (i + 1) * 64 + j - 64 = i * 64 + j by omega, this]; simp
theorem flatB_one (l : List Blk) : ∀ v ∈ flatB l, v.oneCell' = true := by
  intro v hv; unfold flatB at hv; obtain ⟨b, _, hb⟩ := List.mem_flatMap.1 hv; exact b.cs_one v hb
theorem Wd.own {B : Nat} {w : World} {g c : Nat} {l : List Blk} (h : w.ownsRow B 88 64 (.slice (some ⟨g, 0, none⟩) l.length c) l.length (flatB l)) : Wd w g l.length c l := by
  have hcs := h.cells (g := g) rfl
  rcases h.2 with ⟨e, _⟩ | ⟨g', cap, cur, e, _, hg, h1, h2, h3, h4⟩
  · injection e with e; cases e
  · injection e with e e2 e3; subst e3
    obtain rfl : g = g' := by injection e with e; injection e
    have hr : ∀ i, i < l.length → w.rangeAt g (i * 64) (l.getD i Blk.zero).cs := fun i hi j v hv => by
      have hj : j < 64 := by have := (List.getElem?_eq_some_iff.1 hv).1; rw [Blk.cs_len] at this; exact this
      have := hcs (i * 64 + j) v (by rw [flatB_get l i j (by omega) hj]; exact hv)
      rw [Addr.add_mid, Nat.zero_add] at this; exact this
    refine ⟨rfl, h1, h2, (Array.getElem?_eq_some_iff.1 hg).1, hr, fun i hi j hj => ⟨?_, by simp [World.frozen?, hg]⟩⟩
    have hj' : j < (l.getD i Blk.zero).cs.length := by rw [Blk.cs_len]; exact hj
    rw [hr i hi j _ (List.getElem?_eq_getElem hj')]; rfl
theorem getD_replicate (n i : Nat) : (List.replicate n Blk.zero).getD i Blk.zero = Blk.zero := by
  rw [List.getD_eq_getElem?_getD, List.getElem?_replicate]; split <;> rfl
theorem at_mkB {ops : Array Oper} {rest : List Oper} {o : Oper} {a : Act} {w : World} {Q : Exit → Act → World → Prop} (hw : Region.wanted o (yielded ops a.tmps) = true) (x : Operand) (ho : o.op = .makeSlice 40 x x) (n : Nat) (hx : a.eval x = .int .i64 (n : Int)) (hn : n ≤ 100000)
    (h : ∀ g w', w.heap.size ≤ g → Wd w' g n n (List.replicate n Blk.zero) → Below w.heap.size w w' → wpList Tryz.prog ops Q rest (a.put o.dst (.slice (some ⟨g, 0, none⟩) n n)) w') : wpList Tryz.prog ops Q (o :: rest) a w := by
  obtain ⟨i, hi, hz, hs, hb⟩ := info_parts infoBk
  have hr := run_make (P := Tryz.prog) w 40 88 i _ uBlks hi hz .i64 .i64 n n (by omega) (Int.le_refl _) (by rw [hb]; omega) (by omega)
  simp only [Int.toNat_natCast, hs] at hr
  have cell : ∀ k j, k < n → j < 64 → (w.alloc (.cells (madeCells Blk.zero.cs.toArray (n * 64)) 88)).cell? ⟨w.heap.size, k * 64 + j, none⟩ = Blk.zero.cs[j]? := fun k j hk hj => by
    rw [cell_of_row _ _ _ _ _ (0, 0) (heap_alloc_new w _)]
    unfold madeCells
    have h1 : k * 64 + j < n * 64 := by have : (k + 1) * 64 ≤ n * 64 := Nat.mul_le_mul_right _ hk; omega
    rw [Array.getElem?_map, Array.getElem?_range, if_pos h1]
    simp only [Option.map_some, List.size_toArray, Blk.cs_len]
    have h2 : (k * 64 + j) % 64 = j := by omega
    have h3 : j < Blk.zero.cs.length := by rw [Blk.cs_len]; exact hj
    rw [h2, List.getElem?_eq_getElem h3, getElem!_def, List.getElem?_toArray, List.getElem?_eq_getElem h3]
  refine op_val hw _ _ ?_ (h w.heap.size (w.alloc (.cells (madeCells Blk.zero.cs.toArray (n * 64)) 88)) (Nat.le_refl _) ⟨by simp, Nat.le_refl _, by unfold maxLen; omega, by simp, fun k hk j v hv => ?_, fun k hk j hj => ⟨?_, by simp [go_sem]⟩⟩ ((Below.refl _ _).alloc (Nat.le_refl _) _))
  · simp only [execOp, ho, hx, Sem.run_bind]
    exact congrArg (fun r => Result.andThen r _) hr
  · have hj : j < 64 := by have := (List.getElem?_eq_some_iff.1 hv).1; rw [Blk.cs_len] at this; exact this
    rw [getD_replicate] at hv
    rw [cell k j hk hj]; exact hv
  · rw [cell k j hk hj, List.getElem?_eq_getElem (by rw [Blk.cs_len]; exact hj)]; rfl
end Go.Proofs.YtgdnhkdfcjpdiaaGreatDoor
