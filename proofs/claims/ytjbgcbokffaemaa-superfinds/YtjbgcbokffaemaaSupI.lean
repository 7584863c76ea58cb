/-
  What the document's Find of layer 8 returns, for every disk: no statement is proved here.
-/
import Derived.Test.YtjbgcbokffaemaaSupH
namespace Go.Proofs.Ytjbgcbokffaemaa
open Go.ChangeShapes Go.WideShapes Go.ChangeAt Go.RowKit
set_option linter.unusedVariables false

set_option maxRecDepth 100000 in
set_option maxHeartbeats 4000000 in
theorem rfind_any (a : Option Addr) (n c : Nat) (l : List Blk) (w : World) (h : Bls w a n c l) :
    Calls Try.prog 16 #[.slice a n c] w fun e w' => e = .returned (.tuple #[gv (fdG l), .int .i64 (fdI l), .int .i64 (fdE l)]) ∧ Below w.heap.size w w' := by
  have hl := h.len
  have hle := h.le
  have hcap := h.cap
  unfold maxLen at hcap
  by_cases hn : 2 ≤ n
  · obtain ⟨b, o, rfl, hc⟩ := h.cell (by omega)
    clear h
    go_enter Try.func16, Try.ntmps16
    go_wp2_with (first
      | (refine at_newG (by rfl) (by rfl) ?_; intro gr W a2 z2 r2 b2))
    have hgr : w.heap.size ≤ gr := a2
    have hc2 : ∀ i, i < n → W.rangeAt b (o + i * 64) (l.getD i Blk.zero).cs := fun i hi => (Stp.of_below b2 (fun _ => False)).range (hc i hi) id
    clear hc a2 z2
    go_loopw [5] (fun i wr => ∃ k : Nat, k ≤ 2 ∧ i = .int .i64 k ∧ (∀ j, j < k → hasB (l.getD j Blk.zero) l.length = false) ∧ Below W.heap.size W wr) (fun i _ => 2 - (intOf i).toNat)
    case atStart => exact ⟨0, Nat.zero_le _, rfl, (fun j hj => by omega), Below.refl _ _⟩
    case round =>
      obtain ⟨k, hk, rfl, hno, bk⟩ := hrel
      by_cases hlt : k < 2
      · have hck := (Stp.of_below bk (fun _ => False)).range (hc2 k (by omega)) id
        have hfa := fun hy => find_at hlt (by omega) hno hy
        have hno2 : hasB (l.getD k Blk.zero) l.length = false → ∀ j, j < k + 1 → hasB (l.getD j Blk.zero) l.length = false := fun h j hj => by
          by_cases e : j = k
          · rw [e]; exact h
          · exact hno j (by omega)
        rw [hl] at hfa hno2 hno
        generalize l.getD k Blk.zero = x at *
        have hsh := one_any x n
        have hrk := r2.later bk
        generalize siG x = sx at *
        cases hF : hasB x n
        · rw [hF] at hsh
          go_wp2_with (first
            | (refine at_getM (by rfl) _ (by rfl) b (o + k * 64) (by rfl) x hck ?_)
            | (go_at_call 32; refine (hsh _).mono ?_; rintro e w8 ⟨rfl, b8⟩)
            | (refine at_newG (by rfl) (by rfl) ?_; intro g9 w9 a9 z9 r9 b9)
            | (refine at_putG (by rfl) _ _ (by rfl) g9 (by rfl) sx (by rfl) _ r9 ?_; intro w10 r10 s10))
          have S10 := (Stp.of_below (bnext (bnext bk b8 (Nat.le_refl _)) b9 (Nat.le_refl _)) (fun x => W.heap.size ≤ x)).next s10 (fun x hx => .inl (by subst hx; have := bk.size; have := b8.size; omega))
          go_roundw
          case rel => exact ⟨k + 1, by omega, by go_num, (fun j hj => by rw [hl]; exact hno2 hF j hj), S10.below (Nat.le_refl _) (fun _ h => h)⟩
          case measure => simp [intOf]; omega
        · rw [hF] at hsh
          have hE : Hid (fdG l = sx ∧ fdI l = (k : Int) ∧ fdE l = 0) := hfa hF
          clear hfa hno2 hno
          go_wp2_with (first
            | (refine at_getM (by rfl) _ (by rfl) b (o + k * 64) (by rfl) x hck ?_)
            | (go_at_call 32; refine (hsh _).mono ?_; rintro e w8 ⟨rfl, b8⟩)
            | (refine at_newG (by rfl) (by rfl) ?_; intro g9 w9 a9 z9 r9 b9)
            | (refine at_putG (by rfl) _ _ (by rfl) g9 (by rfl) sx (by rfl) _ r9 ?_; intro w10 r10 s10
               have rr10 : GR w10 gr Gm.zero := ((hrk.later b8).later b9).step s10 (by have := hrk.lt; have := b8.size; omega))
            | (refine at_getG (by rfl) _ (by rfl) g9 (by rfl) sx r10 ?_)
            | (refine at_putG (by rfl) _ _ (by rfl) gr (by rfl) sx (by rfl) _ rr10 ?_; intro w12 r12 s12))
          have S10 := (Stp.of_below (bnext (bnext bk b8 (Nat.le_refl _)) b9 (Nat.le_refl _)) (fun x => W.heap.size ≤ x)).next s10 (fun x hx => .inl (by subst hx; have := bk.size; have := b8.size; omega))
          have S12 := ((Stp.of_below b2 (fun x => w.heap.size ≤ x)).next S10 (fun x hx => .inl (Nat.le_trans b2.size hx))).next s12 (fun x hx => .inl (by subst hx; exact hgr))
          refine bodyPost_ret (retGtt Try.results16 rfl rfl rfl r12) rfl ⟨by obtain ⟨q1, q2, q3⟩ := hE.out; rw [q1, q2, q3]; rfl, S12.below (Nat.le_refl _) (fun _ h => h)⟩
      · obtain rfl : k = 2 := by omega
        have hE : Hid (fdG l = Gm.zero ∧ fdI l = 0 ∧ fdE l = 22) := find_none hno
        have hrk := r2.later bk
        clear hno
        go_wp2_with (first
          | (refine at_putG (by rfl) _ _ (by rfl) gr (by rfl) Gm.zero (by rfl) _ hrk ?_; intro w12 r12 s12))
        refine bodyPost_ret (retGtt Try.results16 rfl rfl rfl r12) rfl ⟨by obtain ⟨q1, q2, q3⟩ := hE.out; rw [q1, q2, q3]; rfl, ((Stp.of_below (bnext b2 bk (Nat.le_refl _)) (fun x => w.heap.size ≤ x)).next s12 (fun x hx => .inl (by subst hx; exact hgr))).below (Nat.le_refl _) (fun _ h => h)⟩
  · have hE : Hid (fdG l = Gm.zero ∧ fdI l = 0 ∧ fdE l = 22) := find_short (by omega)
    clear h
    go_enter Try.func16, Try.ntmps16
    go_wp2_with (first
      | (refine at_newG (by rfl) (by rfl) ?_; intro gr W a2 z2 r2 b2))
    refine wp_loop_rounds 1 ?_
    rw [rounds_succ]
    go_wp2_with (first
      | (refine at_putG (by rfl) _ _ (by rfl) gr (by rfl) Gm.zero (by rfl) _ r2 ?_; intro w12 r12 s12))
    refine bodyPost_ret (retGtt Try.results16 rfl rfl rfl r12) rfl ⟨by obtain ⟨q1, q2, q3⟩ := hE.out; rw [q1, q2, q3]; rfl, ((Stp.of_below b2 (fun x => w.heap.size ≤ x)).next s12 (fun x hx => .inl (by subst hx; exact a2))).below (Nat.le_refl _) (fun _ h => h)⟩
end Go.Proofs.Ytjbgcbokffaemaa
