/-
  What Mend of layer 8 returns, for every disk: no statement is proved here.
-/
import Derived.Test.YtjbgcbokffaemaaSupJ
namespace Go.Proofs.Ytjbgcbokffaemaa
open Go.ChangeShapes Go.WideShapes Go.ChangeAt Go.RowKit
set_option linter.unusedVariables false

theorem wf_small (k : Nat) (h : k < 10) : (Lit.int .i64 (k : Int)).wf = true := by
  match k, h with
  | 0, _ | 1, _ | 2, _ | 3, _ | 4, _ | 5, _ | 6, _ | 7, _ | 8, _ | 9, _ => rfl
theorem next_nx (b : Blk) (p : Ld) (w : World) :
    Calls Try.prog 33 #[.int .i64 1, .agg b.cs.toArray, .agg p.cs.toArray] w fun e w' => e = .returned (.tuple #[.agg (nx b p).cs.toArray, .int .i64 0]) ∧ Below w.heap.size w w' := next_any 1 b p w
theorem same_due (b : Blk) (p : Ld) (w : World) :
    Calls Try.prog 34 #[.agg b.cs.toArray, .agg (nx b p).cs.toArray] w fun e w' => e = .returned (.bool (!dueB b p)) ∧ Below w.heap.size w w' := by
  rw [← same_nx]; exact same_any b (nx b p) w
theorem sput_md {l : List Blk} (h : fdE l = 0) (w : World) :
    Calls Try.prog 7 #[gv (fdG l)] w fun e w' => e = .returned (.tuple #[.agg (mdP l).cs.toArray, .int .i64 0]) ∧ Below w.heap.size w w' := by
  have := sput_any (fdG l) w
  rw [show (fdG l).err = 0 from if_pos (fd_ok h).2.1] at this
  exact this
set_option maxRecDepth 100000 in
set_option maxHeartbeats 4000000 in
theorem smend_any (a : Option Addr) (n c : Nat) (l : List Blk) (w : World) (h : Bls w a n c l) :
    Calls Try.prog 17 #[.slice a n c] w fun e w' => ∃ v, e = .returned (.tuple #[v, .int .i64 (fdE l)]) ∧ MpV w' v (mdF l) (mdN l) ∧ (∀ b, v = .map (some b) → w.heap.size ≤ b) ∧ Below w.heap.size w w' := by
  have hl := h.len
  have hle := h.le
  have hcap := h.cap
  unfold maxLen at hcap
  have hfind := sfind_any a n c l
  rcases fdE_or l with hE | hE
  · obtain ⟨hn, hok, _⟩ := fd_ok hE
    rw [hl] at hn
    have hput := sput_md hE
    have hyes := fun k hk hd => fK_yes (l := l) (k := k) hk hE hd
    have hno := fun k hk hd => fK_no (l := l) (k := k) hk hE hd
    have hN : Hid (nK l 2 = mdN l) := nK_two hE
    rw [hE] at hfind ⊢
    have hlp := (mdP l).len
    generalize mdP l = p at *
    generalize fdG l = s at *
    obtain ⟨b, o, rfl, hc⟩ := h.cell (by omega)
    go_enter Try.func17, Try.ntmps17
    go_wp2_with (first
      | (go_at_call 15; refine (hfind _ h).mono ?_; rintro e w1 ⟨rfl, b1⟩)
      | (refine at_newG (by rfl) (by rfl) ?_; intro g4 w2 a2 z2 r2 b2)
      | (refine at_putG (by rfl) _ _ (by rfl) g4 (by rfl) s (by rfl) _ r2 ?_; intro w3 r3 s3)
      | (refine at_getG (by rfl) _ (by rfl) g4 (by rfl) s r3 ?_)
      | (go_at_call 7; refine (hput _).mono ?_; rintro e w4 ⟨rfl, b4⟩)
      | (refine at_new 25 54 arrL (by rfl) (by rfl) ?_; intro g7 w5 a5 z5 r5 b5)
      | (refine at_put 25 54 arrL (by rfl) _ _ (by rfl) g7 (by rfl) p.l (by rfl) hlp _ r5 (by simp) ?_; intro w6 r6 s6)
      | (refine at_mkm (by rfl) (by rfl) ?_; intro gm W am m7 b7))
    have S3 := (Stp.of_below (bnext b1 b2 (Nat.le_refl _)) (fun x => w.heap.size ≤ x)).next s3 (fun x hx => .inl (by subst hx; have := b1.size; omega))
    have S5 := S3.next (Stp.of_below (bnext b4 b5 (Nat.le_refl _)) (fun _ => False)) (fun _ h => h.elim)
    have S6 := S5.next s6 (fun x hx => .inl (by subst hx; have := S3.size; have := b4.size; omega))
    have S7 := S6.next (Stp.of_below b7 (fun _ => False)) (fun _ h => h.elim)
    have r7 : Row W g7 p.l := r6.later b7
    have hgm : w.heap.size ≤ gm := by have := S6.size; omega
    have hne : g7 ≠ gm := by have := r6.lt; omega
    have hbw : b < w.heap.size := World.block_lt_of_cell? w ⟨b, _, none⟩ (hc 0 (by omega) 0 ((l.getD 0 Blk.zero).cs[0]'(by rw [Blk.cs_len]; omega)) (by simp))
    have hc2 : ∀ i, i < n → W.rangeAt b (o + i * 64) (l.getD i Blk.zero).cs := fun i hi => S7.range (hc i hi) (by omega)
    clear hc h a2 z2 r2 b2 b1 s3 r3 a5 z5 r5 b5 b4 s6 r6 S3 S5 S6 b7 hfind hput am
    clear w1 w2 w3 w4 w5 w6
    go_loopw [32] (fun i wr => ∃ k : Nat, k ≤ 2 ∧ i = .int .i64 k ∧ MpN wr gm (fK l k) (nK l k) ∧ Stp (fun x => x = gm) W wr) (fun i _ => 2 - (intOf i).toNat)
    case atStart => exact ⟨0, Nat.zero_le _, rfl, by rw [fK_zero]; exact m7, Stp.refl _ _⟩
    case round =>
      obtain ⟨k, hk, rfl, mk, sk⟩ := hrel
      by_cases hlt : k < 2
      · have hck := sk.range (hc2 k (by omega)) (show ¬ b = gm by omega)
        have hyk := hyes k hlt
        have hnk := hno k hlt
        have hse := fK_self l k
        have hnl := nK_le l k
        have hwf := wf_small k (by omega)
        generalize l.getD k Blk.zero = x at *
        have hx := x.len
        have hnx := next_nx x p
        have hsm := same_due x p
        have hrk := r7.step sk hne
        have hly := (nx x p).len
        clear hyes hno
        generalize nx x p = y at *
        have t1 : True := trivial
        have t2 : True := trivial
        cases hd : dueB x p
        · rw [hd] at hsm
          obtain ⟨e1, e2⟩ := hnk hd
          have hF : Hid (fK l (k + 1) = fK l k ∧ nK l (k + 1) = nK l k) := ⟨e1, e2⟩
          clear e1 e2 hyk hnk hd
          go_wp2_with (first
            | (refine at_getM (by rfl) _ (by rfl) b (o + k * 64) (by rfl) x hck ?_)
            | (have _t := t1; refine at_new 32 64 arrB (by rfl) (by rfl) ?_; intro g6 w6 a6 z6 r6 b6; clear _t)
            | (have _t := t1; refine at_put 32 64 arrB (by rfl) _ _ (by rfl) g6 (by rfl) x.l (by rfl) hx _ r6 (by simp) ?_; intro w8 r8 s8; clear _t t1
               have q8 : Row w8 g7 p.l := (hrk.later b6).step s8 (by have := hrk.lt; omega))
            | (refine at_getB (by rfl) _ (by rfl) g6 (by rfl) x rf ?_)
            | (refine at_getB (by rfl) _ (by rfl) g6 (by rfl) x r8 ?_)
            | (refine at_getL (by rfl) _ (by rfl) g7 (by rfl) p q8 ?_)
            | (go_at_call 33; refine (hnx _).mono ?_; rintro e w9 ⟨rfl, b9⟩)
            | (refine at_new 32 64 arrB (by rfl) (by rfl) ?_; intro g10 w10 a10 z10 r10 b10)
            | (refine at_put 32 64 arrB (by rfl) _ _ (by rfl) g10 (by rfl) y.l (by rfl) hly _ r10 (by simp) ?_; intro w11 r11 s11
               have rf : Row w11 g6 x.l := ((r8.later b9).later b10).step s11 (by have := r8.lt; have := b9.size; omega)
               have S11 : Stp (fun z => wr.heap.size ≤ z) wr w11 := (((Stp.of_below b6 _).next s8 (fun z hz => .inl (by subst hz; exact a6))).next (Stp.of_below (bnext b9 b10 (Nat.le_refl _)) (fun _ => False)) (fun _ h => h.elim)).next s11 (fun z hz => .inl (by subst hz; have := b6.size; have := s8.size; have := b9.size; omega))
               clear r8 q8 s8 b9 b10 s11 a6 z6 r6 b6 a10 z10 r10)
            | (refine at_getB (by rfl) _ (by rfl) g10 (by rfl) y r11 ?_)
            | (go_at_call 34; refine (hsm _).mono ?_; rintro e w12 ⟨rfl, b12⟩))
          have S12 := S11.next (Stp.of_below b12 (fun _ => False)) (fun _ h => h.elim)
          go_roundw
          case rel =>
            obtain ⟨e1, e2⟩ := hF.out
            exact ⟨k + 1, by omega, by go_num, by rw [e1, e2]; exact mk.step S12 (by have := mk.lt; omega), sk.next S12 (fun z hz => .inr (Nat.le_trans sk.size hz))⟩
          case measure => simp [intOf]; omega
        · rw [hd] at hsm
          obtain ⟨e1, e2⟩ := hyk hd
          have hF : Hid (fK l (k + 1) = updB (fK l k) (k : Int) y ∧ nK l (k + 1) = nK l k + 1) := ⟨e1, e2⟩
          clear e1 e2 hyk hnk hd
          have t3 : True := trivial
          go_wp2_with (first
            | (refine at_getM (by rfl) _ (by rfl) b (o + k * 64) (by rfl) x hck ?_)
            | (have _t := t1; refine at_new 32 64 arrB (by rfl) (by rfl) ?_; intro g6 w6 a6 z6 r6 b6; clear _t)
            | (have _t := t1; refine at_put 32 64 arrB (by rfl) _ _ (by rfl) g6 (by rfl) x.l (by rfl) hx _ r6 (by simp) ?_; intro w8 r8 s8; clear _t t1
               have q8 : Row w8 g7 p.l := (hrk.later b6).step s8 (by have := hrk.lt; omega))
            | (refine at_getB (by rfl) _ (by rfl) g6 (by rfl) x rf ?_)
            | (refine at_getB (by rfl) _ (by rfl) g6 (by rfl) x r8 ?_)
            | (refine at_getL (by rfl) _ (by rfl) g7 (by rfl) p q8 ?_)
            | (go_at_call 33; refine (hnx _).mono ?_; rintro e w9 ⟨rfl, b9⟩)
            | (refine at_new 32 64 arrB (by rfl) (by rfl) ?_; intro g10 w10 a10 z10 r10 b10)
            | (refine at_put 32 64 arrB (by rfl) _ _ (by rfl) g10 (by rfl) y.l (by rfl) hly _ r10 (by simp) ?_; intro w11 r11 s11
               have rf : Row w11 g6 x.l := ((r8.later b9).later b10).step s11 (by have := r8.lt; have := b9.size; omega)
               have S11 : Stp (fun z => wr.heap.size ≤ z) wr w11 := (((Stp.of_below b6 _).next s8 (fun z hz => .inl (by subst hz; exact a6))).next (Stp.of_below (bnext b9 b10 (Nat.le_refl _)) (fun _ => False)) (fun _ h => h.elim)).next s11 (fun z hz => .inl (by subst hz; have := b6.size; have := s8.size; have := b9.size; omega))
               clear r8 q8 s8 b9 b10 s11 a6 z6 r6 b6 a10 z10 r10)
            | (refine at_getB (by rfl) _ (by rfl) g10 (by rfl) y rg ?_)
            | (refine at_getB (by rfl) _ (by rfl) g10 (by rfl) y r11 ?_)
            | (go_at_call 34; refine (hsm _).mono ?_; rintro e w12 ⟨rfl, b12⟩
               have S12 := S11.next (Stp.of_below b12 (fun _ => False)) (fun _ h => h.elim)
               have mk2 := mk.step S12 (by have := mk.lt; omega)
               have rg := r11.later b12
               clear r11)
            | (refine at_mput (by rfl) _ _ _ (by rfl) gm _ _ (by rfl) (k : Int) (by rfl) y (by rfl) mk2 (by omega) hwf hse ?_; intro w13 m13 s13))
          go_roundw
          case rel =>
            obtain ⟨e1, e2⟩ := hF.out
            exact ⟨k + 1, by omega, by go_num, by rw [e1, e2]; exact m13, (sk.next S12 (fun z hz => .inr (Nat.le_trans sk.size hz))).next s13 (fun z hz => .inl hz)⟩
          case measure => simp [intOf]; omega
      · obtain rfl : k = 2 := by omega
        rw [fK_two, hN.out] at mk
        go_wp2_with fail
        go_returns
        exact ⟨_, rfl, .inr ⟨gm, rfl, mk⟩, (fun b' e => by injection e with e; injection e with e; subst e; exact hgm), (S7.next sk (fun z hz => .inl (by subst hz; exact hgm))).below (Nat.le_refl _) (fun _ h => h)⟩
  · have hF : Hid (mdF l = (fun _ => none) ∧ mdN l = 0) := ⟨by funext j; unfold mdF; rw [if_neg (by omega)], by unfold mdN; rw [if_neg (by omega)]⟩
    rw [hE] at hfind ⊢
    generalize fdG l = s at *
    go_enter Try.func17, Try.ntmps17
    go_wp2_with (first
      | (go_at_call 15; refine (hfind _ h).mono ?_; rintro e w1 ⟨rfl, b1⟩)
      | (refine at_newG (by rfl) (by rfl) ?_; intro g4 w2 a2 z2 r2 b2)
      | (refine at_putG (by rfl) _ _ (by rfl) g4 (by rfl) s (by rfl) _ r2 ?_; intro w3 r3 s3))
    have S3 := (Stp.of_below (bnext b1 b2 (Nat.le_refl _)) (fun x => w.heap.size ≤ x)).next s3 (fun x hx => .inl (by subst hx; have := b1.size; omega))
    go_returns
    exact ⟨_, rfl, .inl ⟨rfl, hF.out.1, hF.out.2⟩, (fun b' e => by injection e with e; cases e), S3.below (Nat.le_refl _) (fun _ h => h)⟩
end Go.Proofs.Ytjbgcbokffaemaa
