/-
  The statement GraphPlays, proved: for every list of acts and every number the law returns true, and what came in reads as it did; no condition.
-/
import Derived.Test.YtigchhogclofiaaGreatGpG
namespace Go.Proofs.YtigchhogclofiaaGreat.graphPlays
open Go.ChangeShapes Go.WideShapes Go.ChangeAt Go.RowKit
set_option linter.unusedVariables false
set_option linter.unusedSimpArgs false

def acZ : Ac := ⟨0, 0, Pt.zero, Sv.nil, Sv.nil, false⟩
theorem srtA : Srt 32 12 acZ.cs :=
  ⟨uActP, szActP, fun w => (zero_of_info (v := .agg acZ.cs.toArray) (n := 12) (by kernel_rfl)).1 w, rfl, acZ.cs_one⟩
def pC : Pt := ⟨0, 1, 0, [9], 0, [], 0, 0, false⟩
theorem wfC : pC.wfp := ⟨wfi_of (by decide), wfi_of (by decide), wfi_of (by decide), wfi_of (by decide), wfi_of (by decide), wfi_of (by decide)⟩
theorem bldC (s : Sv) (w : World) : (Instr.build 30 #[(1, .int .i64 1), (3, .slice s.a s.n s.c)]).run Tryz.prog w = .ok (.agg (pC.cs s Sv.nil).toArray) w := by kernel_rfl
theorem at_bldPC {ops : Array Oper} {rest : List Oper} {o : Oper} {a : Act} {w : World} {Q : Exit → Act → World → Prop} (hw : Region.wanted o (yielded ops a.tmps) = true) (x y : Operand) (ho : o.op = .build 30 #[(1, x), (3, y)]) (s : Sv) (hx : a.eval x = .int .i64 1) (hy : a.eval y = .slice s.a s.n s.c)
    (h : wpList Tryz.prog ops Q rest (a.put o.dst (.agg (pC.cs s Sv.nil).toArray)) w) : wpList Tryz.prog ops Q (o :: rest) a w := by
  refine op_val hw _ _ ?_ h
  simp [execOp, ho, hx, hy, bldC]
/-- It goes on with a copy; the elder one goes its own way. -/
theorem copied {N g h k : Nat} {w w1 w2 w3 w4 : World} {Z : GZ} {E F R F' : Nat → Prop} {gq : Nat} (B : Bx N w g h Z k E F R) (G1 : Gh w1 gq Z E F') (hF' : ∀ x, F' x → w.heap.size ≤ x) (b1 : Below w.heap.size w w1) (s2 : Stp F w1 w2) (b3 : Below w2.heap.size w2 w3) (s4 : Stp F w3 w4) :
    Bx N w4 gq h Z (k + 1) E F' R ∧ Stp F w w4 := by
  obtain ⟨f1, e1, ef⟩ := B.gh.lt
  have hNw := B.size
  have hlt := B.rh.lt
  have dF : ∀ x, F' x → ¬ F x := fun x hx e => by have := f1 x e; have := hF' x hx; omega
  have s24 : Stp F w1 w4 := (s2.trans (Stp.of_below b3 F)).trans s4
  refine ⟨⟨G1.step s24 dF ef, (B.rh.later b1).step s24 (fun e => (B.hF h e).2.1 rfl) (fun x hx e => (B.hF x e).2.2 hx), fun x hx => ?_, B.hE, B.hR, B.hN, B.n6, by have := B.la; omega⟩, (Stp.of_below b1 F).trans s24⟩
  have := hF' x hx
  exact ⟨by omega, fun e => by have := hlt.1; omega, fun hr => by have := hlt.2 x hr; omega⟩
set_option maxRecDepth 100000 in
set_option maxHeartbeats 2000000 in
theorem walk (a : Option Addr) (n c : Nat) (l : List Ac) (m : Int) (W : World) (hA : Acs W a n c l) (wm : (Lit.int .i64 m).wf = true) :
    Calls Tryz.prog 3 #[.slice a n c, .int .i64 m] W fun e w' => e = .returned (.bool true) ∧ Below W.heap.size W w' := by
  have hn := hA.len
  subst hn
  have hcap : l.length ≤ maxLen := Nat.le_trans hA.le hA.cap
  have hwm : wfi m := wm
  go_enter Tryz.func3, Tryz.ntmps3
  go_wp2_with (first
    | (go_at_call 4; refine (new_any _).mono ?_; rintro e w1 ⟨g, rfl, E, F, G1, hF, hE, b1⟩)
    | (go_at_call 5; refine (rnew_any _).mono ?_; rintro e w2 ⟨rfl, R2, b2⟩))
  have i0 : Bx W.heap.size w2 g w1.heap.size GZ.new 0 E F (fun _ => False) := by
    obtain ⟨f1, e1, _⟩ := G1.lt
    exact ⟨G1.later b2, R2, fun x hx => ⟨hF x hx, fun e => by have := f1 x hx; omega, id⟩, fun x hx => ⟨hE x hx, fun e => by have := e1 x hx; omega⟩, fun x hx => hx.elim, b1.size, (fun p hp => by cases hp), Int.le_refl _⟩
  have B2 := bnext b1 b2 (Nat.le_refl _)
  clear G1 hF hE R2 b1 b2
  generalize w1.heap.size = h at *
  go_loopw [5, 7] (fun u v wr => ∃ (k g : Nat) (Z : GZ) (E F R : Nat → Prop), k ≤ l.length ∧ k ≤ 50 ∧ u = .pointer (some ⟨g, 0, none⟩) ∧ v = .int .i64 (k : Int) ∧ Bx W.heap.size wr g h Z k E F R ∧ Below W.heap.size W wr) (fun _ v _ => 50 - (intOf v).toNat)
  case atStart => exact ⟨0, g, GZ.new, E, F, _, Nat.zero_le _, Nat.zero_le _, rfl, rfl, i0, B2⟩
  case round =>
    clear i0
    obtain ⟨k, g, Z, E, F, R, hkl, hk50, rfl, rfl, I, Bw⟩ := hrel
    by_cases hlt : k < l.length ∧ k < 50
    · obtain ⟨h1, h2⟩ := hlt
      have a1 : (k : Int) < (l.length : Int) := by omega
      have a2 : (k : Int) < 50 := by omega
      have a3 : (0 : Int) ≤ (k : Int) := by omega
      obtain ⟨b, o, ea, hcell⟩ := hA.cell (by omega)
      subst ea
      obtain ⟨x, hx0, hx1, hx2⟩ := hcell k h1
      have hx1r := (Stp.of_below Bw (fun _ => False)).range hx1 id
      have h14 := fun (u : World) => among_any x.d 14 u (by omega) (by omega)
      have hfr : ∀ y, wr.heap.size ≤ y → ¬ (F y ∨ y = h) := fun y hy e => by
        rcases e with e | e
        · have := I.gh.lt.1 y e; omega
        · have := I.rh.lt.1; omega
      have tk : True := trivial
      have tk2 : True := trivial
      clear hcell hx0 hx1 hA hkl
      have h9t : True := trivial
      by_cases hN : (1152921504606846976 : Int) < x.n
      · obtain ⟨x9, ex9⟩ : ∃ x9 : Ac, x9 = { x with n := 1152921504606846976 } := ⟨_, rfl⟩
        have hx9 : x9.ok W := by subst ex9; exact ⟨hx2.d, (show wfi 1152921504606846976 from wfi_of (by decide)), hx2.p, hx2.b, hx2.i⟩
        have hn9 : x9.n ≤ 1152921504606846976 := by subst ex9; exact Int.le_refl _
        have ed9 : Hid (x9.d = x.d) := (by subst ex9; rfl : x9.d = x.d)
        have ec9 : Hid (x.cs.set 1 (.int .i64 1152921504606846976) = x9.cs) := (by subst ex9; rfl : x.cs.set 1 (.int .i64 1152921504606846976) = x9.cs)
        clear ex9
        by_cases hc : among x.d 14 = 13
        · rw [hc] at h14
          obtain ⟨mp, mw, f, fw, HX⟩ := I.gh
          have hla := I.la
          go_wp2_with (first
          | (clear tk; refine at_getAc (by rfl) _ (by rfl) b (o + k * 12) (by rfl) x hx1r ?_)
          | (refine at_newC 32 12 _ srtA (by rfl) (by rfl) ?_; intro g8 w6 e8 e8b r6 b6)
          | (refine at_putC 32 12 _ srtA (by rfl) _ _ (by rfl) g8 (by rfl) x.cs (by rfl) rfl x.cs_one _ r6 rfl ?_; intro w7 r7 s7
             have b7 : Below wr.heap.size wr w7 := ((Stp.of_below b6 (fun _ => False)).next s7 (fun x e => .inr (by omega))).below (Nat.le_refl _) (fun x e => e.elim)
             have cn := r7.cell 1 _ (show x.cs[1]? = some (.int .i64 x.n) from rfl)
             have fn := r7.frozen 1
             have rU : Cs (w7.setCell ⟨g8, 1, none⟩ (.int .i64 1152921504606846976)) g8 x9.cs := ec9.out ▸ r7.set 1 (.int .i64 1152921504606846976) rfl
             have bU : Below wr.heap.size wr (w7.setCell ⟨g8, 1, none⟩ (.int .i64 1152921504606846976)) := b7.setCell (p := ⟨g8, 1, none⟩) e8 _
             have cd := rU.cell 0 _ (show x9.cs[0]? = some (.int .i64 x.d) by rw [← ed9.out]; rfl)
             have BU := I.later bU
             have bWU := bnext Bw bU (Nat.le_refl _)
             have hgF : ¬ (F g8 ∨ g8 = h) := hfr g8 e8
             clear r6 s7 b6)
          | (go_at_call 6; refine (h14 _).mono ?_; rintro e w8 ⟨rfl, rfl⟩; clear h14)
          | (go_at_call 7; refine (copy_any (HX.later bU)).mono ?_; rintro e w9 ⟨gq, F', rfl, G9, hF', b9⟩
             have H9 := (HX.later bU).later b9)
          | (go_at_call 8; refine (settleAll_any H9).mono ?_; rintro e w10 ⟨rfl, G10, s10⟩
             have ba : Below w10.heap.size w10 (w10.alloc (.cells #[.int .u8 9] 5)) := (Below.refl _ w10).alloc (Nat.le_refl _) _
             have bd := one_b w10 9 (by decide)
             have zz : w9.heap.size ≤ w10.heap.size := s10.size
             obtain ⟨mp2, mw2, f2, fw2, H10⟩ := G10.later ba)
          | (refine at_bldPC (by rfl) _ _ (by rfl) ⟨some ⟨w10.heap.size, 0, none⟩, 1, 1⟩ (by rfl) (by rfl) ?_)
          | (go_at_call 9; refine (add_any (X := fun y => w10.heap.size ≤ y) H10 pC ⟨some ⟨w10.heap.size, 0, none⟩, 1, 1⟩ Sv.nil wfC ⟨bd, InsS.nil _, inE_at (Nat.le_refl _), InE.nil _⟩ (fun y hy e => by have := I.gh.lt.1 y e; have := bU.size; have := b9.size; omega) (show Z.last < 2000 by omega) (by decide) (by decide)).mono ?_; rintro e w11 ⟨rfl, E', F'', G11, s11, _, _⟩
             obtain ⟨B11, s12⟩ := copied BU G9 hF' b9 s10 ba s11
             have r11 := rU.step s12 (fun e => hgF (.inl e))
             have c11 := r11.cell 1 _ (show x9.cs[1]? = some (.int .i64 x9.n) from rfl)
             have b11 := bWU.trans (BU.low (s12.mono (fun y e => .inl (.inl e))))
             obtain ⟨mp3, mw3, f3, fw3, GA⟩ := B11.gh
             obtain ⟨ra, rc, rL, RA⟩ := B11.rh
             clear G9 H9 G10 H10 G11 bd ba s11)
          | (go_at_call 11; clear tk2
             refine (alike_any GA RA x9.n hx9.n (by have := B11.few; omega) B11.n6).mono ?_; rintro e w20 ⟨rfl, b20⟩
             have GB := GA.later b20
             have RB := RA.later b20
             clear GA RA)
          | (go_at_call 11; refine (alike_any GB RB m hwm (by have := B11.few; omega) B11.n6).mono ?_; rintro e w21 ⟨rfl, b21⟩
             have B21 := B11.later (bnext b20 b21 (Nat.le_refl _))
             have bF := bnext b11 (bnext b20 b21 (Nat.le_refl _)) (Nat.le_refl _)
             clear GB RB))
          go_roundw
          case rel => exact ⟨k + 1, _, _, _, _, _, by omega, by omega, rfl, by go_num, B21, bF⟩
          case measure => simp [intOf]; omega
        · have hci : ¬ ((among x.d 14 : Nat) : Int) = 13 := by omega
          have hdo : Hid (among x9.d 14 ≠ 13) := (by rw [ed9.out]; exact hc : among x9.d 14 ≠ 13)
          go_wp2_with (first
          | (clear tk; refine at_getAc (by rfl) _ (by rfl) b (o + k * 12) (by rfl) x hx1r ?_)
          | (refine at_newC 32 12 _ srtA (by rfl) (by rfl) ?_; intro g8 w6 e8 e8b r6 b6)
          | (refine at_putC 32 12 _ srtA (by rfl) _ _ (by rfl) g8 (by rfl) x.cs (by rfl) rfl x.cs_one _ r6 rfl ?_; intro w7 r7 s7
             have b7 : Below wr.heap.size wr w7 := ((Stp.of_below b6 (fun _ => False)).next s7 (fun x e => .inr (by omega))).below (Nat.le_refl _) (fun x e => e.elim)
             have cn := r7.cell 1 _ (show x.cs[1]? = some (.int .i64 x.n) from rfl)
             have fn := r7.frozen 1
             have rU : Cs (w7.setCell ⟨g8, 1, none⟩ (.int .i64 1152921504606846976)) g8 x9.cs := ec9.out ▸ r7.set 1 (.int .i64 1152921504606846976) rfl
             have bU : Below wr.heap.size wr (w7.setCell ⟨g8, 1, none⟩ (.int .i64 1152921504606846976)) := b7.setCell (p := ⟨g8, 1, none⟩) e8 _
             have cd := rU.cell 0 _ (show x9.cs[0]? = some (.int .i64 x.d) by rw [← ed9.out]; rfl)
             have BU := I.later bU
             have bWU := bnext Bw bU (Nat.le_refl _)
             have hgF : ¬ (F g8 ∨ g8 = h) := hfr g8 e8
             clear r6 s7 b6)
          | (go_at_call 6; refine (h14 _).mono ?_; rintro e w8 ⟨rfl, rfl⟩; clear h14)
          | (clear h9t; refine at_getAc (by rfl) _ (by rfl) g8 0 (by rfl) x9 rU.range ?_)
          | (go_at_call 10; refine (do_any BU x9 hx9 bWU (by omega) hdo.out hn9).mono ?_; rintro e w11 ⟨rfl, ⟨Z', E', F', R', B11⟩, s12⟩
             have r11 := rU.step s12 hgF
             have c11 := r11.cell 1 _ (show x9.cs[1]? = some (.int .i64 x9.n) from rfl)
             have b11 := bWU.trans (BU.low s12)
             obtain ⟨mp3, mw3, f3, fw3, GA⟩ := B11.gh
             obtain ⟨ra, rc, rL, RA⟩ := B11.rh)
          | (go_at_call 11; clear tk2
             refine (alike_any GA RA x9.n hx9.n (by have := B11.few; omega) B11.n6).mono ?_; rintro e w20 ⟨rfl, b20⟩
             have GB := GA.later b20
             have RB := RA.later b20
             clear GA RA)
          | (go_at_call 11; refine (alike_any GB RB m hwm (by have := B11.few; omega) B11.n6).mono ?_; rintro e w21 ⟨rfl, b21⟩
             have B21 := B11.later (bnext b20 b21 (Nat.le_refl _))
             have bF := bnext b11 (bnext b20 b21 (Nat.le_refl _)) (Nat.le_refl _)
             clear GB RB))
          go_roundw
          case rel => exact ⟨k + 1, _, _, _, _, _, by omega, by omega, rfl, by go_num, B21, bF⟩
          case measure => simp [intOf]; omega
      · obtain ⟨x9, ex9⟩ : ∃ x9 : Ac, Hid (x9 = x) := ⟨x, rfl⟩
        have hx9 : x9.ok W := by rw [ex9.out]; exact hx2
        have hn9 : x9.n ≤ 1152921504606846976 := by rw [ex9.out]; omega
        have ed9 : Hid (x9.d = x.d) := (by rw [ex9.out] : x9.d = x.d)
        by_cases hc : among x.d 14 = 13
        · rw [hc] at h14
          obtain ⟨mp, mw, f, fw, HX⟩ := I.gh
          have hla := I.la
          go_wp2_with (first
          | (clear tk; refine at_getAc (by rfl) _ (by rfl) b (o + k * 12) (by rfl) x hx1r ?_)
          | (refine at_newC 32 12 _ srtA (by rfl) (by rfl) ?_; intro g8 w6 e8 e8b r6 b6)
          | (refine at_putC 32 12 _ srtA (by rfl) _ _ (by rfl) g8 (by rfl) x.cs (by rfl) rfl x.cs_one _ r6 rfl ?_; intro w7 r7 s7
             have b7 : Below wr.heap.size wr w7 := ((Stp.of_below b6 (fun _ => False)).next s7 (fun x e => .inr (by omega))).below (Nat.le_refl _) (fun x e => e.elim)
             have cn := r7.cell 1 _ (show x.cs[1]? = some (.int .i64 x.n) from rfl)
             have fn := r7.frozen 1
             have rU : Cs w7 g8 x9.cs := by rw [ex9.out]; exact r7
             have bU : Below wr.heap.size wr w7 := b7
             have cd := rU.cell 0 _ (show x9.cs[0]? = some (.int .i64 x.d) by rw [← ed9.out]; rfl)
             have BU := I.later bU
             have bWU := bnext Bw bU (Nat.le_refl _)
             have hgF : ¬ (F g8 ∨ g8 = h) := hfr g8 e8
             clear r6 s7 b6)
          | (go_at_call 6; refine (h14 _).mono ?_; rintro e w8 ⟨rfl, rfl⟩; clear h14)
          | (go_at_call 7; refine (copy_any (HX.later bU)).mono ?_; rintro e w9 ⟨gq, F', rfl, G9, hF', b9⟩
             have H9 := (HX.later bU).later b9)
          | (go_at_call 8; refine (settleAll_any H9).mono ?_; rintro e w10 ⟨rfl, G10, s10⟩
             have ba : Below w10.heap.size w10 (w10.alloc (.cells #[.int .u8 9] 5)) := (Below.refl _ w10).alloc (Nat.le_refl _) _
             have bd := one_b w10 9 (by decide)
             have zz : w9.heap.size ≤ w10.heap.size := s10.size
             obtain ⟨mp2, mw2, f2, fw2, H10⟩ := G10.later ba)
          | (refine at_bldPC (by rfl) _ _ (by rfl) ⟨some ⟨w10.heap.size, 0, none⟩, 1, 1⟩ (by rfl) (by rfl) ?_)
          | (go_at_call 9; refine (add_any (X := fun y => w10.heap.size ≤ y) H10 pC ⟨some ⟨w10.heap.size, 0, none⟩, 1, 1⟩ Sv.nil wfC ⟨bd, InsS.nil _, inE_at (Nat.le_refl _), InE.nil _⟩ (fun y hy e => by have := I.gh.lt.1 y e; have := bU.size; have := b9.size; omega) (show Z.last < 2000 by omega) (by decide) (by decide)).mono ?_; rintro e w11 ⟨rfl, E', F'', G11, s11, _, _⟩
             obtain ⟨B11, s12⟩ := copied BU G9 hF' b9 s10 ba s11
             have r11 := rU.step s12 (fun e => hgF (.inl e))
             have c11 := r11.cell 1 _ (show x9.cs[1]? = some (.int .i64 x9.n) from rfl)
             have b11 := bWU.trans (BU.low (s12.mono (fun y e => .inl (.inl e))))
             obtain ⟨mp3, mw3, f3, fw3, GA⟩ := B11.gh
             obtain ⟨ra, rc, rL, RA⟩ := B11.rh
             clear G9 H9 G10 H10 G11 bd ba s11)
          | (go_at_call 11; clear tk2
             refine (alike_any GA RA x9.n hx9.n (by have := B11.few; omega) B11.n6).mono ?_; rintro e w20 ⟨rfl, b20⟩
             have GB := GA.later b20
             have RB := RA.later b20
             clear GA RA)
          | (go_at_call 11; refine (alike_any GB RB m hwm (by have := B11.few; omega) B11.n6).mono ?_; rintro e w21 ⟨rfl, b21⟩
             have B21 := B11.later (bnext b20 b21 (Nat.le_refl _))
             have bF := bnext b11 (bnext b20 b21 (Nat.le_refl _)) (Nat.le_refl _)
             clear GB RB))
          go_roundw
          case rel => exact ⟨k + 1, _, _, _, _, _, by omega, by omega, rfl, by go_num, B21, bF⟩
          case measure => simp [intOf]; omega
        · have hci : ¬ ((among x.d 14 : Nat) : Int) = 13 := by omega
          have hdo : Hid (among x9.d 14 ≠ 13) := (by rw [ed9.out]; exact hc : among x9.d 14 ≠ 13)
          go_wp2_with (first
          | (clear tk; refine at_getAc (by rfl) _ (by rfl) b (o + k * 12) (by rfl) x hx1r ?_)
          | (refine at_newC 32 12 _ srtA (by rfl) (by rfl) ?_; intro g8 w6 e8 e8b r6 b6)
          | (refine at_putC 32 12 _ srtA (by rfl) _ _ (by rfl) g8 (by rfl) x.cs (by rfl) rfl x.cs_one _ r6 rfl ?_; intro w7 r7 s7
             have b7 : Below wr.heap.size wr w7 := ((Stp.of_below b6 (fun _ => False)).next s7 (fun x e => .inr (by omega))).below (Nat.le_refl _) (fun x e => e.elim)
             have cn := r7.cell 1 _ (show x.cs[1]? = some (.int .i64 x.n) from rfl)
             have fn := r7.frozen 1
             have rU : Cs w7 g8 x9.cs := by rw [ex9.out]; exact r7
             have bU : Below wr.heap.size wr w7 := b7
             have cd := rU.cell 0 _ (show x9.cs[0]? = some (.int .i64 x.d) by rw [← ed9.out]; rfl)
             have BU := I.later bU
             have bWU := bnext Bw bU (Nat.le_refl _)
             have hgF : ¬ (F g8 ∨ g8 = h) := hfr g8 e8
             clear r6 s7 b6)
          | (go_at_call 6; refine (h14 _).mono ?_; rintro e w8 ⟨rfl, rfl⟩; clear h14)
          | (clear h9t; refine at_getAc (by rfl) _ (by rfl) g8 0 (by rfl) x9 rU.range ?_)
          | (go_at_call 10; refine (do_any BU x9 hx9 bWU (by omega) hdo.out hn9).mono ?_; rintro e w11 ⟨rfl, ⟨Z', E', F', R', B11⟩, s12⟩
             have r11 := rU.step s12 hgF
             have c11 := r11.cell 1 _ (show x9.cs[1]? = some (.int .i64 x9.n) from rfl)
             have b11 := bWU.trans (BU.low s12)
             obtain ⟨mp3, mw3, f3, fw3, GA⟩ := B11.gh
             obtain ⟨ra, rc, rL, RA⟩ := B11.rh)
          | (go_at_call 11; clear tk2
             refine (alike_any GA RA x9.n hx9.n (by have := B11.few; omega) B11.n6).mono ?_; rintro e w20 ⟨rfl, b20⟩
             have GB := GA.later b20
             have RB := RA.later b20
             clear GA RA)
          | (go_at_call 11; refine (alike_any GB RB m hwm (by have := B11.few; omega) B11.n6).mono ?_; rintro e w21 ⟨rfl, b21⟩
             have B21 := B11.later (bnext b20 b21 (Nat.le_refl _))
             have bF := bnext b11 (bnext b20 b21 (Nat.le_refl _)) (Nat.le_refl _)
             clear GB RB))
          go_roundw
          case rel => exact ⟨k + 1, _, _, _, _, _, by omega, by omega, rfl, by go_num, B21, bF⟩
          case measure => simp [intOf]; omega
    · have e1 : ¬ ((k : Int) < (l.length : Int) ∧ (k : Int) < 50) := fun h => hlt ⟨by omega, by omega⟩
      have hx : (k : Int) < (l.length : Int) → ¬ (k : Int) < 50 := fun h1 h2 => e1 ⟨h1, h2⟩
      clear I hA hlt e1
      by_cases hx1 : (k : Int) < (l.length : Int)
      all_goals (
        try have hx2 := hx hx1
        clear hx
        go_wp2_with (first
          | (go_at_call 12; refine (works_any _).mono ?_; rintro e w1 ⟨rfl, b1⟩))
        go_returns
        exact ⟨rfl, bnext Bw b1 (Nat.le_refl _)⟩)
theorem own : ownKnob Tryz.prog.godebug = none := by kernel_rfl
theorem laidOut : laidOutB Tryz.prog = true := by kernel_rfl
set_option maxRecDepth 100000 in
theorem lifted (os : Os) (started : os.Started) (H : Type) (enc : TypeId × Value → H) :
    ReturnsInHanded {} Tryz.checked os 3 .any (Rows.graphPlaysSpec.pre6 enc Tryz.prog Tryz.f3 Rows.graphPlaysRow.domain false) (Rows.graphPlaysSpec.post enc Tryz.prog Tryz.f3 false true false false) := by
  refine returnsInHanded_of_change (C := Tryz.checked) own started (by kernel_rfl) Tryz.func3
    (ChangeSpec.witness6 (enc := enc) (C := Tryz.checked) false ⟨#[], #[.slice none 0 0, .int .i64 0], []⟩ 8 (by kernel_rfl) (by kernel_rfl) (by kernel_rfl) (by kernel_rfl)) ?_
  intro W base args ds gs before hval0 hW hcnd _
  have hval : ∀ (j : Nat) t v, Tryz.f3.params[j]? = some t → args[j]? = some v → Value.okWide Tryz.prog W .any base t v := hval0
  have hW' := hW
  obtain ⟨p, q, hA0, hV, rfl, hfz, hnd⟩ := hW
  have hA : DataW.TrodAll enc Tryz.prog W 0 (fun _ => true) true Tryz.f3.params.toList args.toList ds p := hA0
  rw [Tryz.params3] at hA hval
  obtain ⟨v0, vs0, d0, ds0, p0, q0, hargs, rfl, rfl, h0, r0⟩ := trodAll_cons hA
  obtain ⟨v1, vs1, d1, ds1, p1, q1, rfl, rfl, rfl, h1, r1⟩ := trodAll_cons r0
  obtain ⟨rfl, rfl, rfl⟩ := trodAll_nil r1
  obtain rfl : args = #[v0, v1] := by cases args; simp_all
  obtain ⟨rfl, rfl⟩ := trodVars_none hV
  obtain ⟨a0, len0, cap0, rfl⟩ := okWide_slice Tryz.underlying22 (hval 0 22 v0 rfl rfl)
  have k0 := h0
  have lt0 : ∀ x ∈ p0, x.block < W.heap.size := by obtain ⟨m, hm⟩ := k0; exact DataW.trod_lt m _ _ _ hm
  obtain ⟨z0, w0⟩ : ∃ zs, Acs W a0 len0 cap0 zs := by
    obtain ⟨fuel, hf⟩ := h0
    obtain ⟨a, n, c, l, hcs, hi⟩ := acs_of_trod hf
    simp [Value.cells] at hcs
    obtain ⟨rfl, rfl, rfl⟩ := hcs
    exact ⟨_, hi⟩
  obtain ⟨a1, rfl, rfl, rfl, w1⟩ := open_int Tryz.underlying3 (hval 1 3 v1 rfl rfl) h1
  clear hA0 hval0
  refine (walk a0 len0 cap0 z0 a1 W w0 w1).mono fun e W' ⟨he, bel⟩ => ?_
  subst he
  exact ⟨_, rfl, _, _, _, [], _, [], hW', trodAll_mk1 (shut_bool Tryz.underlying4 _), (trodAll_cons_mk (Below.trod laidOut (by kernel_rfl) (of_decide_eq_true (by kernel_rfl)) k0 bel lt0) (trodAll_cons_mk (shut_int Tryz.underlying3 w1) trodAll_mk0)), rfl, bel.frame _, fun h => by cases h⟩
theorem over : Rows.graphPlaysRow.holds Tryz.pinned (OpenSpec.ofChange Rows.graphPlaysSpec) :=
  OpenClaim.holds_of_wide 3 Tryz.f3 rfl rfl rfl rfl rfl rfl rfl ⟨rfl, rfl, rfl, rfl, rfl⟩ rfl rfl rfl rfl rfl (by kernel_rfl) Tryz.func3 (by kernel_rfl)
    (of_decide_eq_true (by kernel_rfl)) (by unfold Func.isWrapper; first | (rw [if_pos (by decide +kernel)]; kernel_rfl) | (rw [if_neg (by decide +kernel)]; exact ⟨rfl, rfl⟩))
    (fun os started H enc _ => lifted os started H enc)
end Go.Proofs.YtigchhogclofiaaGreat.graphPlays
namespace Go.Proofs.YtigchhogclofiaaGreat
/-- The statement. -/
theorem graphPlays_holds : Rows.GraphPlaysSaid := graphPlays.over
#print axioms graphPlays_holds
end Go.Proofs.YtigchhogclofiaaGreat
