/-
  The statement SuperMends, proved: for every list of sectors the law returns true, and what came in reads as it did; no condition.
-/
import Derived.Test.YtjbgcbokffaemaaSupQ
namespace Go.Proofs.Ytjbgcbokffaemaa.superMends
open Go.ChangeShapes Go.WideShapes Go.ChangeAt Go.RowKit
set_option linter.unusedVariables false

theorem rmend_len (a : Option Addr) (n c : Nat) (l : List Blk) (w : World) (h : Bls w a n c l) :
    Calls Try.prog 18 #[.slice a n c] w fun e w' => ∃ a' c', e = .returned (.tuple #[.slice a' (mdN l) c', .int .i64 (fdE l)]) ∧ Below w.heap.size w w' := by
  refine (rmend_any a n c l w h).mono ?_
  rintro e w' ⟨v, rfl, ⟨a', c', rfl, _⟩, b⟩
  rw [mdL_len]
  exact ⟨a', c', rfl, b⟩
set_option maxRecDepth 100000 in
set_option maxHeartbeats 4000000 in
theorem walk_no (a : Option Addr) (n c : Nat) (l : List Blk) (w : World) (h : Bls w a n c l) (hE : fdE (l.take 60) = 22) :
    Calls Try.prog 6 #[.slice a n c] w fun e w' => e = .returned (.bool true) ∧ Below w.heap.size w w' := by
  have h1 := few_any a n c l
  have hN : (l.take 60).length ≤ 60 := by rw [List.length_take]; omega
  generalize l.take 60 = L at *
  have h2 := fun a n c w (h : Bls w a n c L) => few_own a n c L w h
  have h5 := fun a n c w (h : Bls w a n c L) => smend_any a n c L w h
  have h6 := fun a n c w (h : Bls w a n c L) => rmend_len a n c L w h
  rw [hE] at h5 h6
  generalize L.length = N at *
  generalize mdN L = K at *
  generalize mdF L = f at *
  have t1 : True := trivial
  go_enter Try.func6, Try.ntmps6
  go_wp2_with (first
    | (go_at_call 14; have _t := t1; refine (h1 _ h).mono ?_; rintro e w1 ⟨g1, c1, rfl, d1, m1, b1⟩; clear _t t1)
    | (go_at_call 14; refine (h2 _ _ _ _ d1.bls hN).mono ?_; rintro e w2 ⟨g2, c2, rfl, d2, m2, b2⟩)
    | (go_at_call 17; refine (h5 _ _ _ _ d2.bls).mono ?_; rintro e w3 ⟨v, rfl, mv, _, b3⟩)
    | (go_at_call 18; refine (h6 _ _ _ _ ((d1.later b2).later b3).bls).mono ?_; rintro e w4 ⟨a4, c4, rfl, b4⟩
       have mv4 := mv.later b4)
    | (refine at_mlen (by rfl) _ (by rfl) v _ _ (by rfl) mv4 ?_)
    | (go_at_call 13; refine (sworks_any _).mono ?_; rintro e w22 ⟨rfl, b22⟩))
  go_returns
  exact ⟨rfl, bnext (bnext (bnext (bnext b1 b2 (Nat.le_refl _)) b3 (Nat.le_refl _)) b4 (Nat.le_refl _)) b22 (Nat.le_refl _)⟩
set_option maxRecDepth 100000 in
set_option maxHeartbeats 8000000 in
theorem walk_yes (a : Option Addr) (n c : Nat) (l : List Blk) (w : World) (h : Bls w a n c l) (hE : fdE (l.take 60) = 0) :
    Calls Try.prog 6 #[.slice a n c] w fun e w' => e = .returned (.bool true) ∧ Below w.heap.size w w' := by
  have h1 := few_any a n c l
  have hN : (l.take 60).length ≤ 60 := by rw [List.length_take]; omega
  generalize l.take 60 = L at *
  have h2 := fun a n c w (h : Bls w a n c L) => few_own a n c L w h
  have h3 := fun a n c w (h : Bls w a n c L) => sfind_any a n c L w h
  have h5 := fun a n c w (h : Bls w a n c L) => smend_any a n c L w h
  have h6 := fun a n c w (h : Bls w a n c L) => rmend_len a n c L w h
  have h7 := rsput_md hE
  have hR := fun k hk => mK_right hE k hk
  have hlp := (mdP L).len
  have hL2 := fd_len hE
  rw [hE] at h3 h5 h6
  generalize hNN : L.length = N at *
  generalize mdN L = K at *
  generalize fdG L = G at *
  generalize fdI L = I at *
  generalize mdP L = p at *
  have qL : ∀ w, (Op.equalIn 10000 25 (.agg p.cs.toArray) (.agg p.cs.toArray)).run Try.prog w = .ok true w := fun w => by rw [eqL]; simp
  have gL := guardL
  have t1 : True := trivial
  have t2 : True := trivial
  go_enter Try.func6, Try.ntmps6
  go_wp2_with (first
    | (go_at_call 14; have _t := t1; refine (h1 _ h).mono ?_; rintro e w1 ⟨g1, c1, rfl, d1, m1, b1⟩; clear _t t1)
    | (go_at_call 14; have _t := t2; refine (h2 _ _ _ _ d1.bls hN).mono ?_; rintro e w2 ⟨g2, c2, rfl, d2, m2, b2⟩; clear _t t2)
    | (go_at_call 17; refine (h5 _ _ _ _ d2.bls).mono ?_; rintro e w3 ⟨v, rfl, mv, hv, b3⟩)
    | (go_at_call 18; refine (h6 _ _ _ _ ((d1.later b2).later b3).bls).mono ?_; rintro e w4 ⟨a4, c4, rfl, b4⟩
       have mv4 := mv.later b4
       have d4 := ((d1.later b2).later b3).later b4
       have B4 := bnext (bnext (bnext b1 b2 (Nat.le_refl _)) b3 (Nat.le_refl _)) b4 (Nat.le_refl _)
       have hv4 : ∀ b, v = .map (some b) → b ≠ g1 := fun b e => by have := hv b e; have := d1.lt; have := b2.size; omega
       clear d1 b1 d2 m2 b2 mv hv b3 b4)
    | (refine at_mlen (by rfl) _ (by rfl) v _ _ (by rfl) mv4 ?_)
    | (go_at_call 14; refine (h2 _ _ _ _ d4.bls hN).mono ?_; rintro e w5 ⟨g5, c5, rfl, d5, m5, b5⟩)
    | (go_at_call 15; refine (h3 _ _ _ _ d5.bls).mono ?_; rintro e w6 ⟨rfl, b6⟩)
    | (refine at_newG (by rfl) (by rfl) ?_; intro g7 w7 a7 z7 r7 b7)
    | (refine at_putG (by rfl) _ _ (by rfl) g7 (by rfl) G (by rfl) _ r7 ?_; intro w8 r8 s8)
    | (refine at_getG (by rfl) _ (by rfl) g7 (by rfl) G r8 ?_)
    | (go_at_call 8; refine (h7 _).mono ?_; rintro e w9 ⟨rfl, b9⟩)
    | (refine at_new 25 54 arrL (by rfl) (by rfl) ?_; intro g10 w10 a10 z10 r10 b10)
    | (refine at_put 25 54 arrL (by rfl) _ _ (by rfl) g10 (by rfl) p.l (by rfl) hlp _ r10 (by simp) ?_; intro W rp s10))
  have B7 := bnext (bnext b5 b6 (Nat.le_refl _)) b7 (Nat.le_refl _)
  have S8 := (Stp.of_below B7 (fun x => w4.heap.size ≤ x)).next s8 (fun x hx => .inl (by subst hx; have := b5.size; have := b6.size; omega))
  have SW := (S8.next (Stp.of_below (bnext b9 b10 (Nat.le_refl _)) (fun _ => False)) (fun _ h => h.elim)).next s10 (fun x hx => .inl (by subst hx; have := S8.size; have := b9.size; omega))
  have dW := d4.step SW (by have := d4.lt; omega)
  have mW := mv4.step SW (fun b e => by
    rcases mv4 with ⟨e', _⟩ | ⟨b', e', hm⟩
    · rw [e'] at e; injection e with e; cases e
    · rw [e'] at e; injection e with e; injection e with e; subst e; have := hm.lt; omega)
  have hvW : ∀ b, v = .map (some b) → ¬ (b = g1 ∨ W.heap.size ≤ b) := fun b e => by
    rcases mW with ⟨e', _⟩ | ⟨b', e', hm⟩
    · rw [e'] at e; injection e with e; cases e
    · have := hv4 b e
      rw [e'] at e; injection e with e; injection e with e; subst e; have := hm.lt; omega
  have hg1 : g1 < w4.heap.size := d4.lt
  have hnp : ¬ (g10 = g1 ∨ W.heap.size ≤ g10) := by have := rp.lt; have := S8.size; have := b9.size; omega
  have SA := (Stp.of_below B4 (fun x => w.heap.size ≤ x)).next SW (fun x hx => .inl (Nat.le_trans B4.size hx))
  clear h1 h2 h3 h5 h6 h7 b5 b6 a7 z7 r7 b7 r8 s8 b9 a10 z10 r10 b10 s10 B7 S8 SW d4 mv4 hv4 d5 m5 B4
  go_loopw [12] (fun i wr => ∃ k : Nat, k ≤ 2 ∧ i = .int .i64 k ∧ Wd wr g1 N c1 (mK L k) ∧ Stp (fun x => x = g1 ∨ W.heap.size ≤ x) W wr) (fun i _ => 2 - (intOf i).toNat)
  case atStart => exact ⟨0, Nat.zero_le _, rfl, dW, Stp.refl _ _⟩
  case round =>
    obtain ⟨k, hk, rfl, dk, sk⟩ := hrel
    have hdl := dk.le
    have hdc := dk.cap
    unfold maxLen at hdc
    by_cases hlt : k < 2
    · have mk := mW.step sk hvW
      have rk := rp.step sk hnp
      have hwf := wf_small k (by omega)
      have hkN : k < N := by omega
      have hself := mK_self L k (by omega)
      obtain ⟨hg, hp⟩ := hR k hlt
      have hget := rget_any 1 ((mdF L (k : Int)).getD (L.getD k Blk.zero))
      rw [hg, hp] at hget
      clear hg hp hR
      cases hm : mdF L (k : Int) with
      | none =>
        have hz := mK_none hm
        have e1 : ((mdF L) (k : Int)).isSome = false := by rw [hm]; rfl
        have e2 : (((mdF L) (k : Int)).getD Blk.zero) = Blk.zero := by rw [hm]; rfl
        rw [hm] at hself hget
        have hd1 : Hid (mK L (k + 1) = mK L k) := hz
        rw [hz] at hself
        clear hz
        have hr := dk.rng k hkN
        rw [hself] at hr
        generalize (none : Option Blk).getD (L.getD k Blk.zero) = zz at *
        generalize gT 1 zz = tt at *
        have t3 : True := trivial
        go_wp2_with (first
          | (refine at_mlook (by rfl) _ _ (by rfl) v _ _ (by rfl) mk (k : Int) (by rfl) hwf ?_; rw [e1, e2])
          | (refine at_new 32 64 arrB (by rfl) (by rfl) ?_; intro g6 w6 a6 z6 r6 b6)
          | (refine at_put 32 64 arrB (by rfl) _ _ (by rfl) g6 (by rfl) Blk.zero.l (by rfl) Blk.zero.len _ r6 (by simp) ?_; intro w7 r7 s7
             have S7 : Stp (fun z => wr.heap.size ≤ z) wr w7 := (Stp.of_below b6 _).next s7 (fun z hz => .inl (by subst hz; exact a6))
             have hr7 := S7.range hr (by have := dk.lt; omega)
             have q7 : Row w7 g10 p.l := rk.step S7 (by have := rk.lt; omega)
             clear a6 z6 r6 b6 r7 s7)
          | (refine at_getM (by rfl) _ (by rfl) g1 (k * 64) (by rfl) zz hr7 ?_)
          | (go_at_call 21; refine (hget _).mono ?_; rintro e w8 ⟨rfl, b8⟩)
          | (refine at_new 25 54 arrL (by rfl) (by rfl) ?_; intro g15 w9 a9 z9 r9 b9)
          | (refine at_put 25 54 arrL (by rfl) _ _ (by rfl) g15 (by rfl) p.l (by rfl) hlp _ r9 (by simp) ?_; intro w10 r10 s10
             have q10 : Row w10 g10 p.l := ((q7.later b8).later b9).step s10 (by have := q7.lt; have := b8.size; omega)
             have S10 := (S7.next (Stp.of_below (bnext b8 b9 (Nat.le_refl _)) (fun _ => False)) (fun _ h => h.elim)).next s10 (fun z hz => .inl (by subst hz; have := S7.size; have := b8.size; omega)))
          | (refine at_getL (by rfl) _ (by rfl) g15 (by rfl) p r10 ?_)
          | (refine at_getL (by rfl) _ (by rfl) g10 (by rfl) p q10 ?_))
        go_roundw
        case rel => exact ⟨k + 1, by omega, by go_num, by rw [hd1.out]; exact dk.step S10 (by have := dk.lt; omega), sk.next S10 (fun z hz => .inr (Nat.le_trans sk.size hz))⟩
        case measure => simp [intOf]; omega
      | some y =>
        have hz := mK_some hm
        have e1 : ((mdF L) (k : Int)).isSome = true := by rw [hm]; rfl
        have e2 : (((mdF L) (k : Int)).getD Blk.zero) = y := by rw [hm]; rfl
        rw [hm] at hself hget
        have hd1 : Hid (mK L (k + 1) = (mK L k).set k y) := hz
        have hself' : ((mK L k).set k y).getD k Blk.zero = y := by rw [← hz]; exact hself
        have hly := y.len
        clear hz hself
        rw [show (some y).getD (L.getD k Blk.zero) = y from rfl] at hget
        generalize gT 1 y = tt at *
        have t3 : True := trivial
        go_wp2_with (first
          | (refine at_mlook (by rfl) _ _ (by rfl) v _ _ (by rfl) mk (k : Int) (by rfl) hwf ?_; rw [e1, e2])
          | (refine at_new 32 64 arrB (by rfl) (by rfl) ?_; intro g6 w6 a6 z6 r6 b6)
          | (have _t := t3; refine at_put 32 64 arrB (by rfl) _ _ (by rfl) g6 (by rfl) y.l (by rfl) hly _ r6 (by simp) ?_; intro w7 r7 s7; clear _t t3
             have S7 : Stp (fun z => wr.heap.size ≤ z) wr w7 := (Stp.of_below b6 _).next s7 (fun z hz => .inl (by subst hz; exact a6))
             have d7 := dk.step S7 (by have := dk.lt; omega)
             have q7 : Row w7 g10 p.l := rk.step S7 (by have := rk.lt; omega))
          | (refine at_getB (by rfl) _ (by rfl) g6 (by rfl) y r7 ?_)
          | (refine at_putM (by rfl) _ _ (by rfl) g1 k N c1 _ _ (by rfl) rfl y (by rfl) d7 hkN ?_; intro w8 d8 s8
             have q8 : Row w8 g10 p.l := q7.step s8 (fun e => hnp (.inl e))
             have hr8 := d8.rng k hkN
             have S8 : Stp (fun z => z = g1 ∨ wr.heap.size ≤ z) wr w8 := (S7.mono (F' := fun z => z = g1 ∨ wr.heap.size ≤ z) (fun z hz => .inl (.inr hz))).next s8 (fun z hz => .inl (.inl hz))
             rw [hself'] at hr8)
          | (refine at_getM (by rfl) _ (by rfl) g1 (k * 64) (by rfl) y hr8 ?_)
          | (go_at_call 21; refine (hget _).mono ?_; rintro e w9 ⟨rfl, b9⟩)
          | (refine at_new 25 54 arrL (by rfl) (by rfl) ?_; intro g15 w10 a10 z10 r10 b10)
          | (refine at_put 25 54 arrL (by rfl) _ _ (by rfl) g15 (by rfl) p.l (by rfl) hlp _ r10 (by simp) ?_; intro w11 r11 s11
             have q11 : Row w11 g10 p.l := ((q8.later b9).later b10).step s11 (by have := q8.lt; have := b9.size; omega)
             have d11 := ((d8.later b9).later b10).step s11 (by have := d8.lt; have := b9.size; omega)
             have S11 := (S8.next (Stp.of_below (bnext b9 b10 (Nat.le_refl _)) (fun _ => False)) (fun _ h => h.elim)).next s11 (fun z hz => .inl (.inr (by subst hz; have := S8.size; have := b9.size; omega))))
          | (refine at_getL (by rfl) _ (by rfl) g15 (by rfl) p r11 ?_)
          | (refine at_getL (by rfl) _ (by rfl) g10 (by rfl) p q11 ?_))
        go_roundw
        case rel => exact ⟨k + 1, by omega, by go_num, by rw [hd1.out]; exact d11, sk.next S11 (fun z hz => by rcases hz with hz | hz; exact .inl (.inl hz); exact .inr (Nat.le_trans sk.size hz))⟩
        case measure => simp [intOf]; omega
    · obtain rfl : k = 2 := by omega
      go_wp2_with (first
        | (go_at_call 13; refine (sworks_any _).mono ?_; rintro e w22 ⟨rfl, b22⟩))
      go_returns
      exact ⟨rfl, ((SA.next sk (fun z hz => .inl (by rcases hz with hz | hz; omega; exact Nat.le_trans SA.size hz))).next (Stp.of_below b22 (fun _ => False)) (fun _ h => h.elim)).below (Nat.le_refl _) (fun _ h => h)⟩
theorem walk (a : Option Addr) (n c : Nat) (l : List Blk) (w : World) (h : Bls w a n c l) :
    Calls Try.prog 6 #[.slice a n c] w fun e w' => e = .returned (.bool true) ∧ Below w.heap.size w w' := by
  rcases fdE_or (l.take 60) with hE | hE
  · exact walk_yes a n c l w h hE
  · exact walk_no a n c l w h hE

theorem own : ownKnob Try.prog.godebug = none := by kernel_rfl
theorem laidOut : laidOutB Try.prog = true := by kernel_rfl
set_option maxRecDepth 100000 in
theorem lifted (os : Os) (started : os.Started) (H : Type) (enc : TypeId × Value → H) :
    ReturnsInHanded {} Try.checked os 6 .any (Rows.superMendsSpec.pre6 enc Try.prog Try.f6 Rows.superMendsRow.domain false) (Rows.superMendsSpec.post enc Try.prog Try.f6 false true false false) := by
  refine returnsInHanded_of_change (C := Try.checked) own started (by kernel_rfl) Try.func6
    (ChangeSpec.witness6 (enc := enc) (C := Try.checked) false ⟨#[], #[.slice none 0 0], []⟩ 8 (by kernel_rfl) (by kernel_rfl) (by kernel_rfl) (by kernel_rfl)) ?_
  intro W base args ds gs before hval0 hW hcnd _
  have hval : ∀ (j : Nat) t v, Try.f6.params[j]? = some t → args[j]? = some v → Value.okWide Try.prog W .any base t v := hval0
  have hW' := hW
  obtain ⟨p, q, hA0, hV, rfl, hfz, hnd⟩ := hW
  have hA : DataW.TrodAll enc Try.prog W 0 (fun _ => true) true Try.f6.params.toList args.toList ds p := hA0
  rw [Try.params6] at hA hval
  obtain ⟨v0, vs0, d0, ds0, p0, q0, hargs, rfl, rfl, h0, r0⟩ := trodAll_cons hA
  obtain ⟨rfl, rfl, rfl⟩ := trodAll_nil r0
  obtain rfl : args = #[v0] := by cases args; simp_all
  obtain ⟨rfl, rfl⟩ := trodVars_none hV
  obtain ⟨a0, len0, cap0, rfl⟩ := okWide_slice Try.underlying39 (hval 0 39 v0 rfl rfl)
  have k0 := h0
  have lt0 : ∀ x ∈ p0, x.block < W.heap.size := by obtain ⟨m, hm⟩ := k0; exact DataW.trod_lt m _ _ _ hm
  obtain ⟨z0, w0⟩ : ∃ zs, Bls W a0 len0 cap0 zs := by
    obtain ⟨fuel, hf⟩ := h0
    obtain ⟨a, n, c, l, hcs, hi⟩ := bls_of_trod hf
    simp [Value.cells] at hcs
    obtain ⟨rfl, rfl, rfl⟩ := hcs
    exact ⟨_, hi⟩
  clear hA0 hval0
  refine (walk a0 len0 cap0 z0 W w0).mono fun e W' ⟨he, bel⟩ => ?_
  subst he
  exact ⟨_, rfl, _, _, _, [], _, [], hW', trodAll_mk1 (shut_bool Try.underlying4 _), (trodAll_cons_mk (Below.trod laidOut (by kernel_rfl) (of_decide_eq_true (by kernel_rfl)) k0 bel lt0) trodAll_mk0), rfl, bel.frame _, fun h => by cases h⟩
theorem over : Rows.superMendsRow.holds Try.pinned (OpenSpec.ofChange Rows.superMendsSpec) :=
  OpenClaim.holds_of_wide 6 Try.f6 rfl rfl rfl rfl rfl rfl rfl ⟨rfl, rfl, rfl, rfl, rfl⟩ rfl rfl rfl rfl rfl (by kernel_rfl) Try.func6 (by kernel_rfl)
    (of_decide_eq_true (by kernel_rfl)) (by unfold Func.isWrapper; first | (rw [if_pos (by decide +kernel)]; kernel_rfl) | (rw [if_neg (by decide +kernel)]; exact ⟨rfl, rfl⟩))
    (fun os started H enc _ => lifted os started H enc)
end Go.Proofs.Ytjbgcbokffaemaa.superMends
namespace Go.Proofs.Ytjbgcbokffaemaa
/-- The statement. -/
theorem superMends_holds : Rows.SuperMendsSaid := superMends.over
#print axioms superMends_holds
end Go.Proofs.Ytjbgcbokffaemaa
