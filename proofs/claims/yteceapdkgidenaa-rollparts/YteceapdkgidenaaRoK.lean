/-
  What the document's Lay of layer 15 returns: no statement is proved here.
-/
import Derived.Test.YteceapdkgidenaaRoD
namespace Go.Proofs.Yteceapdkgidenaa
open Go.ChangeShapes Go.WideShapes Go.ChangeAt Go.RowKit
set_option linter.unusedVariables false
set_option linter.unusedSimpArgs false

/-- The first k bytes of D, laid from o on. -/
def mdR (l : List UInt8) (o : Nat) (D : List UInt8) (k : Nat) : List UInt8 := splice l o (D.take k)
theorem mdR_len {l D : List UInt8} {o k : Nat} (hk : k ≤ D.length) (h : o + D.length ≤ l.length) : (mdR l o D k).length = l.length := by
  unfold mdR; exact splice_ln (by simp; omega)
theorem mdR_zero (l D : List UInt8) (o : Nat) : mdR l o D 0 = l := by unfold mdR splice; simp
theorem mdR_all (l D : List UInt8) (o : Nat) : mdR l o D D.length = splice l o D := by unfold mdR; rw [List.take_length]
theorem mdR_set {l D : List UInt8} {o k : Nat} (hk : k < D.length) (h : o + D.length ≤ l.length) : (mdR l o D k).set (o + k) (D.getD k 0) = mdR l o D (k + 1) := by
  have e : D.take (k + 1) = D.take k ++ [D.getD k 0] := by rw [List.take_add_one, List.getD_eq_getElem?_getD, List.getElem?_eq_getElem (by omega)]; rfl
  have d : l.drop (o + k) = l.getD (o + k) 0 :: l.drop (o + (k + 1)) := by
    rw [List.drop_eq_getElem_cons (by omega), List.getD_eq_getElem?_getD, List.getElem?_eq_getElem (by omega)]; rfl
  have lk : (D.take k).length = k := by simp; omega
  have lk1 : (D.take k ++ [D.getD k 0]).length = k + 1 := by simp; omega
  unfold mdR splice
  rw [e, lk, lk1, d, List.set_append_right _ _ (by simp; omega), List.length_take, Nat.min_eq_left (by omega), show o + k - o = k by omega, List.set_append_right _ _ (by omega), lk, Nat.sub_self, List.set_cons_zero]
  simp
set_option maxRecDepth 100000 in
set_option maxHeartbeats 400000 in
theorem rrlay_raw {w : World} (b : Blk) (p : Pt) (d n : Sv) (t : Nat) (hp : p.wfp) (hd : BsS w d p.data) (hf : rfit p = true) (hk : p.kind = 0) :
    Calls Try.prog 10 #[.agg b.cs.toArray, .agg (p.cs d n).toArray, .int .u32 (t : Int)] w fun e w' => e = .returned (.tuple #[.agg (lyB b p t).cs.toArray, .int .i64 (lyE p)]) ∧ Below w.heap.size w w' := by
  have hE : lyB b p t = lyR b p ∧ lyE p = 0 := by unfold lyB lyE; rw [if_pos hf, if_pos hk, if_pos hf]; exact ⟨rfl, rfl⟩
  rw [hE.1, hE.2]
  obtain ⟨f1, f2, f3, f4⟩ := rfit_to hf
  unfold room at f4
  rw [if_pos hk] at f4
  have hl := lyR_l (b := b) hf hk
  have hL := (lyR b p).len
  have hb := b.len
  have hdn := hd.len
  obtain ⟨o, ho⟩ : ∃ o : Nat, p.off = (o : Int) := ⟨p.off.toNat, by omega⟩
  have ho2 : o + d.n ≤ 64 := by omega
  have hoi : p.off.toNat = o := by omega
  rw [hoi] at hl
  have hD : (by8 p.data).length = d.n := by rw [by8_len]; exact hdn
  have hd8 := hd.by8
  generalize by8 p.data = D at *
  have hll : Hid ((lyR b p).l = splice b.l o D) := hl
  generalize lyR b p = R at *
  have hkk : Hid (p.kind = 0) := hk
  have hoo : Hid (p.off = (o : Int)) := ho
  have g1 : ¬ (64 : Int) < (d.n : Int) := by omega
  have g2' : ¬ (o : Int) < 0 := by omega
  have g3 : ¬ (64 - (d.n : Int)) < (o : Int) := by omega
  have q64 : IntKind.i64.wrap (64 - (d.n : Int)) = 64 - (d.n : Int) := by rw [IntKind.wrap_i64]; omega
  clear hE f1 f2 f3 f4 hoi hdn hk ho hl hd
  have t1 : True := trivial
  have t2 : True := trivial
  have t3 : True := trivial
  have t4 : True := trivial
  go_enter Try.func10, Try.ntmps10
  go_wp2_with (first
    | (refine at_box 23 64 arrB (by rfl) _ (by rfl) b.l (by rfl) hb ?_; intro gb w1 a1 z1 r1 b1)
    | (refine at_boxP (by rfl) _ (by rfl) p d n (by rfl) ?_; intro g2 w2 a2 z2 r2 b2)
    | (clear t1; refine at_new 23 64 arrB (by rfl) (by rfl) ?_; intro gr w3 a3 z3 r3 b3
       have B3 := bnext (bnext b1 b2 (Nat.le_refl _)) b3 (Nat.le_refl _)
       have x3 := (r1.later b2).later b3
       have p3 := r2.later b3
       obtain ⟨c0, c1, c2, c3, c4, c5, c6, c7, c8⟩ := Pt.cells p3
       rw [hkk.out] at c4; rw [hoo.out] at c2
       clear c0 c1 c5 c6 c7 c8)
    | (clear t2; refine at_get 23 64 arrB (by rfl) _ (by rfl) gb (by rfl) _ x3 hb ?_)
    | (clear t3; refine at_new 23 64 arrB (by rfl) (by rfl) ?_; intro gq w5 a5 z5 r5 b5)
    | (clear t4; refine at_put 23 64 arrB (by rfl) _ _ (by rfl) gq (by rfl) b.l (by rfl) hb _ r5 (by simp) ?_; intro w6 r6 s6))
  have hgr : w.heap.size ≤ gr := by have := b1.size; have := b2.size; omega
  have hgq : w3.heap.size ≤ gq := a5
  have hgw : w.heap.size ≤ gq := by have := B3.size; omega
  have p6 : Cs w6 g2 (p.cs d n) := (p3.later b5).step s6 (by have := p3.lt; omega)
  have rr : Row w6 gr (List.replicate 64 0) := (r3.later b5).step s6 (by have := r3.lt; omega)
  have n2 : gr ≠ gq := by have := r3.lt; omega
  have n3 : g2 ≠ gq := by have := p3.lt; omega
  have S6 : Stp (fun y => w.heap.size ≤ y) w w6 := (Stp.of_below (bnext B3 b5 (Nat.le_refl _)) _).next s6 (fun y hy => .inl (by subst hy; exact hgw))
  have d6 : BsS w6 d (ints D) := hd8.later (S6.below (Nat.le_refl _) (fun _ h => h))
  have m0 : Row w6 gq (mdR b.l o D 0) := by rw [mdR_zero]; exact r6
  have hcl : ∀ bb oo, d.a = some ⟨bb, oo, none⟩ → 0 < d.n → bb ≠ gq := fun bb oo e h0 => by
    obtain ⟨b', o', e', hc⟩ := hd8.cell h0
    rw [e] at e'; injection e' with e'; injection e' with e1 e2; subst e1
    have := World.block_lt_of_cell? w _ (hc 0 h0)
    simp only at this; omega
  clear r1 r2 r3 r5 b1 b2 b3 b5 B3 a1 z1 a2 z2 a3 z3 a5 z5 s6 r6 x3 p3 c2 c3 c4 hd8
  obtain ⟨da, dn, dc⟩ := d
  simp only at *
  go_loopw [10] (fun i wr => ∃ k : Nat, k ≤ dn ∧ i = .int .i64 k ∧ Row wr gq (mdR b.l o D k) ∧ Stp (fun x => x = gq) w6 wr) (fun i _ => dn - (intOf i).toNat)
  case atStart => exact ⟨0, Nat.zero_le _, rfl, m0, Stp.refl _ _⟩
  case round =>
    obtain ⟨k, hk4, rfl, mk, sk⟩ := hrel
    obtain ⟨c0, c1, c2, c3, c4, c5, c6, c7, c8⟩ := Pt.cells (p6.step sk n3)
    rw [hoo.out] at c2
    simp only at c3
    clear c0 c1 c4 c5 c6 c7 c8
    by_cases hlt : k < dn
    · obtain ⟨bb, oo, e, hc⟩ := d6.cell (by simp only; omega)
      simp only at e hc
      have hne := hcl bb oo e (by omega)
      subst e
      have c9 := sk.cell (hc k hlt) hne
      rw [ints_getD] at c9
      have c10 := mk.cell (o + k) (by rw [mdR_len (by omega) (by omega)]; omega)
      have f10 := mk.frozen (o + k)
      have mk' := (mk.later (w' := wr.drew) (by go_grown)).set (o + k) (D.getD k 0)
      rw [mdR_set (by omega) (by omega)] at mk'
      generalize hv : (((D.getD k 0).toNat : Nat) : Int) = v at *
      clear hv hc
      have hwr : IntKind.i64.wrap ((o : Int) + (k : Int)) = (o : Int) + (k : Int) := by rw [IntKind.wrap_i64]; omega
      have hw3 : ((o : Int) + (k : Int)).toNat = o + k := by omega
      have a9 : (k : Int) < (dn : Int) := by omega
      have a8 : (o : Int) + (k : Int) < 64 := by omega
      have a7 : 0 ≤ (o : Int) + (k : Int) := by omega
      go_wp2_with fail
      go_region
      all_goals
        go_wp2_with fail
        go_roundw
        case rel => exact ⟨k + 1, by omega, by go_num, mk', sk.drew.setCell (.inl rfl) _⟩
        case measure => simp [intOf]; omega
    · obtain rfl : k = dn := by omega
      rw [show k = D.length by omega, mdR_all, ← hll.out] at mk
      have qk := rr.step sk n2
      have Sk := S6.next sk (fun x hx => .inl (by subst hx; exact hgw))
      have a9 : ¬ (k : Int) < (k : Int) := by omega
      go_wp2_with (first
        | (refine at_get 23 64 arrB (by rfl) _ (by rfl) gq (by rfl) R.l mk hL ?_)
        | (refine at_put 23 64 arrB (by rfl) _ _ (by rfl) gr (by rfl) R.l (by rfl) hL _ qk (by simp) ?_; intro w9 r9 s9))
      refine bodyPost_ret (retAt arrB Try.results10 rfl rfl r9 hL) rfl ⟨rfl, (Sk.next s9 (fun x hx => .inl (by subst hx; exact hgr))).below (Nat.le_refl _) (fun _ h => h)⟩
end Go.Proofs.Yteceapdkgidenaa
