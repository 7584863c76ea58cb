/-
  What the document's At, put, With and Without of layer 12 return, for every input: no statement is proved here.
-/
import Derived.Test.YtbmfoefapbakmaaDirD
import Derived.Test.YtbmfoefapbakmaaDirF
namespace Go.Proofs.Ytbmfoefapbakmaa
open Go.ChangeShapes Go.WideShapes Go.ChangeAt Go.RowKit
set_option linter.unusedVariables false

/-- The first k bytes of D, laid from o on. -/
def midD (l : List UInt8) (o : Nat) (D : List UInt8) (k : Nat) : List UInt8 := splice l o (D.take k)
theorem midD_len {l D : List UInt8} {o k : Nat} (hk : k ≤ D.length) (h : o + D.length ≤ l.length) : (midD l o D k).length = l.length := by
  unfold midD; exact length_splice _ _ _ (by simp; omega)
theorem midD_zero (l D : List UInt8) (o : Nat) : midD l o D 0 = l := by unfold midD splice; simp
theorem midD_all (l D : List UInt8) (o k : Nat) (h : D.length = k) : midD l o D k = splice l o D := by unfold midD; rw [← h, List.take_length]
theorem midD_set {l D : List UInt8} {o k : Nat} (hk : k < D.length) (h : o + D.length ≤ l.length) : (midD l o D k).set (o + k) (D.getD k 0) = midD l o D (k + 1) := by
  have e : D.take (k + 1) = D.take k ++ [D.getD k 0] := by rw [List.take_add_one, List.getD_eq_getElem?_getD, List.getElem?_eq_getElem (by omega)]; rfl
  have d : l.drop (o + k) = l.getD (o + k) 0 :: l.drop (o + (k + 1)) := by
    rw [List.drop_eq_getElem_cons (by omega), List.getD_eq_getElem?_getD, List.getElem?_eq_getElem (by omega)]; rfl
  have lk : (D.take k).length = k := by simp; omega
  have lk1 : (D.take k ++ [D.getD k 0]).length = k + 1 := by simp; omega
  unfold midD splice
  rw [e, lk, lk1, d, List.set_append_right _ _ (by simp; omega), List.length_take, Nat.min_eq_left (by omega), show o + k - o = k by omega, List.set_append_right _ _ (by omega), lk, Nat.sub_self, List.set_cons_zero]
  simp
set_option maxRecDepth 100000 in
set_option maxHeartbeats 1000000 in
theorem rlay_at (p : Ld) (j : Nat) (D : List UInt8) (B gd cd : Nat) (w : World) (hj : j ≤ 3) (hD : D.length = 13) (hO : Own B w gd cd D) : Calls Try.prog 37 #[.agg p.cs.toArray, .int .i64 (j : Int), .slice (some ⟨gd, 0, none⟩) 13 cd] w fun e w' => e = .returned (.agg (dputs p j D).cs.toArray) ∧ Below w.heap.size w w' := by
  have hp := p.len
  have hq := (dputs p j D).len
  obtain ⟨o, ho⟩ : ∃ o, Hid (13 * j = o) := ⟨_, rfl⟩
  have ho2 : o ≤ 39 := by have := ho.out; omega
  have hd : Hid (midD p.l o D 13 = (dputs p j D).l) := by show _ = _; rw [dputs_l p j D hj hD, ho.out, midD_all _ _ _ _ hD]
  have hw : IntKind.i64.wrap (13 * (j : Int)) = (o : Int) := by have := ho.out; rw [IntKind.wrap_i64]; omega
  generalize dputs p j D = q at *
  have tok : True := trivial
  go_enter Try.func37, Try.ntmps37
  go_wp2_with (first
    | (refine at_box 36 54 arrL (by rfl) _ (by rfl) p.l (by rfl) hp ?_; intro g1 w1 a1 z1 r1 b1)
    | (have _t := tok; refine at_new 36 54 arrL (by rfl) (by rfl) ?_; intro gr w3 a3 z3 r3 b3; have r13 := r1.later b3; clear _t tok)
    | (refine at_getL (by rfl) _ (by rfl) g1 (by rfl) p r13 ?_)
    | (refine at_new 36 54 arrL (by rfl) (by rfl) ?_; intro gq w5 a5 z5 r5 b5)
    | (refine at_put 36 54 arrL (by rfl) _ _ (by rfl) gq (by rfl) p.l (by rfl) hp _ r5 (by simp) ?_; intro w6 r6 s6))
  have B3 := bnext b1 b3 (Nat.le_refl _)
  have u6 : Own B w6 gd cd D := ((hO.later B3).later b5).step s6 (by have := hO.lt; have := B3.size; omega)
  have rr : Row w6 gr (List.replicate 54 0) := (r3.later b5).step s6 (by have := r3.lt; omega)
  have hgr : w.heap.size ≤ gr := by have := b1.size; omega
  have hgw : w.heap.size ≤ gq := by have := B3.size; omega
  have n1 : gd ≠ gq := by have := hO.lt; omega
  have n2 : gr ≠ gq := by have := r3.lt; omega
  have S6 : Stp (fun y => w.heap.size ≤ y) w w6 := (Stp.of_below (bnext B3 b5 (Nat.le_refl _)) _).next s6 (fun y hy => .inl (by subst hy; exact hgw))
  have m0 : Row w6 gq (midD p.l o D 0) := by rw [midD_zero]; exact r6
  clear r1 r3 r5 b1 b3 b5 B3 a1 z1 a3 z3 a5 z5 s6 r6 r13 hO
  go_loopw [8] (fun i wr => ∃ k : Nat, k ≤ 13 ∧ i = .int .i64 k ∧ Row wr gq (midD p.l o D k) ∧ Stp (fun x => x = gq) w6 wr) (fun i _ => 13 - (intOf i).toNat)
  case atStart => exact ⟨0, Nat.zero_le _, rfl, m0, Stp.refl _ _⟩
  case round =>
    obtain ⟨k, hk4, rfl, mk, sk⟩ := hrel
    by_cases hlt : k < 13
    · have c1 : _ = some (Value.int .u8 _) := (u6.step sk n1).cell k (by omega)
      have c2 := mk.cell (o + k) (by rw [midD_len (by omega) (by omega)]; omega)
      have f2 := mk.frozen (o + k)
      have mk' := mk.set (o + k) (D.getD k 0)
      rw [midD_set (by omega) (by omega)] at mk'
      generalize hv : (((D.getD k 0).toNat : Nat) : Int) = v at *
      clear hv
      have hw2 : IntKind.i64.wrap ((o : Int) + (k : Int)) = (o : Int) + (k : Int) := by rw [IntKind.wrap_i64]; omega
      have hw3 : ((o : Int) + (k : Int)).toNat = o + k := by omega
      go_wp2_with fail
      go_roundw
      case rel => exact ⟨k + 1, by omega, by go_num, mk', sk.setCell (.inl rfl) _⟩
      case measure => simp [intOf]; omega
    · obtain rfl : k = 13 := by omega
      rw [hd.out] at mk
      have qk := rr.step sk n2
      have Sk := S6.next sk (fun x hx => .inl (by subst hx; exact hgw))
      go_wp2_with (first
        | (refine at_getL (by rfl) _ (by rfl) gq (by rfl) q mk ?_)
        | (refine at_put 36 54 arrL (by rfl) _ _ (by rfl) gr (by rfl) q.l (by rfl) hq _ qk (by simp) ?_; intro w9 r9 s9))
      refine bodyPost_ret (retA arrL Try.results37 rfl r9 hq) rfl ⟨rfl, (Sk.next s9 (fun x hx => .inl (by subst hx; exact hgr))).below (Nat.le_refl _) (fun _ h => h)⟩
end Go.Proofs.Ytbmfoefapbakmaa
