/-
  The statement PtrsLoads, proved: for every load, place and pointer the law returns true; no condition.
-/
import Derived.Test.YtaahljjmofjdmaaPtrH
import Derived.Test.YtaahljjmofjdmaaPtrW
import Derived.Test.YtaahljjmofjdmaaLdIn
import Derived.Lib.SmallJoins
import Derived.Deep.RegionHeld3
namespace Go.Proofs.Ytaahljjmofjdmaa.ptrsLoads
open Go.ChangeShapes Go.WideShapes Go.ChangeAt Go.RowKit
set_option linter.unusedVariables false

theorem all_at (p : Ld) (i : Nat) (h : i < 27) : (allP p 27).getD i 0 = pt p.l (2 * i) := by
  have := uptoP_at (fun j => pt p.l (2 * j)) 27 i h
  rw [List.getD_eq_getElem?_getD, show (allP p 27)[i]? = _ from this]; rfl
set_option maxRecDepth 100000 in
set_option maxHeartbeats 8000000 in
theorem walk (p : Ld) (k : Int) (x : Int) (w : World) (hk : (Lit.int .i64 k).wf = true) (hx : (Lit.int .u16 x).wf = true) :
    Calls Try.prog 3 #[.agg p.cs.toArray, .int .i64 k, .int .u16 x] w fun e w' => e = .returned (.bool true) ∧ Below w.heap.size w w' := by
  obtain ⟨to, rfl⟩ : ∃ to : UInt16, x = (to.toNat : Int) := by
    obtain ⟨h0, h1⟩ := bounds_u16 hx
    exact ⟨UInt16.ofNat x.toNat, by rw [of16 (by omega)]; omega⟩
  have hA := fun w => pat_any p k w
  have hB := fun w => rpat_any p k w
  have hC := fun w => pwith_any p k to w
  have hD := fun w => rpwith_any p k to w
  have hp := p.len
  have hq := (pW p k to).len
  have he2 := eqL (pW p k to) (pW p k to)
  rw [decide_eq_true rfl] at he2
  have hg2 := guardL
  have hlen : (allP p 27).length = 27 := uptoP_len _ _
  clear hk hx
  generalize pG p k = X at *
  generalize plE k = SE at *
  generalize pW p k to = Q at *
  have t1 : True := trivial
  have t2 : True := trivial
  have t3 : True := trivial
  go_enter Try.func3, Try.ntmps3
  go_wp2_with (first
    | (refine at_box 23 54 arrL (by rfl) _ (by rfl) p.l (by rfl) hp ?_; intro g1 w1 a1 z1 r1 b1)
    | (have _t := t1; refine at_getL (by rfl) _ (by rfl) g1 (by rfl) p r1 ?_; clear _t)
    | (go_at_call 7; refine (hA _).mono ?_; rintro e w2 ⟨rfl, b2⟩; have r2 := r1.later b2; clear t1)
    | (have _t := t2; refine at_getL (by rfl) _ (by rfl) g1 (by rfl) p r2 ?_; clear _t)
    | (go_at_call 8; refine (hB _).mono ?_; rintro e w3 ⟨rfl, b3⟩; have r3 := r2.later b3; clear t2)
    | (have _t := t3; refine at_getL (by rfl) _ (by rfl) g1 (by rfl) p r3 ?_; clear _t)
    | (go_at_call 9; refine (hC _).mono ?_; rintro e w4 ⟨rfl, b4⟩)
    | (have _t := t3; refine at_new 23 54 arrL (by rfl) (by rfl) ?_; intro gc w5 a5 z5 r5 b5; clear _t)
    | (have _t := t3; refine at_put 23 54 arrL (by rfl) _ _ (by rfl) gc (by rfl) Q.l (by rfl) hq _ r5 (by simp) ?_; intro w6 c6 s6
       have p6 : Row w6 g1 p.l := ((r3.later b4).later b5).step s6 (by have := (r3.later b4).lt; omega)
       have S6 : Stp (fun y => w.heap.size ≤ y) w w6 := (Stp.of_below (bnext (bnext (bnext (bnext b1 b2 (Nat.le_refl _)) b3 (Nat.le_refl _)) b4 (Nat.le_refl _)) b5 (Nat.le_refl _)) _).next s6 (fun y hy => .inl (by subst hy; have := b1.size; have := b2.size; have := b3.size; have := b4.size; omega))
       clear _t t3 r1 r2 r3 b1 b2 b3 b4 b5 a5 z5 r5 s6)
    | (refine at_getL (by rfl) _ (by rfl) g1 (by rfl) p p6 ?_)
    | (go_at_call 10; refine (hD _).mono ?_; rintro e w7 ⟨rfl, b7⟩)
    | (refine at_new 23 54 arrL (by rfl) (by rfl) ?_; intro gd w8 a8 z8 r8 b8)
    | (refine at_put 23 54 arrL (by rfl) _ _ (by rfl) gd (by rfl) Q.l (by rfl) hq _ r8 (by simp) ?_; intro W d9 s9
       have p9 : Row W g1 p.l := ((p6.later b7).later b8).step s9 (by have := (p6.later b7).lt; omega)
       have c9 : Row W gc Q.l := ((c6.later b7).later b8).step s9 (by have := (c6.later b7).lt; omega)
       have S9 : Stp (fun y => w.heap.size ≤ y) w W := (S6.next (Stp.of_below (bnext b7 b8 (Nat.le_refl _)) (fun _ => False)) (fun _ h => h.elim)).next s9 (fun y hy => .inl (by subst hy; have := S6.size; have := b7.size; omega))
       clear p6 c6 S6 b7 b8 a8 z8 r8 s9))
  have BW := S9.below (Nat.le_refl _) (fun _ h => h)
  clear hA hB hC hD S9 a1 z1
  refine wp_region_held_drew (S := fun u => Below W.heap.size W u) (by kernel_rfl) (Below.refl _ _).drew (fun hHeld => ?_)
  refine wpAnyH_take (i := 0) (oi := { dst := some 45, op := Op.load 23 (Operand.tmp 3), type := 23, pos := _, after := #[], guard := none }) (v := .agg p.cs.toArray) rfl (by kernel_rfl) (by kernel_rfl) (by kernel_rfl) (fun _ _ _ h => h)
    (yields_row 23 54 arrL (by rfl) (.tmp 3) rfl g1 (by rfl) p.l hp (fun u hu => p9.later hu)) hHeld ?_
  try simp only [Act.put, List.setIfInBounds_toArray, List.set_cons_zero, List.set_cons_succ]
  refine wpAnyH_take (i := 2) (oi := { dst := some 47, op := Op.load 23 (Operand.tmp 3), type := 23, pos := _, after := #[], guard := none }) (v := .agg p.cs.toArray) rfl (by kernel_rfl) (by kernel_rfl) (by kernel_rfl) (fun _ _ _ h => h)
    (yields_row 23 54 arrL (by rfl) (.tmp 3) rfl g1 (by rfl) p.l hp (fun u hu => p9.later hu)) hHeld ?_
  try simp only [Act.put, List.setIfInBounds_toArray, List.set_cons_zero, List.set_cons_succ]
  refine wpAnyH_ready (rs := [1]) (by kernel_rfl) (by simp) ?_
  refine (AllReadyH.cons (o := { dst := some 46, op := Op.call { callee := Callee.value (Operand.func 11), args := #[Operand.tmp 45], argTypes := #[23] }, type := 30, pos := _, after := #[{ on := 0, ground := Ground.data }], guard := none }) rfl (fun K hK => ?_) AllReadyH.nil)
  go_simp
  refine (all_any p _).mono ?_
  rintro e v1 ⟨ga, rfl, qa, ba⟩
  try go_wp2_with fail
  refine hK.out _ _ (bnext hHeld ba (Nat.le_refl _)) (fun hHeld => ?_)
  clear hK K
  try simp only [Act.put, List.setIfInBounds_toArray, List.set_cons_zero, List.set_cons_succ]
  refine wpAnyH_ready (rs := [3]) (by kernel_rfl) (by simp) ?_
  refine (AllReadyH.cons (o := { dst := some 48, op := Op.call { callee := Callee.value (Operand.func 12), args := #[Operand.tmp 47], argTypes := #[23] }, type := 30, pos := _, after := #[{ on := 2, ground := Ground.data }, { on := 1, ground := Ground.chain }], guard := none }) rfl (fun K hK => ?_) AllReadyH.nil)
  go_simp
  refine (rall_any p _).mono ?_
  rintro e V ⟨gb, cb, rfl, qb, bb⟩
  have qa := qa.later bb
  try go_wp2_with fail
  refine hK.out _ _ (bnext hHeld bb (Nat.le_refl _)) (fun hHeld => ?_)
  clear hK K
  try simp only [Act.put, List.setIfInBounds_toArray, List.set_cons_zero, List.set_cons_succ]
  refine wpAnyH_take (i := 4) (oi := { dst := some 15, op := Op.assign (Operand.tmp 46), type := 30, pos := _, after := #[{ on := 1, ground := Ground.data }, { on := 3, ground := Ground.chain }, { on := 0, ground := Ground.phase }, { on := 1, ground := Ground.phase }, { on := 2, ground := Ground.textOnly Departure.lateStores }, { on := 3, ground := Ground.textOnly Departure.lateStoresUnsure }], guard := none }) (v := .slice (some ⟨ga, 0, none⟩) 27 27) rfl (by kernel_rfl) (by kernel_rfl) (by kernel_rfl) (fun _ _ _ h => h) (Or.inl ⟨by rfl, ?_⟩) hHeld ?_
  · intro u hu
    go_simp
  try simp only [Act.put, List.setIfInBounds_toArray, List.set_cons_zero, List.set_cons_succ]
  refine wpAnyH_take (i := 5) (oi := { dst := some 16, op := Op.assign (Operand.tmp 48), type := 30, pos := _, after := #[{ on := 3, ground := Ground.data }, { on := 4, ground := Ground.chain }, { on := 0, ground := Ground.phase }, { on := 1, ground := Ground.phase }, { on := 2, ground := Ground.phase }, { on := 3, ground := Ground.phase }, { on := 4, ground := Ground.phase }], guard := none }) (v := .slice (some ⟨gb, 0, none⟩) 27 cb) rfl (by kernel_rfl) (by kernel_rfl) (by kernel_rfl) (fun _ _ _ h => h) (Or.inl ⟨by rfl, ?_⟩) hHeld ?_
  · intro u hu
    go_simp
  try simp only [Act.put, List.setIfInBounds_toArray, List.set_cons_zero, List.set_cons_succ]
  refine wpAnyH_done (by kernel_rfl) ?_ _
  have pV := p9.later hHeld
  have cV := c9.later hHeld
  have dV := d9.later hHeld
  have BV := bnext BW hHeld (Nat.le_refl _)
  rename_i qa0 hH0 _
  clear qa0 ba bb hHeld p9 c9 d9 BW
  go_wp2_with (first
    | (refine at_getL (by rfl) _ (by rfl) gc (by rfl) Q cV ?_; clear cV)
    | (refine at_getL (by rfl) _ (by rfl) gd (by rfl) Q dV ?_))
  go_loopw [17, 18] (fun uv iv wr => ∃ i : Nat, i ≤ 27 ∧ iv = .int .i64 i ∧ uv = .int .i64 ((usedP (allP p i) : Nat) : Int) ∧ Below V.heap.size V wr) (fun _ iv _ => 27 - (intOf iv).toNat)
  case atStart => exact ⟨0, by omega, rfl, rfl, Below.refl _ _⟩
  case round =>
    obtain ⟨i, hi, rfl, rfl, hbr⟩ := hrel
    by_cases hlt : i < 27
    · have hlt' : (i : Int) < 27 := by omega
      have ca := (qa.later hbr).cell i (by omega)
      have cb' := (qb.later hbr).cell i (by omega)
      rw [all_at p i hlt] at ca cb'
      have hle : usedP (allP p i) ≤ 27 := by have := usedP_le (allP p i); have := uptoP_len (fun j => pt p.l (2 * j)) i; unfold allP at *; omega
      have hs := usedP_snoc (allP p i) (pt p.l (2 * i))
      rw [show allP p i ++ [pt p.l (2 * i)] = allP p (i + 1) from (uptoP_succ _ i).symm] at hs
      generalize pt p.l (2 * i) = y at *
      obtain ⟨u, hu⟩ : ∃ u, Hid (usedP (allP p i) = u) := ⟨_, rfl⟩
      obtain ⟨u', hu'⟩ : ∃ u, Hid (usedP (allP p (i + 1)) = u) := ⟨_, rfl⟩
      rw [hu.out, hu'.out] at hs
      rw [hu.out] at hle ⊢
      have e1 : IntKind.i64.wrap ((u : Int) + 1) = (u : Int) + 1 := i64_small (by omega) (by omega)
      have hb : Hid (Below V.heap.size V wr.drew) := hbr.drew
      by_cases h0 : y.toNat = 0
      · rw [if_pos h0] at hs
        have h0' : ((y.toNat : Int) != 0) = false := by rw [bne_eq_false_iff_eq]; omega
        have hs' : Hid (u' = u) := hs
        clear hs h0
        go_wp2_with fail
        go_region_held3 (fun v => v.cell? ⟨ga, i, none⟩ = some (.int .u16 (y.toNat : Int)) ∧ v.cell? ⟨gb, i, none⟩ = some (.int .u16 (y.toNat : Int)) ∧ Below V.heap.size V v) (first | assumption | exact ⟨ca, cb', hb.out⟩) (fail)
        go_wp2
        go_roundw
        case rel => exact ⟨i + 1, by omega, by go_num, by rw [hu'.out, hs'.out], hb.out⟩
        case measure => simp [intOf]; omega
      · rw [if_neg h0] at hs
        have h0' : ((y.toNat : Int) != 0) = true := by rw [bne_iff_ne]; omega
        have hs' : Hid (u' = u + 1) := hs
        clear hs h0
        go_wp2_with fail
        go_region_held3 (fun v => v.cell? ⟨ga, i, none⟩ = some (.int .u16 (y.toNat : Int)) ∧ v.cell? ⟨gb, i, none⟩ = some (.int .u16 (y.toNat : Int)) ∧ Below V.heap.size V v) (first | assumption | exact ⟨ca, cb', hb.out⟩) (fail)
        go_wp2
        go_roundw
        case rel => exact ⟨i + 1, by omega, by go_num, by rw [hu'.out, hs'.out, Int.natCast_add]; rfl, hb.out⟩
        case measure => simp [intOf]; omega
    · obtain rfl : i = 27 := by omega
      have pr := pV.later hbr
      go_wp2_with (first
        | (refine at_getL (by rfl) _ (by rfl) g1 (by rfl) p pr ?_)
        | (go_at_call 13; refine (used_any p _).mono ?_; rintro e x1 ⟨rfl, c1⟩)
        | (go_at_call 14; refine (works11_any _).mono ?_; rintro e x2 ⟨rfl, c2⟩))
      go_returns
      exact ⟨rfl, bnext (bnext (bnext BV hbr (Nat.le_refl _)) c1 (Nat.le_refl _)) c2 (Nat.le_refl _)⟩
theorem own : ownKnob Try.prog.godebug = none := by kernel_rfl
theorem laidOut : laidOutB Try.prog = true := by kernel_rfl
set_option maxRecDepth 100000 in
theorem lifted (os : Os) (started : os.Started) (H : Type) (enc : TypeId × Value → H) :
    ReturnsInHanded {} Try.checked os 3 .any (Rows.ptrsLoadsSpec.pre6 enc Try.prog Try.f3 Rows.ptrsLoadsRow.domain false) (Rows.ptrsLoadsSpec.post enc Try.prog Try.f3 false true false false) := by
  refine returnsInHanded_of_change (C := Try.checked) own started (by kernel_rfl) Try.func3
    (ChangeSpec.witness6 (enc := enc) (C := Try.checked) false ⟨#[], #[.agg Ld.zero.cs.toArray, .int .i64 0, .int .u16 0], []⟩ 8 (by kernel_rfl) (by kernel_rfl) (by kernel_rfl) (by kernel_rfl)) ?_
  intro W base args ds gs before hval0 hW hcnd _
  have hval : ∀ (j : Nat) t v, Try.f3.params[j]? = some t → args[j]? = some v → Value.okWide Try.prog W .any base t v := hval0
  have hW' := hW
  obtain ⟨p, q, hA0, hV, rfl, hfz, hnd⟩ := hW
  have hA : DataW.TrodAll enc Try.prog W 0 (fun _ => true) true Try.f3.params.toList args.toList ds p := hA0
  rw [Try.params3] at hA hval
  obtain ⟨v0, vs0, d0, ds0, p0, q0, hargs, rfl, rfl, h0, r0⟩ := trodAll_cons hA
  obtain ⟨v1, vs1, d1, ds1, p1, q1, rfl, rfl, rfl, h1, r1⟩ := trodAll_cons r0
  obtain ⟨v2, vs2, d2, ds2, p2, q2, rfl, rfl, rfl, h2, r2⟩ := trodAll_cons r1
  obtain ⟨rfl, rfl, rfl⟩ := trodAll_nil r2
  obtain rfl : args = #[v0, v1, v2] := by cases args; simp_all
  obtain ⟨rfl, rfl⟩ := trodVars_none hV
  obtain ⟨cs0, rfl, _⟩ := okWide_row arrL.und (hval 0 23 v0 rfl rfl)
  have k0 := h0
  have lt0 : ∀ x ∈ p0, x.block < W.heap.size := by obtain ⟨m, hm⟩ := k0; exact DataW.trod_lt m _ _ _ hm
  obtain ⟨b0, e0⟩ : ∃ b : Ld, cs0 = b.cs.toArray := by
    obtain ⟨fuel, hf⟩ := h0
    obtain ⟨b, hb⟩ := ldOfTrod hf
    exact ⟨b, by rw [hb]; simp [Value.cells]⟩
  subst e0
  obtain ⟨a1, rfl, rfl, rfl, w1⟩ := open_int Try.underlying3 (hval 1 3 v1 rfl rfl) h1
  obtain ⟨a2, rfl, rfl, rfl, w2⟩ := open_int Try.underlying24 (hval 2 24 v2 rfl rfl) h2
  clear hA0 hval0
  refine (walk b0 a1 a2 W w1 w2).mono fun e W' ⟨he, bel⟩ => ?_
  subst he
  exact ⟨_, rfl, _, _, _, [], _, [], hW', trodAll_mk1 (shut_bool Try.underlying4 _), (trodAll_cons_mk (Below.trod laidOut (by kernel_rfl) (of_decide_eq_true (by kernel_rfl)) k0 bel lt0) (trodAll_cons_mk (shut_int Try.underlying3 w1) (trodAll_cons_mk (shut_int Try.underlying24 w2) trodAll_mk0))), rfl, bel.frame _, fun h => by cases h⟩
theorem over : Rows.ptrsLoadsRow.holds Try.pinned (OpenSpec.ofChange Rows.ptrsLoadsSpec) :=
  OpenClaim.holds_of_wide 3 Try.f3 rfl rfl rfl rfl rfl rfl rfl ⟨rfl, rfl, rfl, rfl, rfl⟩ rfl rfl rfl rfl rfl (by kernel_rfl) Try.func3 (by kernel_rfl)
    (of_decide_eq_true (by kernel_rfl)) (by unfold Func.isWrapper; first | (rw [if_pos (by decide +kernel)]; kernel_rfl) | (rw [if_neg (by decide +kernel)]; exact ⟨rfl, rfl⟩))
    (fun os started H enc _ => lifted os started H enc)
end Go.Proofs.Ytaahljjmofjdmaa.ptrsLoads
namespace Go.Proofs.Ytaahljjmofjdmaa
/-- The statement. -/
theorem ptrsLoads_holds : Rows.PtrsLoadsSaid := ptrsLoads.over
#print axioms ptrsLoads_holds
end Go.Proofs.Ytaahljjmofjdmaa
