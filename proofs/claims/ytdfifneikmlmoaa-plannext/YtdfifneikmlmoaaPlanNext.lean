/-
  The statement PlanNext, proved: for all patches, writes and numbers the law returns true; no condition.
-/
import Derived.Test.YtdfifneikmlmoaaRgK
import Derived.Test.YtdfifneikmlmoaaPrB
namespace Go.Proofs.Ytdfifneikmlmoaa.planNext
open Go.ChangeShapes Go.WideShapes Go.ChangeAt Go.RowKit
set_option linter.unusedVariables false
set_option linter.unusedSimpArgs false

set_option maxRecDepth 100000 in
set_option maxHeartbeats 8000000 in
theorem walk (a0 : Option Addr) (n0 c0 : Nat) (L : List Pe) (s1 : Sv) (wl : List Int) (s2 : Sv) (l2 : List Int) (w : World) (H : Ps w (fun x => x < w.heap.size) ⟨a0, n0, c0⟩ L) (h1 : InsS w s1 wl) (h2 : InsS w s2 l2) :
    Calls Try.prog 4 #[.slice a0 n0 c0, .slice s1.a s1.n s1.c, .slice s2.a s2.n s2.c] w fun e w' => e = .returned (.bool true) ∧ Below w.heap.size w w' := by
  have ld : s2.n ≤ maxLen := Nat.le_trans h2.i.le h2.i.cap
  have le1 := h2.i.le
  have em1 : (min (s2.n : Int) 8) = ((min s2.n 8 : Nat) : Int) := by omega
  have hl8 : (l2.take 8).length ≤ 1000 := by rw [List.length_take]; omega
  have hcut := h2.cut 8
  have hl8' : Hid ((l2.take 8).length ≤ 100000) := by show _ ≤ _; omega
  generalize l2.take 8 = is at *
  clear h2
  have hM := made_any H h1
  have t1 : Hid True := trivial
  have t2 : Hid True := trivial
  have t3 : Hid True := trivial
  have t4 : Hid True := trivial
  go_enter Try.func4, Try.ntmps4
  go_wp2_with (first
    | (go_at_call 7; refine hM.mono ?_; rintro e w1 ⟨g, h, rfl, ⟨Z, ⟨E, F, R, B⟩, -⟩, b1⟩
       clear hM H h1)
    | (go_at_call 9; refine (gints_any (hcut.later b1) hl8'.out).mono ?_; rintro e w2 ⟨s3, rfl, i3, -, b2⟩
       have B2 := bnext b1 b2 (Nat.le_refl _)
       have Bx2 := B.later b2
       obtain ⟨mp, mw, f, fw, H2⟩ := Bx2.gh
       have hfew : Z.l.length ≤ 100 := by have := B.few; omega
       have hNx := next_any H2 i3 hl8 hfew B.n6
       generalize hmo : mor is Z.l = mo at *
       generalize hfr : frS (bsS is Z.l) Z.l = fr at *
       have hmo' : Hid (mor is Z.l = mo) := hmo
       have hfr' : Hid (frS (bsS is Z.l) Z.l = fr) := hfr
       clear hmo hfr)
    | (go_at_call 15; refine hNx.mono ?_; rintro e w3 ⟨v3, rfl, o3, n3, b3⟩; clear hNx
       have B3 := bnext B2 b3 (Nat.le_refl _)
       have v3one := o3.one)
    | (clear t1; refine at_newBt (by rfl) (by rfl) ?_; intro g4 w4 a4 a4' r4 b4)
    | (clear t2; refine at_putBt (by rfl) _ _ (by rfl) g4 (by rfl) v3 v3one fr (by rfl) _ r4 rfl ?_; intro w5 r5 s5
       have z3 := b3.size
       have B35 : Below w3.heap.size w3 w5 := ((Stp.of_below b4 (fun _ => False)).next s5 (fun x e => .inr (by omega))).below (Nat.le_refl _) (fun x e => e.elim)
       have B5 := bnext B3 B35 (Nat.le_refl _)
       have o5 := o3.later B35
       have B15 : Below w1.heap.size w1 w5 := bnext (bnext b2 b3 (Nat.le_refl _)) B35 (Nat.le_refl _)
       obtain ⟨ra, rc, rL, R5⟩ := B.rh.later B15
       have hRx := rnext_any R5 (hcut.later B5) hl8
       rw [hmo'.out, hfr'.out] at hRx)
    | (go_at_call 16; refine hRx.mono ?_; rintro e w6 ⟨v6, rfl, o6, n6, b6⟩; clear hRx
       have v6one := o6.one
       have r56 := r5.later b6)
    | (clear t3; refine at_newBr (by rfl) (by rfl) ?_; intro g7 w7 a7 a7' r7 b7)
    | (clear t4; refine at_putBr (by rfl) _ _ (by rfl) g7 (by rfl) v6 v6one fr (by rfl) _ r7 rfl ?_; intro w8 r8 s8))
  have B68 : Below w6.heap.size w6 w8 := ((Stp.of_below b7 (fun _ => False)).next s8 (fun x e => .inr (by omega))).below (Nat.le_refl _) (fun x e => e.elim)
  have B58 := bnext b6 B68 (Nat.le_refl _)
  have B8 := bnext B5 B58 (Nat.le_refl _)
  have B18 := bnext B15 B58 (Nat.le_refl _)
  have hok := B.gh.ok
  have hwS := bsS_wfi hok is
  have hSl : (bsS is Z.l).length ≤ 2000 := by have := bsS_len hok is; omega
  obtain ⟨⟨ta, tn, tc⟩, e3, e3', i38, -⟩ := (o5.later B58).ins hwS n3
  have e3v : v3 = .slice ta tn tc := e3
  subst e3v
  obtain ⟨⟨ua, un, uc⟩, e6, -, i68, -⟩ := (o6.later B68).ins hwS n6
  have e6v : v6 = .slice ua un uc := e6
  subst e6v
  try simp only at e3'
  subst e3'
  have r98 := r5.later B58
  have hrdy : Hid (∀ x ∈ bsS is Z.l, rdy Z.l x ≠ []) := fun x hx e => by
    have := (List.mem_filter.1 hx).2
    rw [e] at this; cases this
  have hgh8 := Gh.later B.gh B18
  have hnl := B.nl
  clear e3 e6 o3 n3 o5 o6 n6 b2 b3 b4 b6 b7 s5 s8 r4 r5 r56 r7 B2 B3 B35 B5 B15 B58 B68 B18 i3 H2 Bx2 B R5 hcut v3one v6one hmo' hfr'
  generalize bsS is Z.l = S at *
  go_loopw [13] (fun u wr => ∃ k : Nat, k ≤ S.length ∧ u = .int .i64 (k : Int) ∧ Below w8.heap.size w8 wr) (fun u _ => S.length - (intOf u).toNat)
  case atStart => exact ⟨0, Nat.zero_le _, rfl, Below.refl _ _⟩
  case round =>
    rename World => wq
    obtain ⟨k, hk, rfl, hb⟩ := hrel
    have r9q := r98.later hb
    have x0 := r9q.cell 0 _ rfl
    by_cases hlt : k < S.length
    · have a9 : (k : Int) < (S.length : Int) := by omega
      have a8 : (k : Int) ≤ 2000 := by omega
      obtain ⟨tb, tto, e, hcs⟩ := (i38.later hb).i.cell (by simpa using (by omega : 0 < S.length))
      have ck := hcs k (by simpa using hlt)
      simp only at e
      subst e
      have hmem : S.getD k 0 ∈ S := by rw [List.getD_eq_getElem?_getD, List.getElem?_eq_getElem hlt]; exact List.getElem_mem _
      have hne := hrdy.out _ hmem
      obtain ⟨mp3, mw3, f3, fw3, H3⟩ := Gh.later hgh8 hb
      have hRd := ready_any H3 (S.getD k 0) (hwS _ hmem) hnl
      clear hcs hmem H3
      generalize S.getD k 0 = y at *
      generalize rdy Z.l y = RD at *
      have hRl : Hid (¬ (RD.length : Int) = 0) := fun e => hne (List.eq_nil_of_length_eq_zero (by omega))
      clear hne
      go_wp2_with (first
        | (go_at_call 17; refine hRd.mono ?_; rintro e w9 ⟨v9, rfl, o9, -, b9⟩; clear hRd
           obtain ⟨va, vn, vc, rfl⟩ := o9.shape
           have hvn : ¬ (vn : Int) = 0 := by
             rcases o9.row with ⟨e1, e2⟩ | ⟨_, _, _, e1, _⟩
             · rw [e2] at hRl; exact absurd rfl hRl.out
             · injection e1 with _ e3 _; rw [e3]; exact hRl.out
           clear o9))
      have B9 := bnext hb b9 (Nat.le_refl _)
      go_roundw
      case rel => exact ⟨k + 1, by omega, by go_num, B9⟩
      case measure => simp [intOf]; omega
    · have a9 : ¬ (k : Int) < (S.length : Int) := by omega
      have x1 := r9q.cell 1 _ rfl
      have r8q := r8.later hb
      have y0 := r8q.cell 0 _ rfl
      have y1 := r8q.cell 1 _ rfl
      have hSm := same_any (a := ⟨ta, S.length, tc⟩) (b := ⟨ua, un, uc⟩) (i38.later hb) (i68.later hb) (by omega)
      go_wp2_with (first
        | (go_at_call 18; refine hSm.mono ?_; rintro e w9 ⟨rfl, b9⟩; clear hSm
           have x9 := (Stp.of_below b9 (fun _ => False)).cell x1 id
           have y9 := (Stp.of_below b9 (fun _ => False)).cell y1 id)
        | (go_at_call 6; refine (works16_any _).mono ?_; rintro e w10 ⟨rfl, b10⟩))
      go_returns
      exact ⟨by simp, bnext (bnext (bnext B8 hb (Nat.le_refl _)) b9 (Nat.le_refl _)) b10 (Nat.le_refl _)⟩

theorem own : ownKnob Try.prog.godebug = none := by kernel_rfl
theorem laidOut : laidOutB Try.prog = true := by kernel_rfl
set_option maxRecDepth 100000 in
theorem lifted (os : Os) (started : os.Started) (H : Type) (enc : TypeId × Value → H) :
    ReturnsInHanded {} Try.checked os 4 .any (Rows.planNextSpec.pre6 enc Try.prog Try.f4 Rows.planNextRow.domain false) (Rows.planNextSpec.post enc Try.prog Try.f4 false true false false) := by
  refine returnsInHanded_of_change (C := Try.checked) own started (by kernel_rfl) Try.func4
    (ChangeSpec.witness6 (enc := enc) (C := Try.checked) false ⟨#[], #[.slice none 0 0, .slice none 0 0, .slice none 0 0], []⟩ 8 (by kernel_rfl) (by kernel_rfl) (by kernel_rfl) (by kernel_rfl)) ?_
  intro W base args ds gs before hval0 hW hcnd _
  have hval : ∀ (j : Nat) t v, Try.f4.params[j]? = some t → args[j]? = some v → Value.okWide Try.prog W .any base t v := hval0
  have hW' := hW
  obtain ⟨p, q, hA0, hV, rfl, hfz, hnd⟩ := hW
  have hA : DataW.TrodAll enc Try.prog W 0 (fun _ => true) true Try.f4.params.toList args.toList ds p := hA0
  rw [Try.params4] at hA hval
  obtain ⟨v0, vs0, d0, ds0, p0, q0, hargs, rfl, rfl, h0, r0⟩ := trodAll_cons hA
  obtain ⟨v1, vs1, d1, ds1, p1, q1, rfl, rfl, rfl, h1, r1⟩ := trodAll_cons r0
  obtain ⟨v2, vs2, d2, ds2, p2, q2, rfl, rfl, rfl, h2, r2⟩ := trodAll_cons r1
  obtain ⟨rfl, rfl, rfl⟩ := trodAll_nil r2
  obtain rfl : args = #[v0, v1, v2] := by cases args; simp_all
  obtain ⟨rfl, rfl⟩ := trodVars_none hV
  obtain ⟨a0, len0, cap0, rfl⟩ := okWide_slice Try.underlying22 (hval 0 22 v0 rfl rfl)
  have k0 := h0
  have lt0 : ∀ x ∈ p0, x.block < W.heap.size := by obtain ⟨m, hm⟩ := k0; exact DataW.trod_lt m _ _ _ hm
  obtain ⟨z0, w0⟩ : ∃ zs, Ps W (fun x => x < W.heap.size) ⟨a0, len0, cap0⟩ zs := by
    obtain ⟨fuel, hf⟩ := h0
    obtain ⟨a, n, c, l, hcs, hi⟩ := pts_of_trod hf
    simp [Value.cells] at hcs
    obtain ⟨rfl, rfl, rfl⟩ := hcs
    exact ⟨_, hi⟩
  obtain ⟨a1, len1, cap1, rfl⟩ := okWide_slice Try.underlying23 (hval 1 23 v1 rfl rfl)
  have k1 := h1
  have lt1 : ∀ x ∈ p1, x.block < W.heap.size := by obtain ⟨m, hm⟩ := k1; exact DataW.trod_lt m _ _ _ hm
  obtain ⟨z1, w1⟩ : ∃ zs : List Int, InsS W ⟨a1, len1, cap1⟩ zs := by
    obtain ⟨fuel, hf⟩ := h1
    obtain ⟨s, l, hcs, hi⟩ := insS_of_trod hf
    simp [Value.cells] at hcs
    obtain ⟨rfl, rfl, rfl⟩ := hcs
    exact ⟨l, hi⟩
  obtain ⟨a2, len2, cap2, rfl⟩ := okWide_slice Try.underlying23 (hval 2 23 v2 rfl rfl)
  have k2 := h2
  have lt2 : ∀ x ∈ p2, x.block < W.heap.size := by obtain ⟨m, hm⟩ := k2; exact DataW.trod_lt m _ _ _ hm
  obtain ⟨z2, w2⟩ : ∃ zs : List Int, InsS W ⟨a2, len2, cap2⟩ zs := by
    obtain ⟨fuel, hf⟩ := h2
    obtain ⟨s, l, hcs, hi⟩ := insS_of_trod hf
    simp [Value.cells] at hcs
    obtain ⟨rfl, rfl, rfl⟩ := hcs
    exact ⟨l, hi⟩
  clear hA0 hval0
  refine (walk a0 len0 cap0 z0 ⟨a1, len1, cap1⟩ z1 ⟨a2, len2, cap2⟩ z2 W w0 w1 w2).mono fun e W' ⟨he, bel⟩ => ?_
  subst he
  exact ⟨_, rfl, _, _, _, [], _, [], hW', trodAll_mk1 (shut_bool Try.underlying4 _), (trodAll_cons_mk (Below.trod laidOut (by kernel_rfl) (of_decide_eq_true (by kernel_rfl)) k0 bel lt0) (trodAll_cons_mk (Below.trod laidOut (by kernel_rfl) (of_decide_eq_true (by kernel_rfl)) k1 bel lt1) (trodAll_cons_mk (Below.trod laidOut (by kernel_rfl) (of_decide_eq_true (by kernel_rfl)) k2 bel lt2) trodAll_mk0))), rfl, bel.frame _, fun h => by cases h⟩
theorem over : Rows.planNextRow.holds Try.pinned (OpenSpec.ofChange Rows.planNextSpec) :=
  OpenClaim.holds_of_wide 4 Try.f4 rfl rfl rfl rfl rfl rfl rfl ⟨rfl, rfl, rfl, rfl, rfl⟩ rfl rfl rfl rfl rfl (by kernel_rfl) Try.func4 (by kernel_rfl)
    (of_decide_eq_true (by kernel_rfl)) (by unfold Func.isWrapper; first | (rw [if_pos (by decide +kernel)]; kernel_rfl) | (rw [if_neg (by decide +kernel)]; exact ⟨rfl, rfl⟩))
    (fun os started H enc _ => lifted os started H enc)
end Go.Proofs.Ytdfifneikmlmoaa.planNext
namespace Go.Proofs.Ytdfifneikmlmoaa
/-- The statement. -/
theorem planNext_holds : Rows.PlanNextSaid := planNext.over
#print axioms planNext_holds
end Go.Proofs.Ytdfifneikmlmoaa
