/-
  The statement SuperPuts, proved: for every shape and load the law returns true, and what came in reads as it did; no condition.
-/
import Derived.Test.YtjbgcbokffaemaaSupP
import Derived.Lib.SmallJoins
namespace Go.Proofs.Ytjbgcbokffaemaa.superPuts
open Go.ChangeShapes Go.WideShapes Go.ChangeAt Go.RowKit
set_option linter.unusedVariables false

theorem put_ways (s : Gm) : (s.err = 2 ∧ fB s = Blk.zero) ∨ (s.err = 0 ∧ pB 1 1 (spP s) = fB s) := by
  by_cases h : s.ok
  · exact .inr ⟨if_pos h, pB_fB h⟩
  · exact .inl ⟨if_neg h, if_neg h⟩
set_option maxRecDepth 100000 in
set_option maxHeartbeats 8000000 in
theorem walk (s : Gm) (p : Ld) (w : World) :
    Calls Try.prog 3 #[.agg #[.int .i64 s.g, .int .i64 s.i, .int .i64 s.d], .agg p.cs.toArray] w fun e w' => e = .returned (.bool true) ∧ Below w.heap.size w w' := by
  have hp := p.len
  have h1 := sput_any s
  have h2 := rsput_any s
  have h3 := sget_any p
  have h4 := rsget_any p
  have h5 := format_any s
  have h6 := fun w => rput_any 1 1 (spP s) w (by omega)
  rw [show pE 1 = 0 from rfl] at h6
  have hway := put_ways s
  have hA := (spP s).len
  have hY := (pB 1 1 (spP s)).len
  have hX := (fB s).len
  generalize spP s = A at *
  generalize s.err = e0 at *
  generalize pB 1 1 A = Y at *
  generalize fB s = X at *
  generalize sgG p = t at *
  generalize sgE p = f0 at *
  have qL : ∀ w, (Op.equalIn 10000 25 (.agg A.cs.toArray) (.agg A.cs.toArray)).run Try.prog w = .ok true w := fun w => by rw [eqL]; simp
  have qB : ∀ (Z : Blk) w, (Op.equalIn 10000 32 (.agg Z.cs.toArray) (.agg Z.cs.toArray)).run Try.prog w = .ok true w := fun Z w => by rw [eqB]; simp
  have gL := guardL
  have gB := guardB
  rcases hway with ⟨rfl, rfl⟩ | ⟨rfl, rfl⟩
  all_goals
    have t1 : True := trivial
    have t2 : True := trivial
    have t3 : True := trivial
    have t4 : True := trivial
    go_enter Try.func3, Try.ntmps3
    go_wp2_with (first
      | (refine at_boxG (by rfl) _ (by rfl) s (by rfl) ?_; intro ga w1 a1 z1 r1 b1)
      | (refine at_box 25 54 arrL (by rfl) _ (by rfl) p.l (by rfl) hp ?_; intro gb w2 a2 z2 r2 b2
         have ra : GR w2 ga s := r1.later b2
         have B2 := bnext b1 b2 (Nat.le_refl _)
         clear a1 z1 r1 b1 a2 z2 b2)
      | (go_at_call 7; refine (h1 _).mono ?_; rintro e w3 ⟨rfl, b3⟩)
      | (have _t := t1; refine at_getG (by rfl) _ (by rfl) ga (by rfl) s ra ?_; clear _t)
      | (have _t := t1; refine at_new 25 54 arrL (by rfl) (by rfl) ?_; intro gc w4 a4 z4 r4 b4; clear _t)
      | (have _t := t1; refine at_put 25 54 arrL (by rfl) _ _ (by rfl) gc (by rfl) A.l (by rfl) hA _ r4 (by simp) ?_; intro w5 rc s5; clear _t t1
         have ra5 : GR w5 ga s := ((ra.later b3).later b4).step s5 (by have := ra.lt; have := b3.size; omega)
         have rb5 : Row w5 gb p.l := ((r2.later b3).later b4).step s5 (by have := r2.lt; have := b3.size; omega)
         have S5 : Stp (fun x => w.heap.size ≤ x) w w5 := (Stp.of_below (bnext (bnext B2 b3 (Nat.le_refl _)) b4 (Nat.le_refl _)) _).next s5 (fun x hx => .inl (by subst hx; have := B2.size; have := b3.size; omega))
         clear ra r2 B2 b3 a4 z4 r4 b4 s5)
      | (have _t := t2; refine at_getG (by rfl) _ (by rfl) ga (by rfl) s ra5 ?_; clear _t)
      | (go_at_call 8; refine (h2 _).mono ?_; rintro e w6 ⟨rfl, b6⟩)
      | (refine at_new 25 54 arrL (by rfl) (by rfl) ?_; intro gd w7 a7 z7 r7 b7)
      | (refine at_put 25 54 arrL (by rfl) _ _ (by rfl) gd (by rfl) A.l (by rfl) hA _ r7 (by simp) ?_; intro w8 rd s8; clear t2
         have ra8 : GR w8 ga s := ((ra5.later b6).later b7).step s8 (by have := ra5.lt; have := b6.size; omega)
         have rb8 : Row w8 gb p.l := ((rb5.later b6).later b7).step s8 (by have := rb5.lt; have := b6.size; omega)
         have rc8 : Row w8 gc A.l := ((rc.later b6).later b7).step s8 (by have := rc.lt; have := b6.size; omega)
         have S8 := (S5.next (Stp.of_below (bnext b6 b7 (Nat.le_refl _)) (fun _ => False)) (fun _ h => h.elim)).next s8 (fun x hx => .inl (by subst hx; have := S5.size; have := b6.size; omega))
         clear ra5 rb5 rc S5 b6 a7 z7 r7 b7 s8)
      | (have _t := t3; refine at_getL (by rfl) _ (by rfl) gb (by rfl) p rb8 ?_; clear _t)
      | (go_at_call 9; refine (h3 _).mono ?_; rintro e w9 ⟨rfl, b9⟩)
      | (have _t := t3; refine at_newG (by rfl) (by rfl) ?_; intro ge w10 a10 z10 r10 b10; clear _t)
      | (have _t := t3; refine at_putG (by rfl) _ _ (by rfl) ge (by rfl) t (by rfl) _ r10 ?_; intro w11 re s11; clear _t t3
         have B10 := bnext b9 b10 (Nat.le_refl _)
         have ra11 : GR w11 ga s := (ra8.later B10).step s11 (by have := ra8.lt; have := b9.size; omega)
         have rb11 : Row w11 gb p.l := (rb8.later B10).step s11 (by have := rb8.lt; have := b9.size; omega)
         have rc11 : Row w11 gc A.l := (rc8.later B10).step s11 (by have := rc8.lt; have := b9.size; omega)
         have rd11 : Row w11 gd A.l := (rd.later B10).step s11 (by have := rd.lt; have := b9.size; omega)
         have S11 := (S8.next (Stp.of_below B10 (fun _ => False)) (fun _ h => h.elim)).next s11 (fun x hx => .inl (by subst hx; have := S8.size; have := b9.size; omega))
         clear ra8 rb8 rc8 rd S8 b9 a10 z10 r10 b10 s11 B10)
      | (have _t := t4; refine at_getL (by rfl) _ (by rfl) gb (by rfl) p rb11 ?_; clear _t)
      | (go_at_call 10; refine (h4 _).mono ?_; rintro e w12 ⟨rfl, b12⟩)
      | (refine at_newG (by rfl) (by rfl) ?_; intro gf w13 a13 z13 r13 b13)
      | (refine at_putG (by rfl) _ _ (by rfl) gf (by rfl) t (by rfl) _ r13 ?_; intro w14 rf s14; clear t4
         have B13 := bnext b12 b13 (Nat.le_refl _)
         have ra14 : GR w14 ga s := (ra11.later B13).step s14 (by have := ra11.lt; have := b12.size; omega)
         have rc14 : Row w14 gc A.l := (rc11.later B13).step s14 (by have := rc11.lt; have := b12.size; omega)
         have rd14 : Row w14 gd A.l := (rd11.later B13).step s14 (by have := rd11.lt; have := b12.size; omega)
         have re14 : GR w14 ge t := (re.later B13).step s14 (by have := re.lt; have := b12.size; omega)
         have S14 := (S11.next (Stp.of_below B13 (fun _ => False)) (fun _ h => h.elim)).next s14 (fun x hx => .inl (by subst hx; have := S11.size; have := b12.size; omega))
         have t5 : True := trivial
         have t6 : True := trivial
         clear ra11 rb11 rc11 rd11 re S11 b12 a13 z13 r13 b13 s14 B13)
      | (have _t := t5; refine at_getG (by rfl) _ (by rfl) ga (by rfl) s ra14 ?_; clear _t)
      | (go_at_call 11; refine (h5 _).mono ?_; rintro e w15 ⟨rfl, b15⟩)
      | (have _t := t5; refine at_new 32 64 arrB (by rfl) (by rfl) ?_; intro gx w16 a16 z16 r16 b16; clear _t)
      | (have _t := t5; refine at_put 32 64 arrB (by rfl) _ _ (by rfl) gx (by rfl) _ (by rfl) hX _ r16 (by simp) ?_; intro w17 rx s17; clear _t t5
         have B16 := bnext b15 b16 (Nat.le_refl _)
         have rc17 : Row w17 gc A.l := (rc14.later B16).step s17 (by have := rc14.lt; have := b15.size; omega)
         have rd17 : Row w17 gd A.l := (rd14.later B16).step s17 (by have := rd14.lt; have := b15.size; omega)
         have re17 : GR w17 ge t := (re14.later B16).step s17 (by have := re14.lt; have := b15.size; omega)
         have rf17 : GR w17 gf t := (rf.later B16).step s17 (by have := rf.lt; have := b15.size; omega)
         have S17 := (S14.next (Stp.of_below B16 (fun _ => False)) (fun _ h => h.elim)).next s17 (fun x hx => .inl (by subst hx; have := S14.size; have := b15.size; omega))
         clear ra14 rc14 rd14 re14 rf S14 b15 a16 z16 r16 b16 s17 B16)
      | (have _t := t6; refine at_getL (by rfl) _ (by rfl) gd (by rfl) A rd17 ?_; clear _t)
      | (go_at_call 12; refine (h6 _).mono ?_; rintro e w18 ⟨rfl, b18⟩)
      | (have _t := t6; refine at_new 32 64 arrB (by rfl) (by rfl) ?_; intro gy w19 a19 z19 r19 b19; clear _t)
      | (have _t := t6; refine at_put 32 64 arrB (by rfl) _ _ (by rfl) gy (by rfl) Y.l (by rfl) hY _ r19 (by simp) ?_; intro w20 ry s20; clear _t t6
         have B19 := bnext b18 b19 (Nat.le_refl _)
         have rc20 : Row w20 gc A.l := (rc17.later B19).step s20 (by have := rc17.lt; have := b18.size; omega)
         have rd20 : Row w20 gd A.l := (rd17.later B19).step s20 (by have := rd17.lt; have := b18.size; omega)
         have re20 : GR w20 ge t := (re17.later B19).step s20 (by have := re17.lt; have := b18.size; omega)
         have rf20 : GR w20 gf t := (rf17.later B19).step s20 (by have := rf17.lt; have := b18.size; omega)
         have rx20 : Row w20 gx _ := (rx.later B19).step s20 (by have := rx.lt; have := b18.size; omega)
         have S20 := (S17.next (Stp.of_below B19 (fun _ => False)) (fun _ h => h.elim)).next s20 (fun x hx => .inl (by subst hx; have := S17.size; have := b18.size; omega))
         have hgy : w.heap.size ≤ gy := by have := S17.size; have := b18.size; omega
         have n1 : gc ≠ gy := by have := rc17.lt; have := b18.size; omega
         have n2 : gd ≠ gy := by have := rd17.lt; have := b18.size; omega
         have n3 : ge ≠ gy := by have := re17.lt; have := b18.size; omega
         have n4 : gf ≠ gy := by have := rf17.lt; have := b18.size; omega
         have n5 : gx ≠ gy := by have := rx.lt; have := b18.size; omega
         clear rc17 rd17 re17 rf17 rx S17 b18 a19 z19 r19 b19 s20 B19)
      | (refine at_bldB (by rfl) (by rfl) ?_)
      | (refine at_put 32 64 arrB (by rfl) _ _ (by rfl) gy (by rfl) Blk.zero.l (by rfl) Blk.zero.len _ ry hY ?_; intro w21 ry s21
         have rc20 := rc20.step s21 n1
         have rd20 := rd20.step s21 n2
         have re20 := re20.step s21 n3
         have rf20 := rf20.step s21 n4
         have rx20 := rx20.step s21 n5
         have S20 := S20.next s21 (fun x hx => .inl (by subst hx; exact hgy)))
      | (refine at_getL (by rfl) _ (by rfl) gc (by rfl) A rc20 ?_)
      | (refine at_getL (by rfl) _ (by rfl) gd (by rfl) A rd20 ?_)
      | (refine at_getG (by rfl) _ (by rfl) ge (by rfl) t re20 ?_)
      | (refine at_getG (by rfl) _ (by rfl) gf (by rfl) t rf20 ?_)
      | (refine at_getB (by rfl) _ (by rfl) gx (by rfl) _ rx20 ?_)
      | (refine at_getB (by rfl) _ (by rfl) gy (by rfl) _ ry ?_)
      | (go_at_call 13; refine (sworks_any _).mono ?_; rintro e w22 ⟨rfl, b22⟩))
    go_returns
    exact ⟨rfl, (S20.next (Stp.of_below b22 (fun _ => False)) (fun _ h => h.elim)).below (Nat.le_refl _) (fun _ h => h)⟩

theorem own : ownKnob Try.prog.godebug = none := by kernel_rfl
theorem laidOut : laidOutB Try.prog = true := by kernel_rfl
set_option maxRecDepth 100000 in
theorem lifted (os : Os) (started : os.Started) (H : Type) (enc : TypeId × Value → H) :
    ReturnsInHanded {} Try.checked os 3 .any (Rows.superPutsSpec.pre6 enc Try.prog Try.f3 Rows.superPutsRow.domain false) (Rows.superPutsSpec.post enc Try.prog Try.f3 false true false false) := by
  refine returnsInHanded_of_change (C := Try.checked) own started (by kernel_rfl) Try.func3
    (ChangeSpec.witness6 (enc := enc) (C := Try.checked) false ⟨#[], #[.agg #[.int .i64 0, .int .i64 0, .int .i64 0], .agg Ld.zero.cs.toArray], []⟩ 8 (by kernel_rfl) (by kernel_rfl) (by kernel_rfl) (by kernel_rfl)) ?_
  intro W base args ds gs before hval0 hW hcnd _
  have hval : ∀ (j : Nat) t v, Try.f3.params[j]? = some t → args[j]? = some v → Value.okWide Try.prog W .any base t v := hval0
  have hW' := hW
  obtain ⟨p, q, hA0, hV, rfl, hfz, hnd⟩ := hW
  have hA : DataW.TrodAll enc Try.prog W 0 (fun _ => true) true Try.f3.params.toList args.toList ds p := hA0
  rw [Try.params3] at hA hval
  obtain ⟨v0, vs0, d0, ds0, p0, q0, hargs, rfl, rfl, h0, r0⟩ := trodAll_cons hA
  obtain ⟨v1, vs1, d1, ds1, p1, q1, rfl, rfl, rfl, h1, r1⟩ := trodAll_cons r0
  obtain ⟨rfl, rfl, rfl⟩ := trodAll_nil r1
  obtain rfl : args = #[v0, v1] := by cases args; simp_all
  obtain ⟨rfl, rfl⟩ := trodVars_none hV
  have k0 := h0
  have lt0 : ∀ x ∈ p0, x.block < W.heap.size := by obtain ⟨m, hm⟩ := k0; exact DataW.trod_lt m _ _ _ hm
  obtain ⟨c00, c01, c02, y00, y01, y02, m0, rfl, rfl, rfl, hy00, hy01, hy02⟩ := Go.Joins.open_agg3 Try.underlying23 (by kernel_rfl) (by kernel_rfl) (hval 0 23 v0 rfl rfl) h0
  obtain ⟨x00, e00, _, _⟩ := DataW.trod_int Try.underlying3 hy00
  injection e00 with e00
  subst e00
  obtain ⟨x01, e01, _, _⟩ := DataW.trod_int Try.underlying3 hy01
  injection e01 with e01
  subst e01
  obtain ⟨x02, e02, _, _⟩ := DataW.trod_int Try.underlying3 hy02
  injection e02 with e02
  subst e02
  obtain ⟨cs1, rfl, _⟩ := okWide_row arrL.und (hval 1 25 v1 rfl rfl)
  have k1 := h1
  have lt1 : ∀ x ∈ p1, x.block < W.heap.size := by obtain ⟨m, hm⟩ := k1; exact DataW.trod_lt m _ _ _ hm
  obtain ⟨b1, e1⟩ : ∃ b : Ld, cs1 = b.cs.toArray := by
    obtain ⟨fuel, hf⟩ := h1
    obtain ⟨b, hb⟩ := ldOfTrod hf
    exact ⟨b, by rw [hb]; simp [Value.cells]⟩
  subst e1
  clear hA0 hval0
  refine (walk ⟨x00, x01, x02⟩ b1 W ).mono fun e W' ⟨he, bel⟩ => ?_
  subst he
  exact ⟨_, rfl, _, _, _, [], _, [], hW', trodAll_mk1 (shut_bool Try.underlying4 _), (trodAll_cons_mk (Below.trod laidOut (by kernel_rfl) (of_decide_eq_true (by kernel_rfl)) k0 bel lt0) (trodAll_cons_mk (Below.trod laidOut (by kernel_rfl) (of_decide_eq_true (by kernel_rfl)) k1 bel lt1) trodAll_mk0)), rfl, bel.frame _, fun h => by cases h⟩
theorem over : Rows.superPutsRow.holds Try.pinned (OpenSpec.ofChange Rows.superPutsSpec) :=
  OpenClaim.holds_of_wide 3 Try.f3 rfl rfl rfl rfl rfl rfl rfl ⟨rfl, rfl, rfl, rfl, rfl⟩ rfl rfl rfl rfl rfl (by kernel_rfl) Try.func3 (by kernel_rfl)
    (of_decide_eq_true (by kernel_rfl)) (by unfold Func.isWrapper; first | (rw [if_pos (by decide +kernel)]; kernel_rfl) | (rw [if_neg (by decide +kernel)]; exact ⟨rfl, rfl⟩))
    (fun os started H enc _ => lifted os started H enc)
end Go.Proofs.Ytjbgcbokffaemaa.superPuts
namespace Go.Proofs.Ytjbgcbokffaemaa
/-- The statement. -/
theorem superPuts_holds : Rows.SuperPutsSaid := superPuts.over
#print axioms superPuts_holds
end Go.Proofs.Ytjbgcbokffaemaa
