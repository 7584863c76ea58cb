/-
  The statement SealOne, proved: for every kind, turn, load, place and byte the law returns true, and what came in reads as it did; no condition.
-/
import Derived.Test.YtkejgacelbnpnaaSealK
namespace Go.Proofs.Ytkejgacelbnpnaa.sealOne
open Go.ChangeShapes Go.WideShapes Go.ChangeAt Go.RowKit
set_option linter.unusedVariables false

theorem set_turn {w : World} {g : Nat} {b : Blk} (h : Row w g b.l) (i : Nat) (d : UInt8) (v : Int) (hv : v = ((b.l.getD i 0 ^^^ d).toNat : Int)) : Row (w.setCell ⟨g, i, none⟩ (.int .u8 v)) g (turnB b i d).l := by
  subst hv; exact h.set i _
/-- What kind is told of the sector with the byte turned. -/
theorem kind_turned (n t : Nat) (p : Ld) (h1 : 1 ≤ n) (h6 : n ≤ 6) (ht : t < 4294967296) (i : Nat) (hi : i < 64) (y : Nat) (hy : y < 256) : (((oK (turnB (sealK n t p) i (UInt8.ofNat y)) : Int) == 0) == ((y : Int) != 0)) = true := by
  by_cases h : y = 0
  · subst h
    have e : turnB (sealK n t p) i (UInt8.ofNat 0) = sealK n t p := turn_zero _ _
    rw [e, seal_kind n t p h1 h6 ht]
    have : ((n : Int) == 0) = false := by rw [beq_eq_false_iff_ne]; omega
    rw [this]; rfl
  · have hd : UInt8.ofNat y ≠ 0 := fun e => h (by have := congrArg UInt8.toNat e; rw [u8_to hy] at this; exact this)
    rw [seal_one n t p h1 h6 ht i hi _ hd]
    have : ((y : Int) != 0) = true := by rw [bne_iff_ne]; omega
    rw [this]; rfl
set_option maxRecDepth 100000 in
set_option maxHeartbeats 1000000 in
theorem walk_nat (k0 t : Nat) (p : Ld) (i0 y : Nat) (w : World) (hk0 : k0 < 256) (ht : t < 4294967296) (hi0 : i0 < 256) (hy : y < 256) :
    Calls Try.prog 6 #[.int .u8 (k0 : Int), .int .u32 (t : Int), .agg p.cs.toArray, .int .u8 (i0 : Int), .int .u8 (y : Int)] w fun e w' => e = .returned (.bool true) ∧ Below w.heap.size w w' := by
  have hp := p.len
  obtain ⟨n, hn, h1, h6⟩ : ∃ n : Nat, n = 1 + k0 % 6 ∧ 1 ≤ n ∧ n ≤ 6 := ⟨_, rfl, by omega, by omega⟩
  obtain ⟨i, hie, hi⟩ : ∃ i : Nat, i = i0 % 64 ∧ i < 64 := ⟨_, rfl, by omega⟩
  have hk := isK_of h1 h6
  have hP := fun w => put_any (n : Int) t p w ht
  have e1 : pB n t p = sealK n t p := by unfold pB; rw [hk]; rfl
  have e2 : pE n = 0 := by unfold pE; rw [hk]; rfl
  rw [e1, e2] at hP
  have hD := fun w => kind_any (turnB (sealK n t p) i (UInt8.ofNat y)) w
  have hq : Hid _ := kind_turned n t p h1 h6 ht i hi y hy
  have H1 : Hid _ := hP
  have H3 : Hid _ := hD
  have hb := (sealK n t p).len
  clear hP hD e1 e2
  generalize sealK n t p = b at *
  have hx := (b.l.getD i 0).toNat_lt
  have q2 : (i0 : Int) % 64 = (i : Int) := by omega
  have q3 : 1 + (k0 : Int) % 6 = (n : Int) := by omega
  have q4 : bits .xor .u8 (((b.l.getD i 0).toNat : Nat) : Int) (y : Int) = (((b.l.getD i 0 ^^^ UInt8.ofNat y).toNat : Nat) : Int) := by
    rw [u8_xor _ _ (by omega) (by omega) (by omega) (by omega), UInt8.toNat_xor, u8_to hy]; rfl
  have hset : Hid (∀ (w : World) (g : Nat), Row w g b.l → Row (w.setCell ⟨g, i, none⟩ (.int .u8 (((b.l.getD i 0 ^^^ UInt8.ofNat y).toNat : Nat) : Int))) g (turnB b i (UInt8.ofNat y)).l) := fun w g h => set_turn h i _ _ rfl
  generalize hv : (((b.l.getD i 0 ^^^ UInt8.ofNat y).toNat : Nat) : Int) = v at *
  generalize hu : (((b.l.getD i 0).toNat : Nat) : Int) = u at *
  have hut : Hid (∀ (w : World) (g : Nat), Row w g b.l → w.cell? ⟨g, i, none⟩ = some (.int .u8 u)) := fun w g h => by rw [← hu]; exact h.cell i (by omega)
  generalize turnB b i (UInt8.ofNat y) = b' at *
  have hb' := b'.len
  have hv0 : 0 ≤ v ∧ v ≤ 255 := by have := (b.l.getD i 0 ^^^ UInt8.ofNat y).toNat_lt; omega
  clear hv hu hie hn
  go_enter Try.func6, Try.ntmps6
  go_wp2_with (first
    | (refine at_getB (by rfl) _ (by rfl) gb (by rfl) b' x4 ?_)
    | (refine at_box 24 54 arrL (by rfl) _ (by rfl) p.l (by rfl) hp ?_; intro g0 w8 a8 z8 r8 b8)
    | (go_at_call 14; refine (works_any _).mono ?_; rintro e w9 ⟨rfl, b9⟩)
    | (refine at_getL (by rfl) _ (by rfl) g0 (by rfl) p (r8.later b9) ?_)
    | (go_at_call 8; refine (H1.out _).mono ?_; rintro e w1 ⟨rfl, b1⟩)
    | (refine at_new 26 64 arrB (by rfl) (by rfl) ?_; intro gb w2 a2 z2 r2 b2)
    | (refine at_put 26 64 arrB (by rfl) _ _ (by rfl) gb (by rfl) b.l (by rfl) hb _ r2 (by simp) ?_; intro w3 r3 s3
       have c3 := hut.out w3 gb r3
       have f3 := r3.frozen i
       have x4 := hset.out w3 gb r3)
    | (go_at_call 12; refine (H3.out _).mono ?_; rintro e w7 ⟨rfl, b7⟩))
  have S2 : Stp (fun x => w.heap.size ≤ x) w w2 := Stp.of_below (bnext (bnext (bnext b8 b9 (Nat.le_refl _)) b1 (Nat.le_refl _)) b2 (Nat.le_refl _)) _
  have hgb : w.heap.size ≤ gb := by have := b8.size; have := b9.size; have := b1.size; omega
  have S3 := S2.next s3 (fun x hx => .inl (by subst hx; exact hgb))
  have S4 := S3.setCell (p := ⟨gb, i, none⟩) (.inl hgb) (.int .u8 v)
  have S7 := S4.next (Stp.of_below b7 (fun _ => False)) (fun _ h => h.elim)
  go_returns
  exact ⟨ret_bool hq.out, S7.below (Nat.le_refl _) (fun _ h => h)⟩
theorem walk (a0 a1 : Int) (p : Ld) (a3 a4 : Int) (w : World) (w0 : (Lit.int .u8 a0).wf = true) (w1 : (Lit.int .u32 a1).wf = true) (w3 : (Lit.int .u8 a3).wf = true) (w4 : (Lit.int .u8 a4).wf = true) :
    Calls Try.prog 6 #[.int .u8 a0, .int .u32 a1, .agg p.cs.toArray, .int .u8 a3, .int .u8 a4] w fun e w' => e = .returned (.bool true) ∧ Below w.heap.size w w' := by
  have r0 := bounds_u8 w0
  have r1 := bounds_u32 w1
  have r3 := bounds_u8 w3
  have r4 := bounds_u8 w4
  obtain ⟨k0, rfl⟩ := Int.eq_ofNat_of_zero_le (show 0 ≤ a0 by omega)
  obtain ⟨t, rfl⟩ := Int.eq_ofNat_of_zero_le (show 0 ≤ a1 by omega)
  obtain ⟨i0, rfl⟩ := Int.eq_ofNat_of_zero_le (show 0 ≤ a3 by omega)
  obtain ⟨y, rfl⟩ := Int.eq_ofNat_of_zero_le (show 0 ≤ a4 by omega)
  exact walk_nat k0 t p i0 y w (by omega) (by omega) (by omega) (by omega)

theorem own : ownKnob Try.prog.godebug = none := by kernel_rfl
theorem laidOut : laidOutB Try.prog = true := by kernel_rfl
set_option maxRecDepth 100000 in
theorem lifted (os : Os) (started : os.Started) (H : Type) (enc : TypeId × Value → H) :
    ReturnsInHanded {} Try.checked os 6 .any (Rows.sealOneSpec.pre6 enc Try.prog Try.f6 Rows.sealOneRow.domain false) (Rows.sealOneSpec.post enc Try.prog Try.f6 false true false false) := by
  refine returnsInHanded_of_change (C := Try.checked) own started (by kernel_rfl) Try.func6
    (ChangeSpec.witness6 (enc := enc) (C := Try.checked) false ⟨#[], #[.int .u8 0, .int .u32 0, .agg Ld.zero.cs.toArray, .int .u8 0, .int .u8 0], []⟩ 8 (by kernel_rfl) (by kernel_rfl) (by kernel_rfl) (by kernel_rfl)) ?_
  intro W base args ds gs before hval0 hW hcnd _
  have hval : ∀ (j : Nat) t v, Try.f6.params[j]? = some t → args[j]? = some v → Value.okWide Try.prog W .any base t v := hval0
  have hW' := hW
  obtain ⟨p, q, hA0, hV, rfl, hfz, hnd⟩ := hW
  have hA : DataW.TrodAll enc Try.prog W 0 (fun _ => true) true Try.f6.params.toList args.toList ds p := hA0
  rw [Try.params6] at hA hval
  obtain ⟨v0, vs0, d0, ds0, p0, q0, hargs, rfl, rfl, h0, r0⟩ := trodAll_cons hA
  obtain ⟨v1, vs1, d1, ds1, p1, q1, rfl, rfl, rfl, h1, r1⟩ := trodAll_cons r0
  obtain ⟨v2, vs2, d2, ds2, p2, q2, rfl, rfl, rfl, h2, r2⟩ := trodAll_cons r1
  obtain ⟨v3, vs3, d3, ds3, p3, q3, rfl, rfl, rfl, h3, r3⟩ := trodAll_cons r2
  obtain ⟨v4, vs4, d4, ds4, p4, q4, rfl, rfl, rfl, h4, r4⟩ := trodAll_cons r3
  obtain ⟨rfl, rfl, rfl⟩ := trodAll_nil r4
  obtain rfl : args = #[v0, v1, v2, v3, v4] := by cases args; simp_all
  obtain ⟨rfl, rfl⟩ := trodVars_none hV
  obtain ⟨a0, rfl, rfl, rfl, w0⟩ := open_int Try.underlying5 (hval 0 5 v0 rfl rfl) h0
  obtain ⟨a1, rfl, rfl, rfl, w1⟩ := open_int Try.underlying22 (hval 1 22 v1 rfl rfl) h1
  obtain ⟨cs2, rfl, _⟩ := okWide_row arrL.und (hval 2 24 v2 rfl rfl)
  have k2 := h2
  have lt2 : ∀ x ∈ p2, x.block < W.heap.size := by obtain ⟨m, hm⟩ := k2; exact DataW.trod_lt m _ _ _ hm
  obtain ⟨b2, e2⟩ : ∃ b : Ld, cs2 = b.cs.toArray := by
    obtain ⟨fuel, hf⟩ := h2
    obtain ⟨b, hb⟩ := ldOfTrod hf
    exact ⟨b, by rw [hb]; simp [Value.cells]⟩
  subst e2
  obtain ⟨a3, rfl, rfl, rfl, w3⟩ := open_int Try.underlying5 (hval 3 5 v3 rfl rfl) h3
  obtain ⟨a4, rfl, rfl, rfl, w4⟩ := open_int Try.underlying5 (hval 4 5 v4 rfl rfl) h4
  clear hA0 hval0
  refine (walk a0 a1 b2 a3 a4 W w0 w1 w3 w4).mono fun e W' ⟨he, bel⟩ => ?_
  subst he
  exact ⟨_, rfl, _, _, _, [], _, [], hW', trodAll_mk1 (shut_bool Try.underlying4 _), (trodAll_cons_mk (shut_int Try.underlying5 w0) (trodAll_cons_mk (shut_int Try.underlying22 w1) (trodAll_cons_mk (Below.trod laidOut (by kernel_rfl) (of_decide_eq_true (by kernel_rfl)) k2 bel lt2) (trodAll_cons_mk (shut_int Try.underlying5 w3) (trodAll_cons_mk (shut_int Try.underlying5 w4) trodAll_mk0))))), rfl, bel.frame _, fun h => by cases h⟩
theorem over : Rows.sealOneRow.holds Try.pinned (OpenSpec.ofChange Rows.sealOneSpec) :=
  OpenClaim.holds_of_wide 6 Try.f6 rfl rfl rfl rfl rfl rfl rfl ⟨rfl, rfl, rfl, rfl, rfl⟩ rfl rfl rfl rfl rfl (by kernel_rfl) Try.func6 (by kernel_rfl)
    (of_decide_eq_true (by kernel_rfl)) (by unfold Func.isWrapper; first | (rw [if_pos (by decide +kernel)]; kernel_rfl) | (rw [if_neg (by decide +kernel)]; exact ⟨rfl, rfl⟩))
    (fun os started H enc _ => lifted os started H enc)
end Go.Proofs.Ytkejgacelbnpnaa.sealOne
namespace Go.Proofs.Ytkejgacelbnpnaa
/-- The statement. -/
theorem sealOne_holds : Rows.SealOneSaid := sealOne.over
#print axioms sealOne_holds
end Go.Proofs.Ytkejgacelbnpnaa
