/-
  The statement NumOne, proved: for every bytes, bits and on the law returns true, and what came in reads as it did; no condition.
-/
import Derived.Test.YtccooigblgnndaaNumI
namespace Go.Proofs.Ytccooigblgnndaa.numOne
open Go.ChangeShapes Go.WideShapes Go.ChangeAt Go.RowKit
set_option linter.unusedVariables false

theorem flip_all : ∀ x, x < 256 → ∀ k, k < 8 → ∀ k', k' < 8 → (x / 2 ^ k % 2 = 0 → (x + 2 ^ k) / 2 ^ k' % 2 = if k = k' then 1 else x / 2 ^ k' % 2) ∧ (x / 2 ^ k % 2 = 1 → (x - 2 ^ k) / 2 ^ k' % 2 = if k = k' then 0 else x / 2 ^ k' % 2) := by decide +kernel
theorem putX_bit (x : Int) (I J : Nat) (on : Bool) (h : 0 ≤ x ∧ x ≤ 255) : (putX x I on / p2 J % 2 == 1) = if I % 8 = J % 8 then on else (x / p2 J % 2 == 1) := by
  obtain ⟨y, rfl⟩ := Int.eq_ofNat_of_zero_le h.1
  have hf := flip_all y (by omega) (I % 8) (by omega) (J % 8) (by omega)
  have hp := put_all y (by omega) (I % 8) (by omega)
  unfold putX
  rw [bit_nat y I, bit_nat y J]
  by_cases hb : y / 2 ^ (I % 8) % 2 = 1
  · have h1 := hf.2 hb
    have h2 := hp.1 hb
    have e : ((y : Int) - p2 I) = ((y - 2 ^ (I % 8) : Nat) : Int) := by rw [p2_nat]; omega
    cases on
    · simp only [hb, decide_true, Bool.false_eq_true, if_false]
      rw [e, bit_nat, h1]
      by_cases hk : I % 8 = J % 8 <;> simp [hk]
    · simp only [hb, decide_true, if_true]
      rw [bit_nat]
      by_cases hk : I % 8 = J % 8
      · rw [if_pos hk, ← hk, decide_eq_true hb]
      · rw [if_neg hk]
  · have hb0 : y / 2 ^ (I % 8) % 2 = 0 := by omega
    have h1 := hf.1 hb0
    have e : ((y : Int) + p2 I) = ((y + 2 ^ (I % 8) : Nat) : Int) := by rw [p2_nat]; omega
    cases on
    · simp only [hb, decide_false, if_true]
      rw [bit_nat]
      by_cases hk : I % 8 = J % 8
      · rw [if_pos hk, ← hk, decide_eq_false hb]
      · rw [if_neg hk]
    · simp only [hb, decide_false, if_true, Bool.true_eq_false, if_false]
      rw [e, bit_nat, h1]
      by_cases hk : I % 8 = J % 8 <;> simp [hk]
theorem putB_bit (l : List Int) (I J : Nat) (on : Bool) (hl : ∀ x ∈ l, 0 ≤ x ∧ x ≤ 255) (hI : I / 8 < l.length) : bitB (putB l I on) J = if I = J then on else bitB l J := by
  have hx : 0 ≤ l.getD (I / 8) 0 ∧ l.getD (I / 8) 0 ≤ 255 := by
    rw [List.getD_eq_getElem?_getD, List.getElem?_eq_getElem hI]; exact hl _ (List.getElem_mem hI)
  unfold bitB putB
  by_cases hq : I / 8 = J / 8
  · have e : (l.set (I / 8) (putX (l.getD (I / 8) 0) I on)).getD (J / 8) 0 = putX (l.getD (I / 8) 0) I on := by
      rw [← hq, List.getD_eq_getElem?_getD, List.getElem?_set_self hI, Option.getD_some]
    rw [e, putX_bit _ I J on hx, ← hq]
    by_cases hk : I % 8 = J % 8
    · rw [if_pos hk, if_pos (by omega)]
    · rw [if_neg hk, if_neg (by omega)]
  · rw [if_neg (by omega)]
    rw [List.getD_eq_getElem?_getD, List.getElem?_set_ne hq, ← List.getD_eq_getElem?_getD]
theorem cnt_put (l : List Int) (I : Nat) (on : Bool) (hl : ∀ x ∈ l, 0 ≤ x ∧ x ≤ 255) (hI : I / 8 < l.length) :
    ∀ M, cnt (putB l I on) M = cnt l M + if I < M then ((if on then 1 else 0) - (if bitB l I then 1 else 0)) else 0
  | 0 => by simp [cnt]
  | M + 1 => by
    have ih := cnt_put l I on hl hI M
    simp only [cnt]
    rw [ih, putB_bit l I M on hl hI]
    by_cases h : I = M
    · subst h
      rw [if_neg (Nat.lt_irrefl I), if_pos (Nat.lt_succ_self I)]
      cases on <;> cases bitB l I <;> simp <;> omega
    · by_cases h2 : I < M
      · simp only [if_pos h2, if_pos (show I < M + 1 by omega), if_neg h]; omega
      · simp only [if_neg h2, if_neg (show ¬ I < M + 1 by omega), if_neg h]; omega
theorem putB_len (l : List Int) (I : Nat) (on : Bool) : (putB l I on).length = l.length := by unfold putB; simp
theorem bnd_full (m : Nat) : bnd m (8 * (m : Int)) = 8 * m := by unfold bnd; omega

set_option maxHeartbeats 1000000 in
theorem walk_no (a0 : Option Addr) (n0 c0 : Nat) (z0 : List Int) (a1 : Int) (a2 : Int) (a3 : Bool) (w : World) (w0 : Bs w a0 n0 c0 z0) (r1 : -9223372036854775808 ≤ a1 ∧ a1 ≤ 9223372036854775807) (m : Nat)
    (hm : (if (300 : Int) < (n0 : Int) then (300 : Int) else (n0 : Int)) = (m : Int)) (hm' : m ≤ n0) (hm2 : m ≤ 300) (hno : ¬ (0 ≤ a1 ∧ a1 / 8 < m)) :
    Calls Try.prog 6 #[.slice a0 n0 c0, .int .i64 a1, .int .i64 a2, .bool a3] w fun e w' => e = .returned (.bool true) ∧ Below w.heap.size w w' := by
  have hle := w0.le
  have hcap := w0.cap
  unfold maxLen at hcap
  have hb := w0.take m hm'
  generalize z0.take m = l at hb
  have H : Hid (¬ (0 ≤ a1 ∧ a1 / 8 < m)) := hno
  clear hno
  go_enter Try.func6, Try.ntmps6
  go_wp2_with (first
    | (go_at_call 19; refine (works_any _).mono ?_; rintro e u1 ⟨rfl, hT1⟩; have hb1 := hb.later hT1)
    | (go_at_call 10; refine (bytes_bs a0 m c0 l u1 hb1 (by omega)).mono ?_; rintro e u2 ⟨x2, d2, rfl, hx2, hT2'⟩; have hT2 := bnext hT1 hT2' (Nat.le_refl _))
    | (go_at_call 22; refine (with_no _ _ _ a1 a3 u2 (by omega) (by omega) (by omega) H.out).mono ?_; rintro e u3 ⟨rfl, rfl⟩))
  go_returns
  exact ⟨rfl, hT2⟩

set_option maxHeartbeats 2000000 in
theorem walk_yes (a0 : Option Addr) (n0 c0 : Nat) (z0 : List Int) (I : Nat) (a2 : Int) (on was : Bool) (w : World) (w0 : Bs w a0 n0 c0 z0) (r1 : (I : Int) ≤ 9223372036854775807) (r2 : -9223372036854775808 ≤ a2 ∧ a2 ≤ 9223372036854775807) (m : Nat)
    (hm : (if (300 : Int) < (n0 : Int) then (300 : Int) else (n0 : Int)) = (m : Int)) (hm' : m ≤ n0) (hm2 : m ≤ 300) (hI : I / 8 < m) (hwas : bitB (z0.take m) I = was) :
    Calls Try.prog 6 #[.slice a0 n0 c0, .int .i64 I, .int .i64 a2, .bool on] w fun e w' => e = .returned (.bool true) ∧ Below w.heap.size w w' := by
  have hle := w0.le
  have hcap := w0.cap
  unfold maxLen at hcap
  have hb := w0.take m hm'
  generalize z0.take m = l at hb hwas
  have hl := hb.len
  have hIl : I / 8 < l.length := by omega
  obtain ⟨l', hl'⟩ : ∃ l', putB l I on = l' := ⟨_, rfl⟩
  have b1 : bitB l' I = on := by rw [← hl', putB_bit l I I on hb.byte hIl, if_pos rfl]
  have b2 : Hid (∀ J, J ≠ I → bitB l' J = bitB l J) := fun J hJ => by rw [← hl', putB_bit l I J on hb.byte hIl, if_neg (fun h => hJ h.symm)]
  have b3 : cnt l' (8 * m) = cnt l (8 * m) + ((if on then 1 else 0) - (if was then 1 else 0)) := by rw [← hl', cnt_put l I on hb.byte hIl, if_pos (by omega), hwas]
  have b4 := cnt_range l (8 * m)
  have b5 := bnd_full m
  have b6 : l'.length = m := by rw [← hl', putB_len, hl]
  have hxy : ((I : Int) = a2) ∨ (¬ (I : Int) = a2 ∧ vb l m a2 = vb l' m a2) := by
    by_cases hij : (I : Int) = a2
    · exact .inl hij
    · refine .inr ⟨hij, ?_⟩
      unfold vb
      by_cases h : 0 ≤ a2 ∧ a2 / 8 < m
      · rw [b2.out a2.toNat (by omega)]
      · rw [decide_eq_false h]; rfl
  clear hIl hl
  cases on <;> cases was <;> rcases hxy with rfl | ⟨hne, hxy⟩
  all_goals
    simp only [Bool.false_eq_true, if_true, if_false, Int.sub_self, Int.add_zero, Int.sub_zero, Int.zero_sub] at b3
    go_enter Try.func6, Try.ntmps6
    go_wp2_with (first
      | (go_at_call 19; refine (works_any _).mono ?_; rintro e u1 ⟨rfl, hT1⟩; have hb1 := hb.later hT1)
      | (go_at_call 10; refine (bytes_bs a0 m c0 l u1 hb1 (by omega)).mono ?_; rintro e u2 ⟨x2, d2, rfl, hx2, hT2'⟩; have hT2 := bnext hT1 hT2' (Nat.le_refl _)))
    refine (with_ok _ _ _ l I _ u2 hx2 hI (by omega) (by omega)).mono ?_
    rintro e u3 ⟨v, he, hown, hT3'⟩
    have hT3 := bnext hT2 hT3' (Nat.le_refl _)
    rw [hl'] at hown
    obtain ⟨x3, d3, rfl, hx3⟩ := own_bs hown (by rw [← hl']; exact putB_range hb.byte I _)
    subst he
    have hb3 := hb.later hT3
    clear hown hT3' hT2 hT2' hT1 hb1 hx2
    go_wp2_with fail
    refine (bit_ok a0 m c0 l I u3 hb3 hI (by omega)).mono ?_
    rintro e u4 ⟨rfl, k4, hu4⟩
    have hD4 := (by rw [hu4]; exact below_drewN u3 k4 : Below u3.heap.size u3 u4)
    have hb4 := hb3.later hD4
    have hx4 := hx3.later hD4
    have hT4 := bnext hT3 hD4 (Nat.le_refl _)
    clear hu4 hD4 hb3 hx3 hT3
    go_wp2_with fail
    refine (bit_ok x3 m d3 l' I u4 hx4 hI (by omega)).mono ?_
    rintro e u5 ⟨rfl, k5, hu5⟩
    have hD5 := (by rw [hu5]; exact below_drewN u4 k5 : Below u4.heap.size u4 u5)
    have hb5 := hb4.later hD5
    have hx5 := hx4.later hD5
    have hT5 := bnext hT4 hD5 (Nat.le_refl _)
    clear hu5 hD5 hb4 hx4 hT4
    go_wp2_with fail
    refine (bit_all a0 m c0 l _ u5 hb5 (by omega) (by omega)).mono ?_
    rintro e u6 ⟨rfl, k6, hu6⟩
    have hD6 := (by rw [hu6]; exact below_drewN u5 k6 : Below u5.heap.size u5 u6)
    have hb6 := hb5.later hD6
    have hx6 := hx5.later hD6
    have hT6 := bnext hT5 hD6 (Nat.le_refl _)
    clear hu6 hD6 hb5 hx5 hT5
    go_wp2_with fail
    refine (bit_all x3 m d3 l' _ u6 hx6 (by omega) (by omega)).mono ?_
    rintro e u7 ⟨rfl, k7, hu7⟩
    have hD7 := (by rw [hu7]; exact below_drewN u6 k7 : Below u6.heap.size u6 u7)
    have hb7 := hb6.later hD7
    have hx7 := hx6.later hD7
    have hT7 := bnext hT6 hD7 (Nat.le_refl _)
    clear hu7 hD7 hb6 hx6 hT6
    go_wp2_with fail
    refine (count_any x3 m d3 l' _ u7 hx7 (by omega) (by omega) (by omega)).mono ?_
    rintro e u8 ⟨rfl, k8, hu8⟩
    have hD8 := (by rw [hu8]; exact below_drewN u7 k8 : Below u7.heap.size u7 u8)
    have hb8 := hb7.later hD8
    have hT8 := bnext hT7 hD8 (Nat.le_refl _)
    clear hu8 hD8 hb7 hx7 hT7
    go_wp2_with fail
    refine (count_any a0 m c0 l _ u8 hb8 (by omega) (by omega) (by omega)).mono ?_
    rintro e u9 ⟨rfl, k9, hu9⟩
    have hT9 : Below w.heap.size w u9 := by rw [hu9]; exact bdrewN hT8 k9
    clear hu9
    go_wp2
    go_returns
    exact ⟨ret_bool (by first | rfl | (rw [beq_iff_eq]; omega)), hT9⟩

theorem walk (a0 : Option Addr) (n0 c0 : Nat) (z0 : List Int) (a1 : Int) (a2 : Int) (a3 : Bool) (w : World) (w0 : Bs w a0 n0 c0 z0) (w1 : (Lit.int .i64 a1).wf = true) (w2 : (Lit.int .i64 a2).wf = true) :
    Calls Try.prog 6 #[.slice a0 n0 c0, .int .i64 a1, .int .i64 a2, .bool a3] w fun e w' => e = .returned (.bool true) ∧ Below w.heap.size w w' := by
  have r1 := bounds_i64 w1
  have r2 := bounds_i64 w2
  obtain ⟨m, hm, hm', hm2⟩ : ∃ m : Nat, (if (300 : Int) < (n0 : Int) then (300 : Int) else (n0 : Int)) = (m : Int) ∧ m ≤ n0 ∧ m ≤ 300 := ⟨min n0 300, by split <;> omega, by omega, by omega⟩
  by_cases h : 0 ≤ a1 ∧ a1 / 8 < m
  · obtain ⟨I, rfl⟩ := Int.eq_ofNat_of_zero_le h.1
    exact walk_yes a0 n0 c0 z0 I a2 a3 _ w w0 (by omega) (by omega) m hm hm' hm2 (by omega) rfl
  · exact walk_no a0 n0 c0 z0 a1 a2 a3 w w0 (by omega) m hm hm' hm2 h

theorem own : ownKnob Try.prog.godebug = none := by kernel_rfl
theorem laidOut : laidOutB Try.prog = true := by kernel_rfl
set_option maxRecDepth 100000 in
theorem lifted (os : Os) (started : os.Started) (H : Type) (enc : TypeId × Value → H) :
    ReturnsInHanded {} Try.checked os 6 .any (Rows.numOneSpec.pre6 enc Try.prog Try.f6 Rows.numOneRow.domain false) (Rows.numOneSpec.post enc Try.prog Try.f6 false true false false) := by
  refine returnsInHanded_of_change (C := Try.checked) own started (by kernel_rfl) Try.func6
    (ChangeSpec.witness6 (enc := enc) (C := Try.checked) false ⟨#[], #[.slice none 0 0, .int .i64 0, .int .i64 0, .bool false], []⟩ 8 (by kernel_rfl) (by kernel_rfl) (by kernel_rfl) (by kernel_rfl)) ?_
  intro W base args ds gs before hval0 hW hcnd _
  have hval : ∀ (j : Nat) t v, Try.f6.params[j]? = some t → args[j]? = some v → Value.okWide Try.prog W .any base t v := hval0
  have hW' := hW
  obtain ⟨p, q, hA0, hV, rfl, hfz, hnd⟩ := hW
  have hA : DataW.TrodAll enc Try.prog W 0 (fun _ => true) true Try.f6.params.toList args.toList ds p := hA0
  rw [Try.params6] at hA hval
  obtain ⟨v0, vs0, d0, ds0, p0, q0, hargs, rfl, rfl, h0, r0⟩ := trodAll_cons hA
  obtain ⟨v1, vs1, d1, ds1, p1, q1, rfl, rfl, rfl, h1, r1⟩ := trodAll_cons r0
  obtain ⟨v2, vs2, d2, ds2, p2, q2, rfl, rfl, rfl, h2, r2⟩ := trodAll_cons r1
  obtain ⟨v3, vs3, d3, ds3, p3, q3, rfl, rfl, rfl, h3, r3⟩ := trodAll_cons r2
  obtain ⟨rfl, rfl, rfl⟩ := trodAll_nil r3
  obtain rfl : args = #[v0, v1, v2, v3] := by cases args; simp_all
  obtain ⟨rfl, rfl⟩ := trodVars_none hV
  obtain ⟨a0, len0, cap0, rfl⟩ := okWide_slice Try.underlying22 (hval 0 22 v0 rfl rfl)
  have k0 := h0
  have lt0 : ∀ x ∈ p0, x.block < W.heap.size := by obtain ⟨m, hm⟩ := k0; exact DataW.trod_lt m _ _ _ hm
  obtain ⟨z0, w0⟩ : ∃ zs, Bs W a0 len0 cap0 zs := by
    obtain ⟨fuel, hf⟩ := h0
    rcases open_ints Try.underlying22 Try.underlying5 (by kernel_rfl) hf with ⟨hcs, _⟩ | ⟨x, l, c, zs, hcs, _, hl, hm, hz, _, hcell, hwz⟩
    · simp [Value.cells] at hcs
      obtain ⟨rfl, rfl, rfl⟩ := hcs
      exact ⟨[], Bs.nilSlice _⟩
    · simp [Value.cells] at hcs
      obtain ⟨rfl, rfl, rfl⟩ := hcs
      exact ⟨_, bs_open hl hm (by simpa using hz) hcell hwz⟩
  obtain ⟨a1, rfl, rfl, rfl, w1⟩ := open_int Try.underlying3 (hval 1 3 v1 rfl rfl) h1
  obtain ⟨a2, rfl, rfl, rfl, w2⟩ := open_int Try.underlying3 (hval 2 3 v2 rfl rfl) h2
  obtain ⟨a3, rfl, rfl, rfl⟩ := open_bool Try.underlying4 (hval 3 4 v3 rfl rfl) h3
  clear hA0 hval0
  refine (walk a0 len0 cap0 z0 a1 a2 a3 W w0 w1 w2).mono fun e W' ⟨he, bel⟩ => ?_
  subst he
  exact ⟨_, rfl, _, _, _, [], _, [], hW', trodAll_mk1 (shut_bool Try.underlying4 _), (trodAll_cons_mk (Below.trod laidOut (by kernel_rfl) (of_decide_eq_true (by kernel_rfl)) k0 bel lt0) (trodAll_cons_mk (shut_int Try.underlying3 w1) (trodAll_cons_mk (shut_int Try.underlying3 w2) (trodAll_cons_mk (shut_bool Try.underlying4 a3) trodAll_mk0)))), rfl, bel.frame _, fun h => by cases h⟩
theorem over : Rows.numOneRow.holds Try.pinned (OpenSpec.ofChange Rows.numOneSpec) :=
  OpenClaim.holds_of_wide 6 Try.f6 rfl rfl rfl rfl rfl rfl rfl ⟨rfl, rfl, rfl, rfl, rfl⟩ rfl rfl rfl rfl rfl (by kernel_rfl) Try.func6 (by kernel_rfl)
    (of_decide_eq_true (by kernel_rfl)) (by unfold Func.isWrapper; first | (rw [if_pos (by decide +kernel)]; kernel_rfl) | (rw [if_neg (by decide +kernel)]; exact ⟨rfl, rfl⟩))
    (fun os started H enc _ => lifted os started H enc)
end Go.Proofs.Ytccooigblgnndaa.numOne
namespace Go.Proofs.Ytccooigblgnndaa
/-- The statement. -/
theorem numOne_holds : Rows.NumOneSaid := numOne.over
#print axioms numOne_holds
end Go.Proofs.Ytccooigblgnndaa
