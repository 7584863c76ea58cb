/-
  The statement RollOn, proved: for every sector, list of patches and number the law returns true, and what came in reads as it did; no condition.
-/
import Derived.Test.YteceapdkgidenaaRoJ
import Derived.Test.YteceapdkgidenaaLdIn
import Derived.Test.YteceapdkgidenaaBaseA
namespace Go.Proofs.Yteceapdkgidenaa.rollOn
open Go.ChangeShapes Go.WideShapes Go.ChangeAt Go.RowKit
set_option linter.unusedVariables false
set_option linter.unusedSimpArgs false

set_option maxRecDepth 100000 in
set_option maxHeartbeats 2000000 in
theorem walk (b : Blk) (a0 : Option Addr) (n1 c1 : Nat) (L0 : List Pe) (at0 : Int) (w : World) (H : Ps w (fun x => x < w.heap.size) ⟨a0, n1, c1⟩ L0) (w2 : (Lit.int .i64 at0).wf = true) :
    Calls Try.prog 5 #[.agg b.cs.toArray, .slice a0 n1 c1, .int .i64 at0] w fun e w' => e = .returned (.bool true) ∧ Below w.heap.size w w' := by
  have hb := b.len
  have HF := fun u (hu : Below w.heap.size w u) => few15_any (H.later hu)
  have t1 : True := trivial
  have t2 : True := trivial
  have t3 : True := trivial
  go_enter Try.func5, Try.ntmps5
  go_wp2_with (first
    | (clear t1; refine at_box 23 64 arrB (by rfl) _ (by rfl) b.l (by rfl) hb ?_; intro g3 w1 a1 z1 r1 b1)
    | (go_at_call 15; refine (works15_any _).mono ?_; rintro e w2 ⟨rfl, b2⟩)
    | (go_at_call 16; refine (HF _ (bnext b1 b2 (Nat.le_refl _))).mono ?_; rintro e w3 ⟨v, L, rfl, I, hL⟩
       obtain ⟨⟨sa, sn, sc⟩, rfl, hsn, P⟩ := I.ps
       simp only at hsn
       subst hsn))
  have h20 : L.length ≤ 20 := by have := congrArg List.length hL; rw [pts_len] at this; unfold fewL at this; simp at this; omega
  obtain ⟨m, hm, hm1, hm2⟩ : ∃ m : Nat, wrap64 ((L.length : Int) + 1) = (m : Int) ∧ Hid (m = L.length + 1) ∧ 0 < m := ⟨L.length + 1, by unfold wrap64; omega, rfl, by omega⟩
  rw [hm]
  have B3 := bnext (bnext b1 b2 (Nat.le_refl _)) I.pu.b (Nat.le_refl _)
  have r3 := (r1.later b2).later I.pu.b
  have hP3 : ∀ x, Made w2 w3 x → x < w3.heap.size := fun x hx => hx.2
  have hle := P.le
  simp only at hle
  refine (among_any at0 m _ hm2 (by have := hm1.out; omega)).mono ?_
  rintro e w4 ⟨rfl, rfl⟩
  have hk := among_lt at0 m hm2
  generalize among at0 m = k at *
  have hkn : k ≤ L.length := by have := hm1.out; omega
  have hA := (nwB b (pts L)).len
  have HN : Calls Try.prog 17 #[.agg b.cs.toArray, .slice sa L.length sc] w3 fun e w' => e = .returned (.tuple #[.agg (nwB b (pts L)).cs.toArray, .int .i64 (nwE (pts L))]) ∧ Below w3.heap.size w3 w' := now_any P b hP3
  have HN1 : ∀ u, Below w3.heap.size w3 u → Calls Try.prog 17 #[.agg b.cs.toArray, .slice (hdA sa sc) k sc] u fun e w' => e = .returned (.tuple #[.agg (nwB b ((pts L).take k)).cs.toArray, .int .i64 (nwE ((pts L).take k))]) ∧ Below u.heap.size u w' := fun u hu => by
    have := now_any ((P.hd k hkn).later hu) b (fun x hx => Nat.lt_of_lt_of_le hx.2 hu.size)
    rw [pts_take] at this; exact this
  have HN2 : ∀ u, Below w3.heap.size w3 u → Calls Try.prog 17 #[.agg (nwB b ((pts L).take k)).cs.toArray, .slice (tlA sa sc k) (L.length - k) (sc - k)] u fun e w' => e = .returned (.tuple #[.agg (nwB (nwB b ((pts L).take k)) ((pts L).drop k)).cs.toArray, .int .i64 (nwE ((pts L).drop k))]) ∧ Below u.heap.size u w' := fun u hu => by
    have := now_any ((P.tl k hkn).later hu) (nwB b ((pts L).take k)) (fun x hx => Nat.lt_of_lt_of_le hx.2 hu.size)
    rw [pts_drop] at this; exact this
  have HN0 : ∀ u, Calls Try.prog 17 #[.agg b.cs.toArray, .slice none 0 0] u fun e w' => e = .returned (.tuple #[.agg b.cs.toArray, .int .i64 0]) ∧ Below u.heap.size u w' := fun u => now_any (Ps.nilS u (fun _ => False)) b (fun x hx => hx.elim)
  have hcase : (nwE (pts L) ≠ 0 ∧ nwB b (pts L) = b) ∨ (nwE (pts L) = 0 ∧ nwE ((pts L).take k) = 0 ∧ nwE ((pts L).drop k) = 0 ∧ ((∀ p ∈ pts L, p.kind ≠ 0) → sm2 (nwB b (pts L)) (nwB (nwB b ((pts L).take k)) ((pts L).drop k)) = true)) := by
    by_cases h0 : nwE (pts L) = 0
    · have e1 := nwE_append ((pts L).take k) ((pts L).drop k) (by rw [List.take_append_drop]; exact h0)
      refine .inr ⟨h0, e1.1, e1.2, fun hz => ?_⟩
      have := roll_on b ((pts L).take k) ((pts L).drop k) (by rw [List.take_append_drop]; exact hz) (by rw [List.take_append_drop]; exact nwE_of h0)
      rwa [List.take_append_drop] at this
    · exact .inl ⟨h0, nwB_else h0⟩
  have hs1 : ∀ u, (Instr.sliceAt 39 (.slice sa L.length sc) none (some (.int .i64 (k : Int))) none).run Try.prog u = .ok (.slice (hdA sa sc) k sc) u := fun u => run_hdP sa L.length sc k (by omega) u
  have hs2 : ∀ u, (Instr.sliceAt 39 (.slice sa L.length sc) (some (.int .i64 (k : Int))) none none).run Try.prog u = .ok (.slice (tlA sa sc k) (L.length - k) (sc - k)) u := fun u => run_tlP sa L.length sc k hkn u
  have HS := rsame_any (nwB b (pts L)) (nwB (nwB b ((pts L).take k)) ((pts L).drop k))
  have hO := (nwB b ((pts L).take k)).len
  have hT := (nwB (nwB b ((pts L).take k)) ((pts L).drop k)).len
  clear hk HF H r1 b1 b2 z1 I hm hL
  generalize nwB (nwB b ((pts L).take k)) ((pts L).drop k) = T at *
  generalize nwB b ((pts L).take k) = O at *
  generalize nwB b (pts L) = A at *
  generalize nwE (pts L) = e0 at *
  generalize nwE ((pts L).take k) = f0 at *
  generalize nwE ((pts L).drop k) = g0 at *
  generalize hdA sa sc = ha at *
  generalize tlA sa sc k = ta at *
  generalize L.length - k = n2 at *
  generalize sc - k = c2 at *
  generalize hnl0 : L.length = n at *
  have hnl : Hid (L.length = n) := hnl0
  clear hnl0
  have heq := eqB b b
  have hgb := guardB
  simp only [decide_true] at heq
  go_wp2_with (first
    | (refine at_getB (by rfl) _ (by rfl) g3 (by rfl) b r3 ?_)
    | (go_at_call 17; refine HN.mono ?_; rintro e w5 ⟨rfl, b5⟩; clear HN)
    | (clear t2; refine at_new 23 64 arrB (by rfl) (by rfl) ?_; intro g8 w6 a8 z8 r6 b6)
    | (clear t3; refine at_put 23 64 arrB (by rfl) _ _ (by rfl) g8 (by rfl) A.l (by rfl) hA _ r6 (by simp) ?_; intro W1 r8 s8))
  have b36 := bnext b5 b6 (Nat.le_refl _)
  have S36 : Stp (fun _ => False) w3 W1 := (Stp.of_below b36 (fun _ => False)).next s8 (fun x hx => .inr (by subst hx; have := b5.size; omega))
  have BW1 := S36.below (Nat.le_refl _) (fun _ h => h.elim)
  have rb1 := r3.later BW1
  clear b36 S36 s8 r6 b5 b6 a8 z8 r3 hP3 hm1
  refine wp_region_held_drew (S := fun u => Below W1.heap.size W1 u) (by kernel_rfl) (Below.refl _ _).drew (fun hHeld => ?_)
  rename_i K1 hK1
  have tail1 : ∀ g10 W2, Row W2 g10 O.l → Below W1.heap.size W1 W2 →
      K1 ⟨#[.agg b.cs.toArray, .slice sa n sc, .int .i64 at0, .pointer (some ⟨g3, 0, none⟩), undef, undef, .bool false, .int .i64 (k : Int), .pointer (some ⟨g8, 0, none⟩), .int .i64 e0, .pointer (some ⟨g10, 0, none⟩), .int .i64 f0, undef, undef, undef, undef, undef, .bool true, .bool false, .slice a0 n1 c1, .slice sa n sc, .int .i64 at0, .slice sa n sc, .int .i64 (n : Int), .int .i64 (m : Int), .int .i64 (k : Int), .tuple #[.agg A.cs.toArray, .int .i64 e0], .agg b.cs.toArray, .slice sa n sc, .tuple #[.agg A.cs.toArray, .int .i64 e0], .agg A.cs.toArray, .int .i64 e0, .tuple #[.agg O.cs.toArray, .int .i64 f0], .agg b.cs.toArray, .slice sa n sc, .int .i64 (k : Int), .slice ha k sc, .tuple #[.agg O.cs.toArray, .int .i64 f0], .agg O.cs.toArray, .int .i64 f0, undef, undef, undef, undef, undef, undef, undef, undef, undef, undef, undef, undef, undef, undef, undef, undef, undef, undef, undef, undef, undef, undef, undef, undef, undef, undef, undef, undef, undef, undef, undef, undef, undef, undef, undef, undef, undef, undef, undef, undef, undef, undef, undef, undef, undef, undef, undef, undef, undef, undef, undef, undef], []⟩ W2 := by
    intro g10 W2 y10 hH
    refine hK1 _ _ ?_
    have rb2 := rb1.later hH
    have rA2 := r8.later hH
    have BW2 := bnext BW1 hH (Nat.le_refl _)
    clear hHeld hK1 HN1 rb1 r8 BW1 hH hs1
    go_wp2_with fail
    refine wp_region_held_drew (S := fun u => Below W2.heap.size W2 u) (by kernel_rfl) (Below.refl _ _).drew (fun hHeld => ?_)
    rename_i K2 hK2
    have tail2 : ∀ g12 V, Row V g12 T.l → Below W2.heap.size W2 V →
        K2 ⟨#[.agg b.cs.toArray, .slice sa n sc, .int .i64 at0, .pointer (some ⟨g3, 0, none⟩), undef, undef, .bool false, .int .i64 (k : Int), .pointer (some ⟨g8, 0, none⟩), .int .i64 e0, .pointer (some ⟨g10, 0, none⟩), .int .i64 f0, .pointer (some ⟨g12, 0, none⟩), .int .i64 g0, undef, undef, undef, .bool true, .bool false, .slice a0 n1 c1, .slice sa n sc, .int .i64 at0, .slice sa n sc, .int .i64 (n : Int), .int .i64 (m : Int), .int .i64 (k : Int), .tuple #[.agg A.cs.toArray, .int .i64 e0], .agg b.cs.toArray, .slice sa n sc, .tuple #[.agg A.cs.toArray, .int .i64 e0], .agg A.cs.toArray, .int .i64 e0, .tuple #[.agg O.cs.toArray, .int .i64 f0], .agg b.cs.toArray, .slice sa n sc, .int .i64 (k : Int), .slice ha k sc, .tuple #[.agg O.cs.toArray, .int .i64 f0], .agg O.cs.toArray, .int .i64 f0, .tuple #[.agg T.cs.toArray, .int .i64 g0], .agg O.cs.toArray, .slice sa n sc, .int .i64 (k : Int), .slice ta n2 c2, .tuple #[.agg T.cs.toArray, .int .i64 g0], .agg T.cs.toArray, .int .i64 g0, undef, undef, undef, undef, undef, undef, undef, undef, undef, undef, undef, undef, undef, undef, undef, undef, undef, undef, undef, undef, undef, undef, undef, undef, undef, undef, undef, undef, undef, undef, undef, undef, undef, undef, undef, undef, undef, undef, undef, undef, undef, undef, undef, undef], []⟩ V := by
      intro g12 V y12 hH
      refine hK2 _ _ ?_
      have rb3 := rb2.later hH
      have rA3 := rA2.later hH
      have B := bnext BW2 hH (Nat.le_refl _)
      clear hHeld hK2 HN2 rb2 rA2 BW2 hH hs2 y10
      have t4 : True := trivial
      have t5 : True := trivial
      have t6 : True := trivial
      have t7 : True := trivial
      rcases hcase with ⟨h0, hAb⟩ | ⟨rfl, rfl, rfl, hSm⟩
      · have heq2 := eqB A b
        rw [decide_eq_true hAb] at heq2
        have q1 : (e0 != 0) = true := by simp [h0]
        have q2 : (e0 == 0) = false := by simp [h0]
        clear hAb
        go_wp2_with (first
        | (clear t4; refine at_getB (by rfl) _ (by rfl) g3 (by rfl) b rb3 ?_)
        | (go_at_call 17; refine (HN0 _).mono ?_; rintro e w7 ⟨rfl, b7⟩; clear HN0)
        | (clear t5; refine at_new 23 64 arrB (by rfl) (by rfl) ?_; intro g14 w8 a14 z14 r14 b8)
        | (clear t6; refine at_put 23 64 arrB (by rfl) _ _ (by rfl) g14 (by rfl) b.l (by rfl) hb _ r14 (by simp) ?_; intro U rU sU
           have S4 : Stp (fun _ => False) V U := (Stp.of_below (bnext b7 b8 (Nat.le_refl _)) (fun _ => False)).next sU (fun x hx => .inr (by subst hx; have := b7.size; omega))
           have BU := S4.below (Nat.le_refl _) (fun _ h => h.elim)
           have rb4 := rb3.later BU
           have rA4 := rA3.later BU
           have rT4 := y12.later BU
           have B4 := bnext B BU (Nat.le_refl _)
           clear S4 BU rb3 rA3 y12 B sU r14 b7 b8 a14 z14)
        | (clear t7; refine at_getB (by rfl) _ (by rfl) g14 (by rfl) b rU ?_)
        | (refine at_getB (by rfl) _ (by rfl) g3 (by rfl) b rb4 ?_)
        | (refine at_getB (by rfl) _ (by rfl) g8 (by rfl) A rA4 ?_))
        go_returns
        exact ⟨rfl, bnext B3 B4 (Nat.le_refl _)⟩
      · go_wp2_with (first
        | (clear t4; refine at_getB (by rfl) _ (by rfl) g3 (by rfl) b rb3 ?_)
        | (go_at_call 17; refine (HN0 _).mono ?_; rintro e w7 ⟨rfl, b7⟩; clear HN0)
        | (clear t5; refine at_new 23 64 arrB (by rfl) (by rfl) ?_; intro g14 w8 a14 z14 r14 b8)
        | (clear t6; refine at_put 23 64 arrB (by rfl) _ _ (by rfl) g14 (by rfl) b.l (by rfl) hb _ r14 (by simp) ?_; intro U rU sU
           have S4 : Stp (fun _ => False) V U := (Stp.of_below (bnext b7 b8 (Nat.le_refl _)) (fun _ => False)).next sU (fun x hx => .inr (by subst hx; have := b7.size; omega))
           have BU := S4.below (Nat.le_refl _) (fun _ h => h.elim)
           have rb4 := rb3.later BU
           have rA4 := rA3.later BU
           have rT4 := y12.later BU
           have B4 := bnext B BU (Nat.le_refl _)
           clear S4 BU rb3 rA3 y12 B sU r14 b7 b8 a14 z14)
        | (clear t7; refine at_getB (by rfl) _ (by rfl) g14 (by rfl) b rU ?_)
        | (refine at_getB (by rfl) _ (by rfl) g3 (by rfl) b rb4 ?_))
        have hcap : n ≤ 9223372036854775807 := by omega
        have PU := P.later B4
        have BW := bnext B3 B4 (Nat.le_refl _)
        have hbl : Hid (Below w.heap.size w U) := BW
        clear P B3 B4 BW hle hkn heq rU rb4 hb hO hA
        go_loopw [16] (fun v wr => ∃ j : Nat, j ≤ n ∧ v = .int .i64 (j : Int) ∧ wr = U ∧ ∀ p ∈ (pts L).take j, p.kind ≠ 0) (fun v _ => n - (intOf v).toNat)
        case atStart => exact ⟨0, Nat.zero_le _, rfl, rfl, fun p hp => by cases hp⟩
        case round =>
          obtain ⟨j, hj, rfl, hwr, hno⟩ := hrel
          subst hwr
          by_cases hjn : j < n
          · have a9 : (j : Int) < (n : Int) := by omega
            obtain ⟨bb, o, e1, _, hcell⟩ := PU.cell (by simpa using (by omega : 0 < n))
            simp only at e1
            subst e1
            obtain ⟨X, hX⟩ : ∃ X, L[j]? = some X := ⟨L[j]'(by have := hnl.out; omega), List.getElem?_eq_getElem _⟩
            obtain ⟨d0, d1, d2, d3, d4, d5, d6, d7, d8⟩ := Pe.at9 (hcell j X hX)
            have hg : (pts L)[j]? = some X.p := by unfold pts; rw [List.getElem?_map, hX]; rfl
            clear d0 d1 d2 d3 d5 d6 d7 d8 hcell
            by_cases hk0 : X.p.kind = 0
            · rw [hk0] at d4
              go_wp2_with fail
              go_returns
              exact ⟨rfl, hbl.out⟩
            · go_wp2_with fail
              go_roundw
              case rel =>
                refine ⟨j + 1, by omega, by go_num, by simp, fun p hp => ?_⟩
                rw [List.take_add_one, hg] at hp
                rcases List.mem_append.1 hp with hp | hp
                · exact hno p hp
                · have : p = X.p := by simpa using hp
                  rw [this]; exact hk0
              case measure => simp [intOf]; omega
          · have a9 : ¬ (j : Int) < (n : Int) := by omega
            have hsm := hSm (fun p hp => hno p (by rw [List.take_of_length_le (by rw [pts_len]; have := hnl.out; omega)]; exact hp))
            rw [hsm] at HS
            clear hSm hno hsm
            go_wp2_with (first
              | (refine at_getB (by rfl) _ (by rfl) g8 (by rfl) A rA4 ?_)
              | (refine at_getB (by rfl) _ (by rfl) g12 (by rfl) T rT4 ?_)
              | (go_at_call 26; refine (HS _).mono ?_; rintro e w9 ⟨rfl, b9⟩))
            go_returns
            exact ⟨rfl, bnext hbl.out b9 (Nat.le_refl _)⟩
    clear hK2
    refine wpAnyH_take (i := 0) (oi := { dst := some 41, op := Op.load 23 (Operand.tmp 10), type := 23, pos := _, after := #[], guard := none }) (v := .agg O.cs.toArray) rfl (by kernel_rfl) (by kernel_rfl) (by kernel_rfl) (fun _ _ _ h => h)
      (yields_row 23 64 arrB (by rfl) (.tmp 10) rfl g10 (by rfl) O.l hO (fun u hu => y10.later hu)) hHeld ?_
    try simp only [Act.put, List.setIfInBounds_toArray, List.set_cons_zero, List.set_cons_succ]
    refine wpAnyH_take (i := 1) (oi := { dst := some 42, op := Op.move (Operand.tmp 1), type := 39, pos := _, after := #[], guard := none }) (v := .slice sa n sc) rfl (by kernel_rfl) (by kernel_rfl) (by kernel_rfl) (fun _ _ _ h => h) (Or.inl ⟨by rfl, ?_⟩) hHeld ?_
    · intro u hu
      go_simp
    try simp only [Act.put, List.setIfInBounds_toArray, List.set_cons_zero, List.set_cons_succ]
    refine wpAnyH_take (i := 2) (oi := { dst := some 43, op := Op.move (Operand.tmp 7), type := 3, pos := _, after := #[], guard := none }) (v := .int .i64 (k : Int)) rfl (by kernel_rfl) (by kernel_rfl) (by kernel_rfl) (fun _ _ _ h => h) (Or.inl ⟨by rfl, ?_⟩) hHeld ?_
    · intro u hu
      go_simp
    try simp only [Act.put, List.setIfInBounds_toArray, List.set_cons_zero, List.set_cons_succ]
    refine wpAnyH_take (i := 3) (oi := { dst := some 44, op := Op.slice 39 (Operand.tmp 42) (some (Operand.tmp 43)) none none, type := 39, pos := _, after := #[{ on := 1, ground := Ground.data }, { on := 2, ground := Ground.data }], guard := none }) (v := .slice ta n2 c2) rfl (by kernel_rfl) (by kernel_rfl) (by kernel_rfl) (fun _ _ _ h => h) (Or.inl ⟨by rfl, ?_⟩) hHeld ?_
    · intro u hu
      go_simp
    try simp only [Act.put, List.setIfInBounds_toArray, List.set_cons_zero, List.set_cons_succ]
    refine wpAnyH_ready (rs := [4, 8]) (by kernel_rfl) (by simp) ?_
    refine (AllReadyH.cons (o := { dst := some 45, op := Op.call { callee := Callee.value (Operand.func 17), args := #[Operand.tmp 41, Operand.tmp 44], argTypes := #[23, 39] }, type := 31, pos := _, after := #[{ on := 0, ground := Ground.data }, { on := 3, ground := Ground.data }], guard := none }) rfl (fun K hK => ?_) (AllReadyH.cons (o := { dst := some 12, op := Op.alloc 23, type := 0, pos := _, after := #[], guard := none }) rfl (fun K hK => ?_) AllReadyH.nil))
    · skip
      go_simp
      refine (HN2 _ (bnext BW2 hHeld (Nat.le_refl _))).mono ?_
      rintro e v4 ⟨rfl, c4⟩
      try go_wp2_with fail
      try (have y8 := y8.later c4)
      refine hK.out _ _ (bnext hHeld c4 (Nat.le_refl _)) (fun hHeld => ?_)
      clear hK K
      try simp only [Act.put, List.setIfInBounds_toArray, List.set_cons_zero, List.set_cons_succ]
      refine wpAnyH_take (i := 5) (oi := { dst := some 40, op := Op.move (Operand.tmp 45), type := 31, pos := _, after := #[{ on := 4, ground := Ground.data }], guard := none }) (v := .tuple #[.agg T.cs.toArray, .int .i64 g0]) rfl (by kernel_rfl) (by kernel_rfl) (by kernel_rfl) (fun _ _ _ h => h) (Or.inl ⟨by rfl, ?_⟩) hHeld ?_
      · intro u hu
        go_simp
      try simp only [Act.put, List.setIfInBounds_toArray, List.set_cons_zero, List.set_cons_succ]
      refine wpAnyH_take (i := 6) (oi := { dst := some 46, op := Op.extract (Operand.tmp 40) 0, type := 23, pos := _, after := #[{ on := 5, ground := Ground.data }], guard := none }) (v := .agg T.cs.toArray) rfl (by kernel_rfl) (by kernel_rfl) (by kernel_rfl) (fun _ _ _ h => h) (Or.inl ⟨by rfl, ?_⟩) hHeld ?_
      · intro u hu
        go_simp
      try simp only [Act.put, List.setIfInBounds_toArray, List.set_cons_zero, List.set_cons_succ]
      refine wpAnyH_take (i := 7) (oi := { dst := some 47, op := Op.extract (Operand.tmp 40) 1, type := 30, pos := _, after := #[{ on := 5, ground := Ground.data }, { on := 9, ground := Ground.gcOnly Departure.lateStores }], guard := none }) (v := .int .i64 g0) rfl (by kernel_rfl) (by kernel_rfl) (by kernel_rfl) (fun _ _ _ h => h) (Or.inl ⟨by rfl, ?_⟩) hHeld ?_
      · intro u hu
        go_simp
      try simp only [Act.put, List.setIfInBounds_toArray, List.set_cons_zero, List.set_cons_succ]
      refine wpAnyH_ready (rs := [8]) (by kernel_rfl) (by simp) ?_
      refine (AllReadyH.cons (o := { dst := some 12, op := Op.alloc 23, type := 0, pos := _, after := #[], guard := none }) rfl (fun K hK => ?_) AllReadyH.nil)
      refine step_new 23 64 arrB rfl rfl ?_
      intro g12 v8 a8 z8 y8 b8
      have m8 : W2.heap.size ≤ g12 := Nat.le_trans hHeld.size a8
      refine hK.out _ _ (bnext hHeld b8 (Nat.le_refl _)) (fun hHeld => ?_)
      clear hK K
      try simp only [Act.put, List.setIfInBounds_toArray, List.set_cons_zero, List.set_cons_succ]
      refine wpAnyH_ready (rs := [9]) (by kernel_rfl) (by simp) ?_
      refine (AllReadyH.cons (o := { dst := none, op := Op.store 23 (Operand.tmp 12) (Operand.tmp 46), type := 0, pos := _, after := #[{ on := 8, ground := Ground.data }, { on := 6, ground := Ground.data }, { on := 4, ground := Ground.chain }, { on := 0, ground := Ground.phase }, { on := 1, ground := Ground.phase }, { on := 2, ground := Ground.phase }, { on := 3, ground := Ground.phase }, { on := 4, ground := Ground.phase }, { on := 5, ground := Ground.phase }, { on := 6, ground := Ground.phase }, { on := 7, ground := Ground.textOnly Departure.lateStores }, { on := 8, ground := Ground.phase }], guard := none }) rfl (fun K hK => ?_) AllReadyH.nil)
      refine step_put 23 64 arrB rfl (.tmp 12) (.tmp 46) rfl g12 (by rfl) T.l (by rfl) hT _ y8 (by simp) ?_
      intro v9 y9 s9
      refine hK.out _ _ (((Stp.of_below hHeld (fun x => W2.heap.size ≤ x)).next s9 (fun x hx => .inl (by subst hx; exact m8))).below (Nat.le_refl _) (fun _ h => h)) (fun hHeld => ?_)
      clear hK K
      try simp only [Act.put]
      refine wpAnyH_take (i := 10) (oi := { dst := some 13, op := Op.assign (Operand.tmp 47), type := 30, pos := _, after := #[{ on := 7, ground := Ground.data }, { on := 9, ground := Ground.chain }, { on := 0, ground := Ground.phase }, { on := 1, ground := Ground.phase }, { on := 2, ground := Ground.phase }, { on := 3, ground := Ground.phase }, { on := 4, ground := Ground.phase }, { on := 5, ground := Ground.phase }, { on := 6, ground := Ground.phase }, { on := 7, ground := Ground.phase }, { on := 8, ground := Ground.phase }, { on := 9, ground := Ground.phase }], guard := none }) (v := .int .i64 g0) rfl (by kernel_rfl) (by kernel_rfl) (by kernel_rfl) (fun _ _ _ h => h) (Or.inl ⟨by rfl, ?_⟩) hHeld ?_
      · intro u hu
        go_simp
      try simp only [Act.put, List.setIfInBounds_toArray, List.set_cons_zero, List.set_cons_succ]
      refine wpAnyH_done (by kernel_rfl) ?_ _
      exact tail2 g12 v9 y9 hHeld
    · skip
      refine step_new 23 64 arrB rfl rfl ?_
      intro g12 v8 a8 z8 y8 b8
      have m8 : W2.heap.size ≤ g12 := Nat.le_trans hHeld.size a8
      refine hK.out _ _ (bnext hHeld b8 (Nat.le_refl _)) (fun hHeld => ?_)
      clear hK K
      try simp only [Act.put, List.setIfInBounds_toArray, List.set_cons_zero, List.set_cons_succ]
      refine wpAnyH_ready (rs := [4]) (by kernel_rfl) (by simp) ?_
      refine (AllReadyH.cons (o := { dst := some 45, op := Op.call { callee := Callee.value (Operand.func 17), args := #[Operand.tmp 41, Operand.tmp 44], argTypes := #[23, 39] }, type := 31, pos := _, after := #[{ on := 0, ground := Ground.data }, { on := 3, ground := Ground.data }], guard := none }) rfl (fun K hK => ?_) AllReadyH.nil)
      go_simp
      refine (HN2 _ (bnext BW2 hHeld (Nat.le_refl _))).mono ?_
      rintro e v4 ⟨rfl, c4⟩
      try go_wp2_with fail
      try (have y8 := y8.later c4)
      refine hK.out _ _ (bnext hHeld c4 (Nat.le_refl _)) (fun hHeld => ?_)
      clear hK K
      try simp only [Act.put, List.setIfInBounds_toArray, List.set_cons_zero, List.set_cons_succ]
      refine wpAnyH_take (i := 5) (oi := { dst := some 40, op := Op.move (Operand.tmp 45), type := 31, pos := _, after := #[{ on := 4, ground := Ground.data }], guard := none }) (v := .tuple #[.agg T.cs.toArray, .int .i64 g0]) rfl (by kernel_rfl) (by kernel_rfl) (by kernel_rfl) (fun _ _ _ h => h) (Or.inl ⟨by rfl, ?_⟩) hHeld ?_
      · intro u hu
        go_simp
      try simp only [Act.put, List.setIfInBounds_toArray, List.set_cons_zero, List.set_cons_succ]
      refine wpAnyH_take (i := 6) (oi := { dst := some 46, op := Op.extract (Operand.tmp 40) 0, type := 23, pos := _, after := #[{ on := 5, ground := Ground.data }], guard := none }) (v := .agg T.cs.toArray) rfl (by kernel_rfl) (by kernel_rfl) (by kernel_rfl) (fun _ _ _ h => h) (Or.inl ⟨by rfl, ?_⟩) hHeld ?_
      · intro u hu
        go_simp
      try simp only [Act.put, List.setIfInBounds_toArray, List.set_cons_zero, List.set_cons_succ]
      refine wpAnyH_take (i := 7) (oi := { dst := some 47, op := Op.extract (Operand.tmp 40) 1, type := 30, pos := _, after := #[{ on := 5, ground := Ground.data }, { on := 9, ground := Ground.gcOnly Departure.lateStores }], guard := none }) (v := .int .i64 g0) rfl (by kernel_rfl) (by kernel_rfl) (by kernel_rfl) (fun _ _ _ h => h) (Or.inl ⟨by rfl, ?_⟩) hHeld ?_
      · intro u hu
        go_simp
      try simp only [Act.put, List.setIfInBounds_toArray, List.set_cons_zero, List.set_cons_succ]
      refine wpAnyH_ready (rs := [9]) (by kernel_rfl) (by simp) ?_
      refine (AllReadyH.cons (o := { dst := none, op := Op.store 23 (Operand.tmp 12) (Operand.tmp 46), type := 0, pos := _, after := #[{ on := 8, ground := Ground.data }, { on := 6, ground := Ground.data }, { on := 4, ground := Ground.chain }, { on := 0, ground := Ground.phase }, { on := 1, ground := Ground.phase }, { on := 2, ground := Ground.phase }, { on := 3, ground := Ground.phase }, { on := 4, ground := Ground.phase }, { on := 5, ground := Ground.phase }, { on := 6, ground := Ground.phase }, { on := 7, ground := Ground.textOnly Departure.lateStores }, { on := 8, ground := Ground.phase }], guard := none }) rfl (fun K hK => ?_) AllReadyH.nil)
      refine step_put 23 64 arrB rfl (.tmp 12) (.tmp 46) rfl g12 (by rfl) T.l (by rfl) hT _ y8 (by simp) ?_
      intro v9 y9 s9
      refine hK.out _ _ (((Stp.of_below hHeld (fun x => W2.heap.size ≤ x)).next s9 (fun x hx => .inl (by subst hx; exact m8))).below (Nat.le_refl _) (fun _ h => h)) (fun hHeld => ?_)
      clear hK K
      try simp only [Act.put]
      refine wpAnyH_take (i := 10) (oi := { dst := some 13, op := Op.assign (Operand.tmp 47), type := 30, pos := _, after := #[{ on := 7, ground := Ground.data }, { on := 9, ground := Ground.chain }, { on := 0, ground := Ground.phase }, { on := 1, ground := Ground.phase }, { on := 2, ground := Ground.phase }, { on := 3, ground := Ground.phase }, { on := 4, ground := Ground.phase }, { on := 5, ground := Ground.phase }, { on := 6, ground := Ground.phase }, { on := 7, ground := Ground.phase }, { on := 8, ground := Ground.phase }, { on := 9, ground := Ground.phase }], guard := none }) (v := .int .i64 g0) rfl (by kernel_rfl) (by kernel_rfl) (by kernel_rfl) (fun _ _ _ h => h) (Or.inl ⟨by rfl, ?_⟩) hHeld ?_
      · intro u hu
        go_simp
      try simp only [Act.put, List.setIfInBounds_toArray, List.set_cons_zero, List.set_cons_succ]
      refine wpAnyH_done (by kernel_rfl) ?_ _
      exact tail2 g12 v9 y9 hHeld
  clear hK1
  refine wpAnyH_take (i := 0) (oi := { dst := some 33, op := Op.load 23 (Operand.tmp 3), type := 23, pos := _, after := #[], guard := none }) (v := .agg b.cs.toArray) rfl (by kernel_rfl) (by kernel_rfl) (by kernel_rfl) (fun _ _ _ h => h)
    (yields_row 23 64 arrB (by rfl) (.tmp 3) rfl g3 (by rfl) b.l hb (fun u hu => rb1.later hu)) hHeld ?_
  try simp only [Act.put, List.setIfInBounds_toArray, List.set_cons_zero, List.set_cons_succ]
  refine wpAnyH_take (i := 1) (oi := { dst := some 34, op := Op.move (Operand.tmp 1), type := 39, pos := _, after := #[], guard := none }) (v := .slice sa n sc) rfl (by kernel_rfl) (by kernel_rfl) (by kernel_rfl) (fun _ _ _ h => h) (Or.inl ⟨by rfl, ?_⟩) hHeld ?_
  · intro u hu
    go_simp
  try simp only [Act.put, List.setIfInBounds_toArray, List.set_cons_zero, List.set_cons_succ]
  refine wpAnyH_take (i := 2) (oi := { dst := some 35, op := Op.move (Operand.tmp 7), type := 3, pos := _, after := #[], guard := none }) (v := .int .i64 (k : Int)) rfl (by kernel_rfl) (by kernel_rfl) (by kernel_rfl) (fun _ _ _ h => h) (Or.inl ⟨by rfl, ?_⟩) hHeld ?_
  · intro u hu
    go_simp
  try simp only [Act.put, List.setIfInBounds_toArray, List.set_cons_zero, List.set_cons_succ]
  refine wpAnyH_take (i := 3) (oi := { dst := some 36, op := Op.slice 39 (Operand.tmp 34) none (some (Operand.tmp 35)) none, type := 39, pos := _, after := #[{ on := 1, ground := Ground.data }, { on := 2, ground := Ground.data }], guard := none }) (v := .slice ha k sc) rfl (by kernel_rfl) (by kernel_rfl) (by kernel_rfl) (fun _ _ _ h => h) (Or.inl ⟨by rfl, ?_⟩) hHeld ?_
  · intro u hu
    go_simp
  try simp only [Act.put, List.setIfInBounds_toArray, List.set_cons_zero, List.set_cons_succ]
  refine wpAnyH_ready (rs := [4, 8]) (by kernel_rfl) (by simp) ?_
  refine (AllReadyH.cons (o := { dst := some 37, op := Op.call { callee := Callee.value (Operand.func 17), args := #[Operand.tmp 33, Operand.tmp 36], argTypes := #[23, 39] }, type := 31, pos := _, after := #[{ on := 0, ground := Ground.data }, { on := 3, ground := Ground.data }], guard := none }) rfl (fun K hK => ?_) (AllReadyH.cons (o := { dst := some 10, op := Op.alloc 23, type := 0, pos := _, after := #[], guard := none }) rfl (fun K hK => ?_) AllReadyH.nil))
  · skip
    go_simp
    refine (HN1 _ (bnext BW1 hHeld (Nat.le_refl _))).mono ?_
    rintro e v4 ⟨rfl, c4⟩
    try go_wp2_with fail
    try (have y8 := y8.later c4)
    refine hK.out _ _ (bnext hHeld c4 (Nat.le_refl _)) (fun hHeld => ?_)
    clear hK K
    try simp only [Act.put, List.setIfInBounds_toArray, List.set_cons_zero, List.set_cons_succ]
    refine wpAnyH_take (i := 5) (oi := { dst := some 32, op := Op.move (Operand.tmp 37), type := 31, pos := _, after := #[{ on := 4, ground := Ground.data }], guard := none }) (v := .tuple #[.agg O.cs.toArray, .int .i64 f0]) rfl (by kernel_rfl) (by kernel_rfl) (by kernel_rfl) (fun _ _ _ h => h) (Or.inl ⟨by rfl, ?_⟩) hHeld ?_
    · intro u hu
      go_simp
    try simp only [Act.put, List.setIfInBounds_toArray, List.set_cons_zero, List.set_cons_succ]
    refine wpAnyH_take (i := 6) (oi := { dst := some 38, op := Op.extract (Operand.tmp 32) 0, type := 23, pos := _, after := #[{ on := 5, ground := Ground.data }], guard := none }) (v := .agg O.cs.toArray) rfl (by kernel_rfl) (by kernel_rfl) (by kernel_rfl) (fun _ _ _ h => h) (Or.inl ⟨by rfl, ?_⟩) hHeld ?_
    · intro u hu
      go_simp
    try simp only [Act.put, List.setIfInBounds_toArray, List.set_cons_zero, List.set_cons_succ]
    refine wpAnyH_take (i := 7) (oi := { dst := some 39, op := Op.extract (Operand.tmp 32) 1, type := 30, pos := _, after := #[{ on := 5, ground := Ground.data }, { on := 9, ground := Ground.gcOnly Departure.lateStores }], guard := none }) (v := .int .i64 f0) rfl (by kernel_rfl) (by kernel_rfl) (by kernel_rfl) (fun _ _ _ h => h) (Or.inl ⟨by rfl, ?_⟩) hHeld ?_
    · intro u hu
      go_simp
    try simp only [Act.put, List.setIfInBounds_toArray, List.set_cons_zero, List.set_cons_succ]
    refine wpAnyH_ready (rs := [8]) (by kernel_rfl) (by simp) ?_
    refine (AllReadyH.cons (o := { dst := some 10, op := Op.alloc 23, type := 0, pos := _, after := #[], guard := none }) rfl (fun K hK => ?_) AllReadyH.nil)
    refine step_new 23 64 arrB rfl rfl ?_
    intro g10 v8 a8 z8 y8 b8
    have m8 : W1.heap.size ≤ g10 := Nat.le_trans hHeld.size a8
    refine hK.out _ _ (bnext hHeld b8 (Nat.le_refl _)) (fun hHeld => ?_)
    clear hK K
    try simp only [Act.put, List.setIfInBounds_toArray, List.set_cons_zero, List.set_cons_succ]
    refine wpAnyH_ready (rs := [9]) (by kernel_rfl) (by simp) ?_
    refine (AllReadyH.cons (o := { dst := none, op := Op.store 23 (Operand.tmp 10) (Operand.tmp 38), type := 0, pos := _, after := #[{ on := 8, ground := Ground.data }, { on := 6, ground := Ground.data }, { on := 4, ground := Ground.chain }, { on := 0, ground := Ground.phase }, { on := 1, ground := Ground.phase }, { on := 2, ground := Ground.phase }, { on := 3, ground := Ground.phase }, { on := 4, ground := Ground.phase }, { on := 5, ground := Ground.phase }, { on := 6, ground := Ground.phase }, { on := 7, ground := Ground.textOnly Departure.lateStores }, { on := 8, ground := Ground.phase }], guard := none }) rfl (fun K hK => ?_) AllReadyH.nil)
    refine step_put 23 64 arrB rfl (.tmp 10) (.tmp 38) rfl g10 (by rfl) O.l (by rfl) hO _ y8 (by simp) ?_
    intro v9 y9 s9
    refine hK.out _ _ (((Stp.of_below hHeld (fun x => W1.heap.size ≤ x)).next s9 (fun x hx => .inl (by subst hx; exact m8))).below (Nat.le_refl _) (fun _ h => h)) (fun hHeld => ?_)
    clear hK K
    try simp only [Act.put]
    refine wpAnyH_take (i := 10) (oi := { dst := some 11, op := Op.assign (Operand.tmp 39), type := 30, pos := _, after := #[{ on := 7, ground := Ground.data }, { on := 9, ground := Ground.chain }, { on := 0, ground := Ground.phase }, { on := 1, ground := Ground.phase }, { on := 2, ground := Ground.phase }, { on := 3, ground := Ground.phase }, { on := 4, ground := Ground.phase }, { on := 5, ground := Ground.phase }, { on := 6, ground := Ground.phase }, { on := 7, ground := Ground.phase }, { on := 8, ground := Ground.phase }, { on := 9, ground := Ground.phase }], guard := none }) (v := .int .i64 f0) rfl (by kernel_rfl) (by kernel_rfl) (by kernel_rfl) (fun _ _ _ h => h) (Or.inl ⟨by rfl, ?_⟩) hHeld ?_
    · intro u hu
      go_simp
    try simp only [Act.put, List.setIfInBounds_toArray, List.set_cons_zero, List.set_cons_succ]
    refine wpAnyH_done (by kernel_rfl) ?_ _
    exact tail1 g10 v9 y9 hHeld
  · skip
    refine step_new 23 64 arrB rfl rfl ?_
    intro g10 v8 a8 z8 y8 b8
    have m8 : W1.heap.size ≤ g10 := Nat.le_trans hHeld.size a8
    refine hK.out _ _ (bnext hHeld b8 (Nat.le_refl _)) (fun hHeld => ?_)
    clear hK K
    try simp only [Act.put, List.setIfInBounds_toArray, List.set_cons_zero, List.set_cons_succ]
    refine wpAnyH_ready (rs := [4]) (by kernel_rfl) (by simp) ?_
    refine (AllReadyH.cons (o := { dst := some 37, op := Op.call { callee := Callee.value (Operand.func 17), args := #[Operand.tmp 33, Operand.tmp 36], argTypes := #[23, 39] }, type := 31, pos := _, after := #[{ on := 0, ground := Ground.data }, { on := 3, ground := Ground.data }], guard := none }) rfl (fun K hK => ?_) AllReadyH.nil)
    go_simp
    refine (HN1 _ (bnext BW1 hHeld (Nat.le_refl _))).mono ?_
    rintro e v4 ⟨rfl, c4⟩
    try go_wp2_with fail
    try (have y8 := y8.later c4)
    refine hK.out _ _ (bnext hHeld c4 (Nat.le_refl _)) (fun hHeld => ?_)
    clear hK K
    try simp only [Act.put, List.setIfInBounds_toArray, List.set_cons_zero, List.set_cons_succ]
    refine wpAnyH_take (i := 5) (oi := { dst := some 32, op := Op.move (Operand.tmp 37), type := 31, pos := _, after := #[{ on := 4, ground := Ground.data }], guard := none }) (v := .tuple #[.agg O.cs.toArray, .int .i64 f0]) rfl (by kernel_rfl) (by kernel_rfl) (by kernel_rfl) (fun _ _ _ h => h) (Or.inl ⟨by rfl, ?_⟩) hHeld ?_
    · intro u hu
      go_simp
    try simp only [Act.put, List.setIfInBounds_toArray, List.set_cons_zero, List.set_cons_succ]
    refine wpAnyH_take (i := 6) (oi := { dst := some 38, op := Op.extract (Operand.tmp 32) 0, type := 23, pos := _, after := #[{ on := 5, ground := Ground.data }], guard := none }) (v := .agg O.cs.toArray) rfl (by kernel_rfl) (by kernel_rfl) (by kernel_rfl) (fun _ _ _ h => h) (Or.inl ⟨by rfl, ?_⟩) hHeld ?_
    · intro u hu
      go_simp
    try simp only [Act.put, List.setIfInBounds_toArray, List.set_cons_zero, List.set_cons_succ]
    refine wpAnyH_take (i := 7) (oi := { dst := some 39, op := Op.extract (Operand.tmp 32) 1, type := 30, pos := _, after := #[{ on := 5, ground := Ground.data }, { on := 9, ground := Ground.gcOnly Departure.lateStores }], guard := none }) (v := .int .i64 f0) rfl (by kernel_rfl) (by kernel_rfl) (by kernel_rfl) (fun _ _ _ h => h) (Or.inl ⟨by rfl, ?_⟩) hHeld ?_
    · intro u hu
      go_simp
    try simp only [Act.put, List.setIfInBounds_toArray, List.set_cons_zero, List.set_cons_succ]
    refine wpAnyH_ready (rs := [9]) (by kernel_rfl) (by simp) ?_
    refine (AllReadyH.cons (o := { dst := none, op := Op.store 23 (Operand.tmp 10) (Operand.tmp 38), type := 0, pos := _, after := #[{ on := 8, ground := Ground.data }, { on := 6, ground := Ground.data }, { on := 4, ground := Ground.chain }, { on := 0, ground := Ground.phase }, { on := 1, ground := Ground.phase }, { on := 2, ground := Ground.phase }, { on := 3, ground := Ground.phase }, { on := 4, ground := Ground.phase }, { on := 5, ground := Ground.phase }, { on := 6, ground := Ground.phase }, { on := 7, ground := Ground.textOnly Departure.lateStores }, { on := 8, ground := Ground.phase }], guard := none }) rfl (fun K hK => ?_) AllReadyH.nil)
    refine step_put 23 64 arrB rfl (.tmp 10) (.tmp 38) rfl g10 (by rfl) O.l (by rfl) hO _ y8 (by simp) ?_
    intro v9 y9 s9
    refine hK.out _ _ (((Stp.of_below hHeld (fun x => W1.heap.size ≤ x)).next s9 (fun x hx => .inl (by subst hx; exact m8))).below (Nat.le_refl _) (fun _ h => h)) (fun hHeld => ?_)
    clear hK K
    try simp only [Act.put]
    refine wpAnyH_take (i := 10) (oi := { dst := some 11, op := Op.assign (Operand.tmp 39), type := 30, pos := _, after := #[{ on := 7, ground := Ground.data }, { on := 9, ground := Ground.chain }, { on := 0, ground := Ground.phase }, { on := 1, ground := Ground.phase }, { on := 2, ground := Ground.phase }, { on := 3, ground := Ground.phase }, { on := 4, ground := Ground.phase }, { on := 5, ground := Ground.phase }, { on := 6, ground := Ground.phase }, { on := 7, ground := Ground.phase }, { on := 8, ground := Ground.phase }, { on := 9, ground := Ground.phase }], guard := none }) (v := .int .i64 f0) rfl (by kernel_rfl) (by kernel_rfl) (by kernel_rfl) (fun _ _ _ h => h) (Or.inl ⟨by rfl, ?_⟩) hHeld ?_
    · intro u hu
      go_simp
    try simp only [Act.put, List.setIfInBounds_toArray, List.set_cons_zero, List.set_cons_succ]
    refine wpAnyH_done (by kernel_rfl) ?_ _
    exact tail1 g10 v9 y9 hHeld

theorem own : ownKnob Try.prog.godebug = none := by kernel_rfl
theorem laidOut : laidOutB Try.prog = true := by kernel_rfl
set_option maxRecDepth 100000 in
theorem lifted (os : Os) (started : os.Started) (H : Type) (enc : TypeId × Value → H) :
    ReturnsInHanded {} Try.checked os 5 .any (Rows.rollOnSpec.pre6 enc Try.prog Try.f5 Rows.rollOnRow.domain false) (Rows.rollOnSpec.post enc Try.prog Try.f5 false true false false) := by
  refine returnsInHanded_of_change (C := Try.checked) own started (by kernel_rfl) Try.func5
    (ChangeSpec.witness6 (enc := enc) (C := Try.checked) false ⟨#[], #[.agg Blk.zero.cs.toArray, .slice none 0 0, .int .i64 0], []⟩ 8 (by kernel_rfl) (by kernel_rfl) (by kernel_rfl) (by kernel_rfl)) ?_
  intro W base args ds gs before hval0 hW hcnd _
  have hval : ∀ (j : Nat) t v, Try.f5.params[j]? = some t → args[j]? = some v → Value.okWide Try.prog W .any base t v := hval0
  have hW' := hW
  obtain ⟨p, q, hA0, hV, rfl, hfz, hnd⟩ := hW
  have hA : DataW.TrodAll enc Try.prog W 0 (fun _ => true) true Try.f5.params.toList args.toList ds p := hA0
  rw [Try.params5] at hA hval
  obtain ⟨v0, vs0, d0, ds0, p0, q0, hargs, rfl, rfl, h0, r0⟩ := trodAll_cons hA
  obtain ⟨v1, vs1, d1, ds1, p1, q1, rfl, rfl, rfl, h1, r1⟩ := trodAll_cons r0
  obtain ⟨v2, vs2, d2, ds2, p2, q2, rfl, rfl, rfl, h2, r2⟩ := trodAll_cons r1
  obtain ⟨rfl, rfl, rfl⟩ := trodAll_nil r2
  obtain rfl : args = #[v0, v1, v2] := by cases args; simp_all
  obtain ⟨rfl, rfl⟩ := trodVars_none hV
  obtain ⟨cs0, rfl, _⟩ := okWide_row arrB.und (hval 0 23 v0 rfl rfl)
  have k0 := h0
  have lt0 : ∀ x ∈ p0, x.block < W.heap.size := by obtain ⟨m, hm⟩ := k0; exact DataW.trod_lt m _ _ _ hm
  obtain ⟨b0, e0⟩ : ∃ b : Blk, cs0 = b.cs.toArray := by
    obtain ⟨fuel, hf⟩ := h0
    obtain ⟨b, hb⟩ := blkOfTrod hf
    exact ⟨b, by rw [hb]; simp [Value.cells]⟩
  subst e0
  obtain ⟨a1, len1, cap1, rfl⟩ := okWide_slice Try.underlying39 (hval 1 39 v1 rfl rfl)
  have k1 := h1
  have lt1 : ∀ x ∈ p1, x.block < W.heap.size := by obtain ⟨m, hm⟩ := k1; exact DataW.trod_lt m _ _ _ hm
  obtain ⟨z1, w1⟩ : ∃ zs, Ps W (fun x => x < W.heap.size) ⟨a1, len1, cap1⟩ zs := by
    obtain ⟨fuel, hf⟩ := h1
    obtain ⟨a, n, c, l, hcs, hi⟩ := pts_of_trod hf
    simp [Value.cells] at hcs
    obtain ⟨rfl, rfl, rfl⟩ := hcs
    exact ⟨_, hi⟩
  obtain ⟨a2, rfl, rfl, rfl, w2⟩ := open_int Try.underlying3 (hval 2 3 v2 rfl rfl) h2
  clear hA0 hval0
  refine (walk b0 a1 len1 cap1 z1 a2 W w1 w2).mono fun e W' ⟨he, bel⟩ => ?_
  subst he
  exact ⟨_, rfl, _, _, _, [], _, [], hW', trodAll_mk1 (shut_bool Try.underlying4 _), (trodAll_cons_mk (Below.trod laidOut (by kernel_rfl) (of_decide_eq_true (by kernel_rfl)) k0 bel lt0) (trodAll_cons_mk (Below.trod laidOut (by kernel_rfl) (of_decide_eq_true (by kernel_rfl)) k1 bel lt1) (trodAll_cons_mk (shut_int Try.underlying3 w2) trodAll_mk0))), rfl, bel.frame _, fun h => by cases h⟩
theorem over : Rows.rollOnRow.holds Try.pinned (OpenSpec.ofChange Rows.rollOnSpec) :=
  OpenClaim.holds_of_wide 5 Try.f5 rfl rfl rfl rfl rfl rfl rfl ⟨rfl, rfl, rfl, rfl, rfl⟩ rfl rfl rfl rfl rfl (by kernel_rfl) Try.func5 (by kernel_rfl)
    (of_decide_eq_true (by kernel_rfl)) (by unfold Func.isWrapper; first | (rw [if_pos (by decide +kernel)]; kernel_rfl) | (rw [if_neg (by decide +kernel)]; exact ⟨rfl, rfl⟩))
    (fun os started H enc _ => lifted os started H enc)
end Go.Proofs.Yteceapdkgidenaa.rollOn
namespace Go.Proofs.Yteceapdkgidenaa
/-- The statement. -/
theorem rollOn_holds : Rows.RollOnSaid := rollOn.over
#print axioms rollOn_holds
end Go.Proofs.Yteceapdkgidenaa
