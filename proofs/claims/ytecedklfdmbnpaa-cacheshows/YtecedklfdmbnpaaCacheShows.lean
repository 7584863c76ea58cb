/-
  The statement CacheShows, proved: for every size and every slice of acts the law returns true, and what came in reads as it did; no condition.
-/
import Derived.Test.YtecedklfdmbnpaaCacN
namespace Go.Proofs.Ytecedklfdmbnpaa.cacheShows
open Go.ChangeShapes Go.WideShapes Go.ChangeAt Go.RowKit
set_option linter.unusedVariables false
set_option linter.unusedSimpArgs false

/-- What the loop keeps. -/
structure ShI (W : World) (gc g gl N i : Nat) (wr : World) (Z : CZ) (U : Nat → Prop) (L : List Blk) : Prop where
  c : Ca wr gc g (.pointer none) Z U
  ok : Z.ok (100 * i)
  sh : Shw Z
  n : Z.n = N
  la : Cs wr gl (flat L)
  l6 : L.length = 6
  lv : ∀ k : Nat, k < 6 → L.getD k Blk.zero = Z.val k
  ul : ∀ x, U x → W.heap.size ≤ x
  ug : ¬ U gl
  gl : W.heap.size ≤ gl
  b : Below W.heap.size W wr
section
variable {W wr w1 w2 w3 : World} {gc g gl N i k : Nat} {Z Z' : CZ} {U U' : Nat → Prop} {L : List Blk} {b : Blk}
theorem ShI.later (I : ShI W gc g gl N i wr Z U L) (b1 : Below wr.heap.size wr w1) : ShI W gc g gl N i w1 Z U L :=
  ⟨I.c.later b1, I.ok, I.sh, I.n, I.la.later b1, I.l6, I.lv, I.ul, I.ug, I.gl, bnext I.b b1 (Nat.le_refl _)⟩
theorem ShI.own (I : ShI W gc g gl N i wr Z U L) {x : Nat} (s : Stp (fun y => y = x) wr w1) (h1 : ¬ U x) (h2 : W.heap.size ≤ x) (h3 : x ≠ gl) : ShI W gc g gl N i w1 Z U L :=
  ⟨I.c.step s (fun y hy e => h1 (e ▸ hy)), I.ok, I.sh, I.n, I.la.step s (Ne.symm h3), I.l6, I.lv, I.ul, I.ug, I.gl, ((Stp.of_below I.b (fun x => W.heap.size ≤ x)).next s (fun y e => .inl (e ▸ h2))).below (Nat.le_refl _) (fun _ h => h)⟩
theorem ShI.turn (I : ShI W gc g gl N i wr Z U L) (c : Ca w2 gc g (.pointer none) Z' U') (s : Stp U wr w2) (gr : Grew U U' wr w2) (ok : Z'.ok (100 * (i + 1))) (sh : Shw Z') (n : Z'.n = Z.n) (hv : ∀ k, Z'.val k = Z.val k) : ShI W gc g gl N (i + 1) w2 Z' U' L := by
  refine ⟨c, ok, sh, n.trans I.n, I.la.step s I.ug, I.l6, fun k hk => by rw [hv]; exact I.lv k hk, fun x hx => ?_, fun e => ?_, I.gl, ((Stp.of_below I.b (fun x => W.heap.size ≤ x)).next s (fun x e => .inl (I.ul x e))).below (Nat.le_refl _) (fun _ h => h)⟩
  · rcases gr x hx with e | e
    · exact I.ul x e
    · exact Nat.le_trans I.b.size e.1
  · rcases gr gl e with e | e
    · exact I.ug e
    · have := I.la.lt; omega
theorem ShI.put (I : ShI W gc g gl N i wr Z U L) (c : Ca w2 gc g (.pointer none) Z' U') (s : Stp U wr w2) (gr : Grew U U' wr w2) (ok : Z'.ok (100 * (i + 1))) (sh : Shw Z') (n : Z'.n = Z.n) (hk : k < 6) (hv : ∀ j : Int, Z'.val j = if j = k then b else Z.val j)
    (s3 : Stp (fun x => x = gl) w2 w3) (h3 : Cs w3 gl (flat (L.set k b))) : ShI W gc g gl N (i + 1) w3 Z' U' (L.set k b) := by
  have ug' : ¬ U' gl := fun e => by
    rcases gr gl e with e | e
    · exact I.ug e
    · have := I.la.lt; omega
  refine ⟨c.step s3 (fun x hx e => ug' (e ▸ hx)), ok, sh, n.trans I.n, h3, by rw [List.length_set]; exact I.l6, fun j hj => ?_, fun x hx => ?_, ug', I.gl, (((Stp.of_below I.b (fun x => W.heap.size ≤ x)).next s (fun x e => .inl (I.ul x e))).next s3 (fun x e => .inl (e ▸ I.gl))).below (Nat.le_refl _) (fun _ h => h)⟩
  · rw [hv, List.getD_eq_getElem?_getD]
    by_cases e : j = k
    · subst e
      rw [List.getElem?_set_self (by rw [I.l6]; exact hj), if_pos rfl]; rfl
    · rw [List.getElem?_set_ne (Ne.symm e), if_neg (by omega), ← List.getD_eq_getElem?_getD]
      exact I.lv j hj
  · rcases gr x hx with e | e
    · exact I.ul x e
    · exact Nat.le_trans I.b.size e.1
end
theorem hold_n (Z : CZ) (i : Int) : (Z.hold i).n = Z.n := by
  unfold CZ.hold
  split
  · split
    · rfl
    · split
      · exact room_n Z
      · exact room_n Z
  · rfl
theorem put_n (Z : CZ) (i : Int) (b : Blk) : (Z.put i b).n = Z.n := by
  unfold CZ.put; split
  · exact hold_n Z i
  · exact hold_n Z i
theorem force_n' (Z : CZ) (i : Int) (b : Blk) : (Z.force i b).n = Z.n := by
  unfold CZ.force; split
  · exact hold_n Z i
  · exact hold_n Z i
theorem sync_n : ∀ (L : List Int) (Z : CZ), (CZ.syncL L Z).2.n = Z.n
  | [], Z => rfl
  | i :: r, Z => by
    rw [syncL_cons]
    split
    · rw [sync_n r, back_n]
    · exact back_n Z i
set_option maxRecDepth 100000 in
set_option maxHeartbeats 4000000 in
theorem walk (s : Int) (a : Option Addr) (n c : Nat) (l : List A3) (W : World) (ws : (Lit.int .u8 s).wf = true) (wa : A3s W a n c l) :
    Calls Try.prog 4 #[.int .u8 s, .slice a n c] W fun e w' => e = .returned (.bool true) ∧ Below W.heap.size W w' := by
  have hs : 0 ≤ s ∧ s ≤ 255 := by simp [Lit.wf, IntKind.min, IntKind.max, IntKind.bits, IntKind.signed] at ws; omega
  have hne := wa.len
  obtain ⟨m, hm0, hm1, hm2⟩ : ∃ m : Nat, s.tmod 8 = (m : Int) ∧ s % 8 = (m : Int) ∧ m < 8 := ⟨(s % 8).toNat, by rw [Int.tmod_eq_emod_of_nonneg hs.1]; omega, by omega, by omega⟩
  obtain ⟨N, hN⟩ : ∃ N : Nat, N = m + 1 := ⟨_, rfl⟩
  have eN : (1 : Int) + (m : Int) = (N : Int) := by omega
  have eW : IntKind.i64.wrap ((1 : Int) + (m : Int)) = (N : Int) := by rw [IntKind.wrap_i64]; omega
  have hN1 : 1 ≤ N := by omega
  have hN2 : N ≤ 64 := by omega
  have hNH : Hid (N = m + 1) := hN
  clear hN hs
  have e36 := eq36
  have g36 := guard36
  go_enter Try.func4, Try.ntmps4
  go_wp2_with fail
  refine (cworks_any _).mono ?_
  rintro e w1 ⟨rfl, b1⟩
  have hD0 := new_any 6 none w1 (by omega) (by omega)
  go_wp2_with fail
  refine hD0.mono ?_
  rintro e w2 ⟨rfl, b2, s2, d2⟩
  have hD : DD w2 (w1.heap.size + 2) (.pointer none) (DS.new 6) none (fun x => w1.heap.size ≤ x ∧ x < w1.heap.size + 3) (fun _ => False) := ⟨d2, rfl, fun _ _ => id, fun _ h => h.elim⟩
  have hC := cnew_ca hD N hN1 hN2
  have s2' : Hid (w2.heap.size = w1.heap.size + 3) := s2
  generalize w1.heap.size + 2 = g at *
  clear hD0 s2 d2
  go_wp2_with fail
  refine hC.mono ?_
  rintro e w3 ⟨gc, U, rfl, c3, b3, u3'⟩
  have B2 : Below W.heap.size W w2 := bnext b1 b2 (Nat.le_refl _)
  have B3 : Below W.heap.size W w3 := bnext B2 b3 (Nat.le_refl _)
  have hU : ∀ x, U x → W.heap.size ≤ x := fun x hx => by
    rcases u3' x hx with e | e | e
    · exact Nat.le_trans b1.size e.1
    · exact e.elim
    · exact Nat.le_trans B2.size e
  clear hC hD b1 b2 b3 u3' s2'
  go_wp2_with (first
    | (refine at_bld60 (by rfl) (by rfl) ?_)
    | (refine at_new60 (by rfl) (by rfl) ?_; intro gl w4 a4 l4 r4 b4)
    | (refine at_put60 (by rfl) _ _ (by rfl) gl (by rfl) (by rfl) r4 ?_; intro w5 r5 s5))
  have start : ShI W gc g gl N 0 w5 (CZ.new (DS.new 6) none N) U six := by
    have hug : ¬ U gl := fun e => by have := c3.lt gl e; omega
    have hgl : W.heap.size ≤ gl := Nat.le_trans B3.size a4
    refine ⟨(c3.later b4).step s5 (fun x hx e => hug (e ▸ hx)), (CZ.new_ok (t := 0) hN1 hN2 (fun i => Nat.le_refl _) (fun s h => by cases h)).mono (by omega), ⟨rfl, rfl, (fun e he => by cases he), (fun k q hk => by cases hk)⟩, rfl, r5, rfl, fun k hk => ?_, hU, hug, hgl, ((Stp.of_below (bnext B3 b4 (Nat.le_refl _)) (fun x => W.heap.size ≤ x)).next s5 (fun x e => .inl (e ▸ hgl))).below (Nat.le_refl _) (fun _ h => h)⟩
    have : k = 0 ∨ k = 1 ∨ k = 2 ∨ k = 3 ∨ k = 4 ∨ k = 5 := by omega
    rcases this with rfl | rfl | rfl | rfl | rfl | rfl <;> rfl
  clear B2 B3 hU c3 b4 r4 r5 s5
  go_loopw [10] (fun v wr => ∃ i : Nat, i ≤ 80 ∧ v = .int .i64 (i : Int) ∧ ∃ Z U L, ShI W gc g gl N i wr Z U L) (fun v _ => 80 - (intOf v).toNat)
  case atStart => exact ⟨0, by omega, rfl, _, _, _, start⟩
  case round =>
    clear start
    obtain ⟨i, hi80, rfl, Z, U', L, I⟩ := hrel
    by_cases hlt : i < n ∧ i < 80
    · obtain ⟨hin, hi8⟩ := hlt
      have hin' : (i : Int) < (n : Int) := by omega
      have hi8' : (i : Int) < 80 := by omega
      obtain ⟨ab, ao, rfl, hac⟩ := (wa.later I.b).cell (by omega)
      obtain ⟨x, hx, hrx, hxo⟩ := hac i hin
      have hm6 : among x.t 6 < 6 := among_lt _ _ (by omega)
      have hm14 : among x.d 14 < 14 := among_lt _ _ (by omega)
      have am1 := fun w => among_any x.t 6 w (by omega) (by omega)
      have am2 := fun w => among_any x.d 14 w (by omega) (by omega)
      generalize among x.t 6 = k at *
      generalize hmm : among x.d 14 = mm at *
      have hkw : (Lit.int .i64 ((k : Nat) : Int)).wf = true := by simp [Lit.wf, IntKind.min, IntKind.max, IntKind.bits, IntKind.signed]; omega
      have hinn : Z.d.inn (k : Int) := by unfold DS.inn; rw [I.sh.n6]; omega
      have t9 : 100 * i ≤ 9000 := by omega
      /- the cases, printed by a program of mine (@CASES) -/
      have hk0 : (0 : Int) ≤ (k : Int) := by omega
      have hk6 : (k : Int) < 6 := by omega
      have hcase : mm = 3 ∨ mm = 4 ∨ mm = 5 ∨ mm = 13 ∨ mm = 8 ∨ mm = 9 ∨ (¬ (mm : Int) = 3 ∧ ¬ (mm : Int) = 4 ∧ ¬ (mm : Int) = 5 ∧ ¬ (mm : Int) = 13 ∧ ¬ (mm : Int) = 8 ∧ ¬ (mm : Int) = 9) := by omega
      clear hmm hm14
      rcases hcase with rfl | rfl | rfl | rfl | rfl | rfl | ⟨q1, q2, q3, q4, q5, q6⟩
      · go_wp2_with (first
          | (refine at_getA (by rfl) _ (by rfl) ab _ (by rfl) x hrx ?_)
          | (refine at_newA (by rfl) (by rfl) ?_; intro ga w6 a6 l6 r6 b6)
          | (refine at_putA (by rfl) _ _ (by rfl) ga (by rfl) x (by rfl) _ r6 ?_; intro w7 r7 s7
             have hga : ¬ U' ga := fun e => by have := I.c.lt ga e; omega
             have hgw : W.heap.size ≤ ga := Nat.le_trans I.b.size a6
             have hgg : ga ≠ gl := fun e => by have := I.la.lt; omega
             have I7 := (I.later b6).own s7 hga hgw hgg
             have x0 := A3.c0 r7
             have x1 := A3.c1 r7
             have rg := A3.rng r7
             have hP := put_ca I7.c I.ok t9 (k : Int) hkw x.b
             rw [(I.sh.hold I.ok hinn).1] at hP
             clear r6 b6 s7)
          | (go_at_call 23; refine (am1 _).mono ?_; rintro e u ⟨rfl, rfl⟩; clear am1)
          | (go_at_call 23; refine (am2 _).mono ?_; rintro e u ⟨rfl, rfl⟩; clear am2)
          | (refine at_load (by rfl) _ (by rfl) ga 2 (by rfl) x.b rg ?_)
          | (go_at_call 24; refine hP.mono ?_; rintro e w8 ⟨rfl, U8, c8, s8, g8⟩
             have la8 := I7.la.step s8 I7.ug
             have rg8 := A3.rng (r7.step s8 hga)
             clear rg hP)
          | (refine at_load (by rfl) _ (by rfl) ga 2 (by rfl) x.b rg8 ?_)
          | (refine at_putK (by rfl) _ _ (by rfl) gl k (by rfl) x.b (by rfl) L la8 (by rw [I.l6]; exact hm6) ?_; intro w9 r9 s9))
        go_roundw
        case rel => exact ⟨i + 1, by omega, by go_num, _, _, _, I7.put c8 s8 g8 ((I.ok.put _ _).mono (by omega)) (I.sh.put I.ok hinn x.b).1 (put_n _ _ _) hm6 (I.sh.put I.ok hinn x.b).2 s9 r9⟩
        case measure => simp [intOf]; omega
      · go_wp2_with (first
          | (refine at_getA (by rfl) _ (by rfl) ab _ (by rfl) x hrx ?_)
          | (refine at_newA (by rfl) (by rfl) ?_; intro ga w6 a6 l6 r6 b6)
          | (refine at_putA (by rfl) _ _ (by rfl) ga (by rfl) x (by rfl) _ r6 ?_; intro w7 r7 s7
             have hga : ¬ U' ga := fun e => by have := I.c.lt ga e; omega
             have hgw : W.heap.size ≤ ga := Nat.le_trans I.b.size a6
             have hgg : ga ≠ gl := fun e => by have := I.la.lt; omega
             have I7 := (I.later b6).own s7 hga hgw hgg
             have x0 := A3.c0 r7
             have x1 := A3.c1 r7
             have rg := A3.rng r7
             have hP := put_ca I7.c I.ok t9 (k : Int) hkw x.b
             rw [(I.sh.hold I.ok hinn).1] at hP
             clear r6 b6 s7)
          | (go_at_call 23; refine (am1 _).mono ?_; rintro e u ⟨rfl, rfl⟩; clear am1)
          | (go_at_call 23; refine (am2 _).mono ?_; rintro e u ⟨rfl, rfl⟩; clear am2)
          | (refine at_load (by rfl) _ (by rfl) ga 2 (by rfl) x.b rg ?_)
          | (go_at_call 24; refine hP.mono ?_; rintro e w8 ⟨rfl, U8, c8, s8, g8⟩
             have la8 := I7.la.step s8 I7.ug
             have rg8 := A3.rng (r7.step s8 hga)
             clear rg hP)
          | (refine at_load (by rfl) _ (by rfl) ga 2 (by rfl) x.b rg8 ?_)
          | (refine at_putK (by rfl) _ _ (by rfl) gl k (by rfl) x.b (by rfl) L la8 (by rw [I.l6]; exact hm6) ?_; intro w9 r9 s9))
        go_roundw
        case rel => exact ⟨i + 1, by omega, by go_num, _, _, _, I7.put c8 s8 g8 ((I.ok.put _ _).mono (by omega)) (I.sh.put I.ok hinn x.b).1 (put_n _ _ _) hm6 (I.sh.put I.ok hinn x.b).2 s9 r9⟩
        case measure => simp [intOf]; omega
      · go_wp2_with (first
          | (refine at_getA (by rfl) _ (by rfl) ab _ (by rfl) x hrx ?_)
          | (refine at_newA (by rfl) (by rfl) ?_; intro ga w6 a6 l6 r6 b6)
          | (refine at_putA (by rfl) _ _ (by rfl) ga (by rfl) x (by rfl) _ r6 ?_; intro w7 r7 s7
             have hga : ¬ U' ga := fun e => by have := I.c.lt ga e; omega
             have hgw : W.heap.size ≤ ga := Nat.le_trans I.b.size a6
             have hgg : ga ≠ gl := fun e => by have := I.la.lt; omega
             have I7 := (I.later b6).own s7 hga hgw hgg
             have x0 := A3.c0 r7
             have x1 := A3.c1 r7
             have rg := A3.rng r7
             have hP := put_ca I7.c I.ok t9 (k : Int) hkw x.b
             rw [(I.sh.hold I.ok hinn).1] at hP
             clear r6 b6 s7)
          | (go_at_call 23; refine (am1 _).mono ?_; rintro e u ⟨rfl, rfl⟩; clear am1)
          | (go_at_call 23; refine (am2 _).mono ?_; rintro e u ⟨rfl, rfl⟩; clear am2)
          | (refine at_load (by rfl) _ (by rfl) ga 2 (by rfl) x.b rg ?_)
          | (go_at_call 24; refine hP.mono ?_; rintro e w8 ⟨rfl, U8, c8, s8, g8⟩
             have la8 := I7.la.step s8 I7.ug
             have rg8 := A3.rng (r7.step s8 hga)
             clear rg hP)
          | (refine at_load (by rfl) _ (by rfl) ga 2 (by rfl) x.b rg8 ?_)
          | (refine at_putK (by rfl) _ _ (by rfl) gl k (by rfl) x.b (by rfl) L la8 (by rw [I.l6]; exact hm6) ?_; intro w9 r9 s9))
        go_roundw
        case rel => exact ⟨i + 1, by omega, by go_num, _, _, _, I7.put c8 s8 g8 ((I.ok.put _ _).mono (by omega)) (I.sh.put I.ok hinn x.b).1 (put_n _ _ _) hm6 (I.sh.put I.ok hinn x.b).2 s9 r9⟩
        case measure => simp [intOf]; omega
      · go_wp2_with (first
          | (refine at_getA (by rfl) _ (by rfl) ab _ (by rfl) x hrx ?_)
          | (refine at_newA (by rfl) (by rfl) ?_; intro ga w6 a6 l6 r6 b6)
          | (refine at_putA (by rfl) _ _ (by rfl) ga (by rfl) x (by rfl) _ r6 ?_; intro w7 r7 s7
             have hga : ¬ U' ga := fun e => by have := I.c.lt ga e; omega
             have hgw : W.heap.size ≤ ga := Nat.le_trans I.b.size a6
             have hgg : ga ≠ gl := fun e => by have := I.la.lt; omega
             have I7 := (I.later b6).own s7 hga hgw hgg
             have x0 := A3.c0 r7
             have x1 := A3.c1 r7
             have rg := A3.rng r7
             have hP := force_ca I7.c I.ok t9 (k : Int) hkw x.b
             rw [(I.sh.force I.ok hinn x.b).1] at hP
             clear r6 b6 s7)
          | (go_at_call 23; refine (am1 _).mono ?_; rintro e u ⟨rfl, rfl⟩; clear am1)
          | (go_at_call 23; refine (am2 _).mono ?_; rintro e u ⟨rfl, rfl⟩; clear am2)
          | (refine at_load (by rfl) _ (by rfl) ga 2 (by rfl) x.b rg ?_)
          | (go_at_call 25; refine hP.mono ?_; rintro e w8 ⟨rfl, U8, c8, s8, g8⟩
             have la8 := I7.la.step s8 I7.ug
             have rg8 := A3.rng (r7.step s8 hga)
             clear rg hP)
          | (refine at_load (by rfl) _ (by rfl) ga 2 (by rfl) x.b rg8 ?_)
          | (refine at_putK (by rfl) _ _ (by rfl) gl k (by rfl) x.b (by rfl) L la8 (by rw [I.l6]; exact hm6) ?_; intro w9 r9 s9))
        go_roundw
        case rel => exact ⟨i + 1, by omega, by go_num, _, _, _, I7.put c8 s8 g8 ((I.ok.force _ _).mono (by omega)) (I.sh.force I.ok hinn x.b).2.1 (force_n' _ _ _) hm6 (I.sh.force I.ok hinn x.b).2.2 s9 r9⟩
        case measure => simp [intOf]; omega
      · go_wp2_with (first
          | (refine at_getA (by rfl) _ (by rfl) ab _ (by rfl) x hrx ?_)
          | (refine at_newA (by rfl) (by rfl) ?_; intro ga w6 a6 l6 r6 b6)
          | (refine at_putA (by rfl) _ _ (by rfl) ga (by rfl) x (by rfl) _ r6 ?_; intro w7 r7 s7
             have hga : ¬ U' ga := fun e => by have := I.c.lt ga e; omega
             have hgw : W.heap.size ≤ ga := Nat.le_trans I.b.size a6
             have hgg : ga ≠ gl := fun e => by have := I.la.lt; omega
             have I7 := (I.later b6).own s7 hga hgw hgg
             have x0 := A3.c0 r7
             have x1 := A3.c1 r7
             have rg := A3.rng r7
             have hP := back_ca I7.c I.ok t9 (k : Int) hkw
             clear r6 b6 s7)
          | (go_at_call 23; refine (am1 _).mono ?_; rintro e u ⟨rfl, rfl⟩; clear am1)
          | (go_at_call 23; refine (am2 _).mono ?_; rintro e u ⟨rfl, rfl⟩; clear am2)
          | (go_at_call 26; refine hP.mono ?_; rintro e w8 ⟨rfl, U8, c8, s8, g8⟩))
        go_roundw
        case rel => exact ⟨i + 1, by omega, by go_num, _, _, _, I7.turn c8 s8 g8 ((I.ok.back _).mono (by omega)) (I.sh.back I.ok _).1 (back_n _ _) (I.sh.back I.ok _).2.1⟩
        case measure => simp [intOf]; omega
      · obtain ⟨y1, y2, y3, y4, y5⟩ := I.sh.sync I.ok
        have hyo := CZ.ok.syncL Z.chg I.ok
        have hyl := chg_len I.ok
        have hyn := sync_n Z.chg Z
        go_wp2_with (first
          | (refine at_getA (by rfl) _ (by rfl) ab _ (by rfl) x hrx ?_)
          | (refine at_newA (by rfl) (by rfl) ?_; intro ga w6 a6 l6 r6 b6)
          | (refine at_putA (by rfl) _ _ (by rfl) ga (by rfl) x (by rfl) _ r6 ?_; intro w7 r7 s7
             have hga : ¬ U' ga := fun e => by have := I.c.lt ga e; omega
             have hgw : W.heap.size ≤ ga := Nat.le_trans I.b.size a6
             have hgg : ga ≠ gl := fun e => by have := I.la.lt; omega
             have I7 := (I.later b6).own s7 hga hgw hgg
             have x0 := A3.c0 r7
             have x1 := A3.c1 r7
             have rg := A3.rng r7
             have hP := sync_ca I7.c I.ok t9
             rw [y1] at hP
             clear r6 b6 s7)
          | (go_at_call 23; refine (am1 _).mono ?_; rintro e u ⟨rfl, rfl⟩; clear am1)
          | (go_at_call 23; refine (am2 _).mono ?_; rintro e u ⟨rfl, rfl⟩; clear am2)
          | (go_at_call 27; refine hP.mono ?_; rintro e w8 ⟨rfl, U8, c8, s8, g8⟩
             have I8 := I7.turn c8 s8 g8 (hyo.mono (by omega)) y2 hyn y3
             have hQ := changed_ca c8 hyo
             rw [y4] at hQ
             clear hP)
          | (go_at_call 17; refine hQ.mono ?_; rintro e w9 ⟨v9, rfl, o9, b9⟩
             obtain ⟨a9, c9, hv9⟩ : ∃ a c, v9 = .slice a 0 c := by
               rcases o9.row with ⟨e, _⟩ | ⟨g0, cap, cur, e, _⟩
               · exact ⟨_, _, e⟩
               · exact ⟨_, _, e⟩
             subst hv9
             clear hQ))
        have I9 := I8.later b9
        have hsh : ∀ j : Nat, j < 6 → (CZ.syncL Z.chg Z).2.d.shown (j : Int) = L.getD j Blk.zero := fun j hj => by rw [y5, I.lv j hj]
        have hdn : (CZ.syncL Z.chg Z).2.d.n = 6 := y2.n6
        generalize (CZ.syncL Z.chg Z).2 = Y at *
        clear I8 I7 b9 o9 c8 s8 g8 r7 rg x0 x1
        go_loopw [13] (fun v wr => ∃ j : Nat, j ≤ 6 ∧ v = .int .i64 (j : Int) ∧ ShI W gc g gl N (i + 1) wr Y U8 L) (fun v _ => 6 - (intOf v).toNat)
        case atStart => exact ⟨0, by omega, rfl, I9⟩
        case round =>
          clear I9
          obtain ⟨j, hj6, rfl, J⟩ := hrel
          by_cases hjl : j < 6
          · have hjl' : (j : Int) < 6 := by omega
            have hjw : (Lit.int .i64 (j : Int)).wf = true := by simp [Lit.wf, IntKind.min, IntKind.max, IntKind.bits, IntKind.signed]; omega
            have hR := read_ca J.c (j : Int) hjw
            rw [hsh j hjl] at hR
            generalize checkErr Y.d (j : Int) = ce at *
            have hq := eq36 (L.getD j Blk.zero) (L.getD j Blk.zero)
            have hjr := fun (u : World) (h : Cs u gl (flat L)) => L6.range h j (by rw [J.l6]; exact hjl)
            generalize L.getD j Blk.zero = bj at *
            rw [decide_eq_true rfl] at hq
            go_wp2_with (first
              | (go_at_call 20; refine hR.mono ?_; rintro e w10 ⟨rfl, b10⟩
                 have J10 := J.later b10
                 clear hR)
              | (refine at_newB (by rfl) (by rfl) ?_; intro gb w11 a11 l11 r11 b11)
              | (refine at_putB (by rfl) _ _ (by rfl) gb (by rfl) bj (by rfl) _ r11 ?_; intro w12 r12 s12
                 have hgb : ¬ U8 gb := fun e => by have := J10.c.lt gb e; omega
                 have J12 := (J10.later b11).own s12 hgb (Nat.le_trans J10.b.size a11) (fun e => by have := J10.la.lt; omega)
                 clear r11 b11 s12 J10))
            have hS : ∀ u, Below w12.heap.size w12 u → (u.rangeAt gb 0 bj.cs ∧ u.rangeAt gl (j * 64) bj.cs) := fun u hu => ⟨(r12.later hu).range, hjr u (J12.la.later hu)⟩
            refine wp_region_held_drew (S := fun u => u.rangeAt gb 0 bj.cs ∧ u.rangeAt gl (j * 64) bj.cs) (by kernel_rfl) (hS _ (Below.refl _ _).drew) (fun hHeld => ?_)
            refine wpAnyH_take (i := 0) (oi := { dst := some 123, op := Op.load 42 (Operand.tmp 14), type := 42, pos := _, after := #[], guard := none }) (v := .agg bj.cs.toArray) rfl (by kernel_rfl) (by kernel_rfl) (by kernel_rfl) (fun _ _ _ h => h)
              (yields_B (by rfl) _ (by rfl) gb 0 (by rfl) bj (fun u hu => hu.1)) hHeld ?_
            try simp only [Act.put, List.setIfInBounds_toArray, List.set_cons_zero, List.set_cons_succ]
            refine wpAnyH_take (i := 1) (oi := { dst := some 124, op := Op.move (Operand.tmp 13), type := 3, pos := _, after := #[], guard := none }) (v := .int .i64 (j : Int)) rfl (by kernel_rfl) (by kernel_rfl) (by kernel_rfl) (fun _ _ _ h => h) (Or.inl ⟨by rfl, ?_⟩) hHeld ?_
            · intro u hu
              go_simp
            try simp only [Act.put, List.setIfInBounds_toArray, List.set_cons_zero, List.set_cons_succ]
            refine wpAnyH_take (i := 2) (oi := { dst := some 125, op := Op.indexAddr 60 (Operand.tmp 9) (Operand.tmp 124), type := 0, pos := _, after := #[{ on := 1, ground := Ground.data }], guard := none }) (v := .pointer (some ⟨gl, j * 64, none⟩)) rfl (by kernel_rfl) (by kernel_rfl) (by kernel_rfl) (fun _ _ _ h => h) (Or.inl ⟨by rfl, ?_⟩) hHeld ?_
            · intro u hu
              go_simp
            try simp only [Act.put, List.setIfInBounds_toArray, List.set_cons_zero, List.set_cons_succ]
            refine wpAnyH_take (i := 3) (oi := { dst := some 126, op := Op.load 42 (Operand.tmp 125), type := 42, pos := _, after := #[{ on := 2, ground := Ground.data }], guard := none }) (v := .agg bj.cs.toArray) rfl (by kernel_rfl) (by kernel_rfl) (by kernel_rfl) (fun _ _ _ h => h)
              (yields_B (by rfl) _ (by rfl) gl (j * 64) (by rfl) bj (fun u hu => hu.2)) hHeld ?_
            try simp only [Act.put, List.setIfInBounds_toArray, List.set_cons_zero, List.set_cons_succ]
            refine wpAnyH_take (i := 4) (oi := { dst := some 127, op := Op.binOp BinOp.neq 42 (Operand.tmp 123) (Operand.tmp 126) 42, type := 4, pos := _, after := #[{ on := 0, ground := Ground.data }, { on := 3, ground := Ground.data }], guard := none }) (v := .bool false) rfl (by kernel_rfl) (by kernel_rfl) (by kernel_rfl) (fun _ _ _ h => h) (Or.inl ⟨by rfl, ?_⟩) hHeld ?_
            · intro u hu
              go_simp
            try simp only [Act.put, List.setIfInBounds_toArray, List.set_cons_zero, List.set_cons_succ]
            refine wpAnyH_done (by kernel_rfl) ?_ _
            go_wp2
            go_roundw
            case rel => exact ⟨j + 1, by omega, by go_num, J12.later (by go_grown)⟩
            case measure => simp [intOf]; omega
          · obtain rfl : j = 6 := by omega
            go_wp2
            go_roundw
            case rel => exact ⟨i + 1, by omega, by go_num, _, _, _, J⟩
            case measure => simp [intOf]; omega
      · have hkr := fun (u : World) (h : Cs u gl (flat L)) => L6.range h k (by rw [I.l6]; exact hm6)
        have hgv : Z.got (k : Int) = L.getD k Blk.zero := by rw [I.sh.got I.ok hinn, I.lv k hm6]
        have hq := eq36 (L.getD k Blk.zero) (L.getD k Blk.zero)
        go_wp2_with (first
          | (refine at_getA (by rfl) _ (by rfl) ab _ (by rfl) x hrx ?_)
          | (refine at_newA (by rfl) (by rfl) ?_; intro ga w6 a6 l6 r6 b6)
          | (refine at_putA (by rfl) _ _ (by rfl) ga (by rfl) x (by rfl) _ r6 ?_; intro w7 r7 s7
             have hga : ¬ U' ga := fun e => by have := I.c.lt ga e; omega
             have hgw : W.heap.size ≤ ga := Nat.le_trans I.b.size a6
             have hgg : ga ≠ gl := fun e => by have := I.la.lt; omega
             have I7 := (I.later b6).own s7 hga hgw hgg
             have x0 := A3.c0 r7
             have x1 := A3.c1 r7
             have rg := A3.rng r7
             have hP := get_ca I7.c I.ok t9 (k : Int) hkw
             rw [(I.sh.hold I.ok hinn).1, hgv] at hP
             generalize L.getD k Blk.zero = bk at *
             rw [decide_eq_true rfl] at hq
             clear r6 b6 s7)
          | (go_at_call 23; refine (am1 _).mono ?_; rintro e u ⟨rfl, rfl⟩; clear am1)
          | (go_at_call 23; refine (am2 _).mono ?_; rintro e u ⟨rfl, rfl⟩; clear am2)
          | (go_at_call 28; refine hP.mono ?_; rintro e w8 ⟨rfl, U8, c8, s8, g8⟩
             have I8 := I7.turn c8 s8 g8 ((I.ok.hold _).mono (by omega)) (I.sh.hold I.ok hinn).2.1 (hold_n _ _) (I.sh.hold I.ok hinn).2.2
             clear hP)
          | (refine at_newB (by rfl) (by rfl) ?_; intro gb w11 a11 l11 r11 b11)
          | (refine at_putB (by rfl) _ _ (by rfl) gb (by rfl) bk (by rfl) _ r11 ?_; intro w12 r12 s12
             have hgb : ¬ U8 gb := fun e => by have := I8.c.lt gb e; omega
             have I12 := (I8.later b11).own s12 hgb (Nat.le_trans I8.b.size a11) (fun e => by have := I8.la.lt; omega)
             clear r11 b11 s12 I8))
        have hS : ∀ u, Below w12.heap.size w12 u → (u.rangeAt gb 0 bk.cs ∧ u.rangeAt gl (k * 64) bk.cs) := fun u hu => ⟨(r12.later hu).range, hkr u (I12.la.later hu)⟩
        refine wp_region_held_drew (S := fun u => u.rangeAt gb 0 bk.cs ∧ u.rangeAt gl (k * 64) bk.cs) (by kernel_rfl) (hS _ (Below.refl _ _).drew) (fun hHeld => ?_)
        refine wpAnyH_take (i := 0) (oi := { dst := some 62, op := Op.load 42 (Operand.tmp 16), type := 42, pos := _, after := #[], guard := none }) (v := .agg bk.cs.toArray) rfl (by kernel_rfl) (by kernel_rfl) (by kernel_rfl) (fun _ _ _ h => h)
          (yields_B (by rfl) _ (by rfl) gb 0 (by rfl) bk (fun u hu => hu.1)) hHeld ?_
        try simp only [Act.put, List.setIfInBounds_toArray, List.set_cons_zero, List.set_cons_succ]
        refine wpAnyH_take (i := 1) (oi := { dst := some 63, op := Op.move (Operand.tmp 12), type := 3, pos := _, after := #[], guard := none }) (v := .int .i64 (k : Int)) rfl (by kernel_rfl) (by kernel_rfl) (by kernel_rfl) (fun _ _ _ h => h) (Or.inl ⟨by rfl, ?_⟩) hHeld ?_
        · intro u hu
          go_simp
        try simp only [Act.put, List.setIfInBounds_toArray, List.set_cons_zero, List.set_cons_succ]
        refine wpAnyH_take (i := 2) (oi := { dst := some 64, op := Op.indexAddr 60 (Operand.tmp 9) (Operand.tmp 63), type := 0, pos := _, after := #[{ on := 1, ground := Ground.data }], guard := none }) (v := .pointer (some ⟨gl, k * 64, none⟩)) rfl (by kernel_rfl) (by kernel_rfl) (by kernel_rfl) (fun _ _ _ h => h) (Or.inl ⟨by rfl, ?_⟩) hHeld ?_
        · intro u hu
          go_simp
        try simp only [Act.put, List.setIfInBounds_toArray, List.set_cons_zero, List.set_cons_succ]
        refine wpAnyH_take (i := 3) (oi := { dst := some 65, op := Op.load 42 (Operand.tmp 64), type := 42, pos := _, after := #[{ on := 2, ground := Ground.data }], guard := none }) (v := .agg bk.cs.toArray) rfl (by kernel_rfl) (by kernel_rfl) (by kernel_rfl) (fun _ _ _ h => h)
          (yields_B (by rfl) _ (by rfl) gl (k * 64) (by rfl) bk (fun u hu => hu.2)) hHeld ?_
        try simp only [Act.put, List.setIfInBounds_toArray, List.set_cons_zero, List.set_cons_succ]
        refine wpAnyH_take (i := 4) (oi := { dst := some 66, op := Op.binOp BinOp.neq 42 (Operand.tmp 62) (Operand.tmp 65) 42, type := 4, pos := _, after := #[{ on := 0, ground := Ground.data }, { on := 3, ground := Ground.data }], guard := none }) (v := .bool false) rfl (by kernel_rfl) (by kernel_rfl) (by kernel_rfl) (fun _ _ _ h => h) (Or.inl ⟨by rfl, ?_⟩) hHeld ?_
        · intro u hu
          go_simp
        try simp only [Act.put, List.setIfInBounds_toArray, List.set_cons_zero, List.set_cons_succ]
        refine wpAnyH_take (i := 5) (oi := { dst := some 67, op := Op.move (Operand.tmp 66), type := 4, pos := _, after := #[{ on := 4, ground := Ground.data }], guard := none }) (v := .bool false) rfl (by kernel_rfl) (by kernel_rfl) (by kernel_rfl) (fun _ _ _ h => h) (Or.inl ⟨by rfl, ?_⟩) hHeld ?_
        · intro u hu
          go_simp
        try simp only [Act.put, List.setIfInBounds_toArray, List.set_cons_zero, List.set_cons_succ]
        refine wpAnyH_take (i := 6) (oi := { dst := some 68, op := Op.move (Operand.tmp 17), type := 28, pos := _, after := #[{ on := 5, ground := Ground.guard }], guard := some (5, false) }) (v := .int .i64 0) rfl (by kernel_rfl) (by kernel_rfl) (by kernel_rfl) (fun _ _ _ h => h) (Or.inl ⟨by rfl, ?_⟩) hHeld ?_
        · intro u hu
          go_simp
        try simp only [Act.put, List.setIfInBounds_toArray, List.set_cons_zero, List.set_cons_succ]
        refine wpAnyH_take (i := 7) (oi := { dst := some 69, op := Op.binOp BinOp.neq 28 (Operand.tmp 68) (Operand.const (Value.int IntKind.i64 0)) 28, type := 4, pos := _, after := #[{ on := 6, ground := Ground.data }, { on := 5, ground := Ground.guard }], guard := some (5, false) }) (v := .bool false) rfl (by kernel_rfl) (by kernel_rfl) (by kernel_rfl) (fun _ _ _ h => h) (Or.inl ⟨by rfl, ?_⟩) hHeld ?_
        · intro u hu
          go_simp
        try simp only [Act.put, List.setIfInBounds_toArray, List.set_cons_zero, List.set_cons_succ]
        refine wpAnyH_take (i := 8) (oi := { dst := some 70, op := Op.pick (Operand.tmp 67) (Operand.const (Value.bool true)) (Operand.tmp 69), type := 4, pos := _, after := #[{ on := 5, ground := Ground.data }, { on := 7, ground := Ground.data }], guard := none }) (v := .bool false) rfl (by kernel_rfl) (by kernel_rfl) (by kernel_rfl) (fun _ _ _ h => h) (Or.inl ⟨by rfl, ?_⟩) hHeld ?_
        · intro u hu
          go_simp
        try simp only [Act.put, List.setIfInBounds_toArray, List.set_cons_zero, List.set_cons_succ]
        refine wpAnyH_done (by kernel_rfl) ?_ _
        go_wp2
        go_roundw
        case rel => exact ⟨i + 1, by omega, by go_num, _, _, _, I12.later (by go_grown)⟩
        case measure => simp [intOf]; omega
    · have hend : ¬ ((i : Int) < (n : Int)) ∨ ¬ ((i : Int) < 80) := by omega
      have hH := held_ca I.c I.ok
      have hln : (keys Z.l).length ≤ N := by rw [keys_len, ← I.n]; exact I.ok.len
      have fin : ∀ (w9 : World) (v9 : Value), OwV w9 v9 (keys Z.l) → ∃ a c, v9 = .slice a (keys Z.l).length c := fun w9 v9 o9 => by
        rcases o9.row with ⟨e, e2⟩ | ⟨g0, cap, cur, e, _⟩
        · exact ⟨_, _, by rw [e2]; exact e⟩
        · exact ⟨_, _, e⟩
      generalize keys Z.l = K at *
      have hln' : (K.length : Int) ≤ (N : Int) := by omega
      by_cases h1 : (i : Int) < (n : Int)
      · have h2 : ¬ ((i : Int) < 80) := by omega
        go_wp2_with (go_at_call 15; refine hH.mono ?_; rintro e w9 ⟨v9, rfl, o9, b9⟩; obtain ⟨a9, c9, hv9⟩ := fin w9 v9 o9; subst hv9)
        go_returns
        exact ⟨by simp [hln], bnext I.b b9 (Nat.le_refl _)⟩
      · go_wp2_with (go_at_call 15; refine hH.mono ?_; rintro e w9 ⟨v9, rfl, o9, b9⟩; obtain ⟨a9, c9, hv9⟩ := fin w9 v9 o9; subst hv9)
        go_returns
        exact ⟨by simp [hln], bnext I.b b9 (Nat.le_refl _)⟩

theorem own : ownKnob Try.prog.godebug = none := by kernel_rfl
theorem laidOut : laidOutB Try.prog = true := by kernel_rfl
set_option maxRecDepth 100000 in
theorem lifted (os : Os) (started : os.Started) (H : Type) (enc : TypeId × Value → H) :
    ReturnsInHanded {} Try.checked os 4 .any (Rows.cacheShowsSpec.pre6 enc Try.prog Try.f4 Rows.cacheShowsRow.domain false) (Rows.cacheShowsSpec.post enc Try.prog Try.f4 false true false false) := by
  refine returnsInHanded_of_change (C := Try.checked) own started (by kernel_rfl) Try.func4
    (ChangeSpec.witness6 (enc := enc) (C := Try.checked) false ⟨#[], #[.int .u8 0, .slice none 0 0], []⟩ 8 (by kernel_rfl) (by kernel_rfl) (by kernel_rfl) (by kernel_rfl)) ?_
  intro W base args ds gs before hval0 hW hcnd _
  have hval : ∀ (j : Nat) t v, Try.f4.params[j]? = some t → args[j]? = some v → Value.okWide Try.prog W .any base t v := hval0
  have hW' := hW
  obtain ⟨p, q, hA0, hV, rfl, hfz, hnd⟩ := hW
  have hA : DataW.TrodAll enc Try.prog W 0 (fun _ => true) true Try.f4.params.toList args.toList ds p := hA0
  rw [Try.params4] at hA hval
  obtain ⟨v0, vs0, d0, ds0, p0, q0, hargs, rfl, rfl, h0, r0⟩ := trodAll_cons hA
  obtain ⟨v1, vs1, d1, ds1, p1, q1, rfl, rfl, rfl, h1, r1⟩ := trodAll_cons r0
  obtain ⟨rfl, rfl, rfl⟩ := trodAll_nil r1
  obtain rfl : args = #[v0, v1] := by cases args; simp_all
  obtain ⟨rfl, rfl⟩ := trodVars_none hV
  obtain ⟨a0, rfl, rfl, rfl, w0⟩ := open_int Try.underlying5 (hval 0 5 v0 rfl rfl) h0
  obtain ⟨a1, len1, cap1, rfl⟩ := okWide_slice Try.underlying22 (hval 1 22 v1 rfl rfl)
  have k1 := h1
  have lt1 : ∀ x ∈ p1, x.block < W.heap.size := by obtain ⟨m, hm⟩ := k1; exact DataW.trod_lt m _ _ _ hm
  obtain ⟨z1, w1⟩ : ∃ zs, A3s W a1 len1 cap1 zs := by
    obtain ⟨fuel, hf⟩ := h1
    obtain ⟨a, n, c, l, hcs, hi⟩ := a3s_of_trod hf
    simp [Value.cells] at hcs
    obtain ⟨rfl, rfl, rfl⟩ := hcs
    exact ⟨_, hi⟩
  clear hA0 hval0
  refine (walk a0 a1 len1 cap1 z1 W w0 w1).mono fun e W' ⟨he, bel⟩ => ?_
  subst he
  exact ⟨_, rfl, _, _, _, [], _, [], hW', trodAll_mk1 (shut_bool Try.underlying4 _), (trodAll_cons_mk (shut_int Try.underlying5 w0) (trodAll_cons_mk (Below.trod laidOut (by kernel_rfl) (of_decide_eq_true (by kernel_rfl)) k1 bel lt1) trodAll_mk0)), rfl, bel.frame _, fun h => by cases h⟩
theorem over : Rows.cacheShowsRow.holds Try.pinned (OpenSpec.ofChange Rows.cacheShowsSpec) :=
  OpenClaim.holds_of_wide 4 Try.f4 rfl rfl rfl rfl rfl rfl rfl ⟨rfl, rfl, rfl, rfl, rfl⟩ rfl rfl rfl rfl rfl (by kernel_rfl) Try.func4 (by kernel_rfl)
    (of_decide_eq_true (by kernel_rfl)) (by unfold Func.isWrapper; first | (rw [if_pos (by decide +kernel)]; kernel_rfl) | (rw [if_neg (by decide +kernel)]; exact ⟨rfl, rfl⟩))
    (fun os started H enc _ => lifted os started H enc)
end Go.Proofs.Ytecedklfdmbnpaa.cacheShows
namespace Go.Proofs.Ytecedklfdmbnpaa
/-- The statement. -/
theorem cacheShows_holds : Rows.CacheShowsSaid := cacheShows.over
#print axioms cacheShows_holds
end Go.Proofs.Ytecedklfdmbnpaa
