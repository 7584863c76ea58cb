/-
  The statement GeomOnce, proved: for every three numbers the law returns true; no condition.
-/
import Derived.Test.YtdinkcaeanehgaaGeoL
namespace Go.Proofs.Ytdinkcaeanehgaa.geomOnce
open Go.ChangeShapes Go.WideShapes Go.ChangeAt Go.RowKit
set_option linter.unusedVariables false

set_option maxRecDepth 100000 in
set_option maxHeartbeats 20000000 in
theorem walk (x y z : Int) (w : World) (w0 : (Lit.int .i64 x).wf = true) (w1 : (Lit.int .i64 y).wf = true) (w2 : (Lit.int .i64 z).wf = true) :
    Calls Try.prog 4 #[.int .i64 x, .int .i64 y, .int .i64 z] w fun e w' => e = .returned (.bool true) ∧ Below w.heap.size w w' := by
  have a1 := among_lt x 8 (by omega)
  have a2 := among_lt y 8 (by omega)
  have a3 := among_lt z 30 (by omega)
  obtain ⟨G, hG, g1, g8⟩ : ∃ G : Nat, (1 : Int) + (among x 8 : Nat) = (G : Int) ∧ 1 ≤ G ∧ G ≤ 8 := ⟨1 + among x 8, by omega, by omega, by omega⟩
  obtain ⟨I, hI, i1, i8⟩ : ∃ I : Nat, (1 : Int) + (among y 8 : Nat) = (I : Int) ∧ 1 ≤ I ∧ I ≤ 8 := ⟨1 + among y 8, by omega, by omega, by omega⟩
  obtain ⟨D, hD, d4, d33⟩ : ∃ D : Nat, (4 : Int) + (among z 30 : Nat) = (D : Int) ∧ 4 ≤ D ∧ D ≤ 33 := ⟨4 + among z 30, by omega, by omega, by omega⟩
  have hz : Sz G I D := ⟨g1, g8, i1, i8, d4, d33⟩
  go_enter Try.func4, Try.ntmps4
  go_wp2_with fail
  refine (gworks_any _).mono ?_
  rintro e u1 ⟨rfl, b1⟩
  go_wp2_with fail
  refine (among_any x 8 _ (by omega) (by omega)).mono ?_
  rintro e u ⟨rfl, rfl⟩
  go_wp2_with fail
  refine (among_any y 8 _ (by omega) (by omega)).mono ?_
  rintro e u ⟨rfl, rfl⟩
  go_wp2_with fail
  refine (among_any z 30 _ (by omega) (by omega)).mono ?_
  rintro e u ⟨rfl, rfl⟩
  go_wp2_with fail
  obtain ⟨N, hN⟩ : ∃ N, N = 2 + G * (2 + I + D) := ⟨_, rfl⟩
  have hT := total_at hz
  rw [← hN] at hT
  have n2 : 2 ≤ N := by omega
  have nB : N ≤ 346 := by
    have : G * (2 + I + D) ≤ 8 * 43 := Nat.mul_le_mul g8 (by omega)
    omega
  have HN : Hid (N = 2 + G * (2 + I + D)) := hN
  clear hN hG hI hD a1 a2 a3
  have hA := Gat.made u1 (sh G I D)
  refine (hT _).mono ?_
  rintro e u2 ⟨rfl, b2⟩
  have hA2 := hA.later b2
  have bU : Below w.heap.size w u2 := bnext (bnext b1 (below_made _ _) (Nat.le_refl _)) b2 (Nat.le_refl _)
  have hlt : u1.heap.size < u2.heap.size := hA2.lt
  clear hA hT b2
  have hM := make_ints N (by omega)
  have s0 := Seen.made u2 N
  have l0 : (0 : Int) < (N : Int) := by omega
  have l1 : (1 : Int) < (N : Int) := by omega
  have y0 := s0.c 0 (by omega)
  have y1 := s0.c 1 (by omega)
  have z0 := s0.z 0 (by omega)
  have z1 := s0.z 1 (by omega)
  go_wp2_with fail
  clear y0 y1 z0 z1
  have start : Inv w (((u2.alloc (zInts N)).setCell ⟨u2.heap.size, 0, none⟩ (.int .i64 1)).setCell ⟨u2.heap.size, 1, none⟩ (.int .i64 1)) G I D N u1.heap.size u2.heap.size (got (2 + I + D) I 0 0 0) := by
    have base : Inv w (u2.alloc (zInts N)) G I D N u1.heap.size u2.heap.size (fun _ => 0) := ⟨bnext bU (below_made _ _) (Nat.le_refl _), hA2.later (below_made _ _), s0, b1.size, bU.size, by omega⟩
    refine (base.set (i := 0) (by omega) 1 (fun j => rfl)).set (i := 1) (by omega) 1 (fun j => ?_)
    rw [got_first _ _ _ (by omega)]
    by_cases e1 : j = 1
    · rw [if_pos e1, if_pos (by omega)]
    · rw [if_neg e1]
      by_cases e0 : j = 0
      · rw [if_pos e0, if_pos (by omega)]
      · rw [if_neg e0, if_neg (by omega)]
  generalize ((u2.alloc (zInts N)).setCell ⟨u2.heap.size, 0, none⟩ (.int .i64 1)).setCell ⟨u2.heap.size, 1, none⟩ (.int .i64 1) = v0 at *
  clear s0 hA2 hlt bU b1
  generalize u1.heap.size = a at *
  generalize u2.heap.size = b at *
  go_loopw [9] (fun i wr => ∃ k : Nat, k ≤ G ∧ i = .int .i64 k ∧ Inv w wr G I D N a b (got (2 + I + D) I k 0 0)) (fun i _ => G - (intOf i).toNat)
  case atStart => exact ⟨0, Nat.zero_le _, rfl, start⟩
  case round =>
    clear start
    obtain ⟨k, hk, rfl, hJ⟩ := hrel
    by_cases hlt : k < G
    · obtain ⟨X, hX⟩ : ∃ X, X = 2 + k * (2 + I + D) + 0 := ⟨_, rfl⟩
      obtain ⟨Y, hY⟩ : ∃ Y, Y = 2 + k * (2 + I + D) + 1 := ⟨_, rfl⟩
      have hh := fun w => head_at hz w hlt
      have hm := fun w => maps_at hz w hlt
      have hwh := fun w => where_h hz w hlt
      have hwm := fun w => where_m hz w hlt
      obtain ⟨f0, f1⟩ : got (2 + I + D) I k 0 0 X = 0 ∧ ∀ j, (if j = X then 1 else got (2 + I + D) I k 0 0 j) = got (2 + I + D) I k 1 0 j := by
        rw [hX]; exact ⟨(got_head D I k 0 i1).1, fun j => (got_head D I k j i1).2⟩
      obtain ⟨f2, f3⟩ : got (2 + I + D) I k 1 0 Y = 0 ∧ ∀ j, (if j = Y then 1 else got (2 + I + D) I k 1 0 j) = got (2 + I + D) I k 2 0 j := by
        rw [hY]; exact ⟨(got_maps D I k 0 i1).1, fun j => (got_maps D I k j i1).2⟩
      have lX : X < N := by rw [hX, HN.out]; exact at_lt hlt (by omega)
      have lY : Y < N := by rw [hY, HN.out]; exact at_lt hlt (by omega)
      have hXY : X ≠ Y := by omega
      have f4 : got (2 + I + D) I k 0 0 Y = 0 := by rw [← f2, ← f1, if_neg hXY.symm]
      rw [← hX] at hh hwh
      rw [← hY] at hm hwm
      clear hX hY
      have HF : Hid ((∀ j, (if j = X then 1 else got (2 + I + D) I k 0 0 j) = got (2 + I + D) I k 1 0 j) ∧ (∀ j, (if j = Y then 1 else got (2 + I + D) I k 1 0 j) = got (2 + I + D) I k 2 0 j)) := ⟨f1, f3⟩
      clear f1 f3 f2
      have c0 := hJ.c0
      have c1 := hJ.c1
      have c2 := hJ.c2
      go_wp2_with fail
      refine (hh _).mono ?_
      rintro e v1 ⟨rfl, b1⟩
      have hJ1 := hJ.later b1
      clear b1 c0 c1 c2 hJ hh
      have c0 := hJ1.c0
      have c1 := hJ1.c1
      have c2 := hJ1.c2
      go_wp2_with fail
      refine (hm _).mono ?_
      rintro e v2 ⟨rfl, b2⟩
      have hJ2 := hJ1.later b2
      clear b2 c0 c1 c2 hJ1 hm
      have c0 := hJ2.c0
      have c1 := hJ2.c1
      have c2 := hJ2.c2
      go_wp2_with fail
      refine (hwh _).mono ?_
      rintro e v3 ⟨rfl, b3⟩
      have hJ3 := (hJ2.later b3).later (below_made v3 (.cells #[.int .i64 2, .int .i64 (k : Int), .int .i64 0] 36))
      have hP3 := Pat.made v3 2 k 0 36
      clear b3 c0 c1 c2 hJ2 hwh
      have c0 := hJ3.c0
      have c1 := hJ3.c1
      have c2 := hJ3.c2
      go_wp2_with fail
      generalize v3.alloc (.cells #[.int .i64 2, .int .i64 (k : Int), .int .i64 0] 36) = V3 at *
      refine (hwm _).mono ?_
      rintro e v4 ⟨rfl, b4⟩
      have hJ4 := (hJ3.later b4).later (below_made v4 (.cells #[.int .i64 3, .int .i64 (k : Int), .int .i64 0] 36))
      obtain ⟨o0, o1, o2, _, _, _⟩ := (hP3.later b4).later (below_made v4 (.cells #[.int .i64 3, .int .i64 (k : Int), .int .i64 0] 36))
      obtain ⟨p0, p1, p2, _, _, _⟩ := Pat.made v4 3 k 0 36
      clear b4 c0 c1 c2 hJ3 hwm hP3
      have y0 := hJ4.seen.c X lX
      have y1 := hJ4.seen.c Y lY
      have z0 := hJ4.seen.z X lX
      have z1 := hJ4.seen.z Y lY
      rw [f0] at y0
      rw [f4] at y1
      have l2 : (0 : Int) ≤ (X : Int) := by omega
      have l3 : (0 : Int) ≤ (Y : Int) := by omega
      have l4 : (X : Int) < (N : Int) := by omega
      have l5 : (Y : Int) < (N : Int) := by omega
      go_wp2_with fail
      have hK := (hJ4.set lX 1 HF.out.1).set lY 1 HF.out.2
      generalize ((v4.alloc (.cells #[.int .i64 3, .int .i64 (k : Int), .int .i64 0] 36)).setCell ⟨b, X, none⟩ (.int .i64 1)).setCell ⟨b, Y, none⟩ (.int .i64 1) = V4 at *
      clear y0 y1 z0 z1 o0 o1 o2 p0 p1 p2 hJ4 f0 f4 HF l2 l3 l4 l5
      go_loopw [18] (fun i wr => ∃ q : Nat, q ≤ D ∧ i = .int .i64 q ∧ Inv w wr G I D N a b (got (2 + I + D) I k 2 q)) (fun i _ => D - (intOf i).toNat)
      case atStart => exact ⟨0, Nat.zero_le _, rfl, hK⟩
      case round =>
        clear hK
        obtain ⟨q, hq, rfl, hL⟩ := hrel
        by_cases hlt2 : q < D
        · obtain ⟨Z, hZ⟩ : ∃ Z, Z = 2 + k * (2 + I + D) + (2 + I + q) := ⟨_, rfl⟩
          have hd := fun w => data_at hz w hlt hlt2
          have hwd := fun w => where_d hz w hlt hlt2
          obtain ⟨f0, f1⟩ : got (2 + I + D) I k 2 q Z = 0 ∧ ∀ j, (if j = Z then 1 else got (2 + I + D) I k 2 q j) = got (2 + I + D) I k 2 (q + 1) j := by
            rw [hZ]; exact ⟨(got_data D I k q 0 hlt2).1, fun j => (got_data D I k q j hlt2).2⟩
          have lZ : Z < N := by rw [hZ, HN.out]; exact at_lt hlt (by omega)
          rw [← hZ] at hd hwd
          clear hZ
          have HF : Hid (∀ j, (if j = Z then 1 else got (2 + I + D) I k 2 q j) = got (2 + I + D) I k 2 (q + 1) j) := f1
          clear f1
          have c0 := hL.c0
          have c1 := hL.c1
          have c2 := hL.c2
          go_wp2_with fail
          refine (hd _).mono ?_
          rintro e v1 ⟨rfl, b1⟩
          have hL1 := hL.later b1
          clear b1 c0 c1 c2 hL hd
          have c0 := hL1.c0
          have c1 := hL1.c1
          have c2 := hL1.c2
          go_wp2_with fail
          refine (hwd _).mono ?_
          rintro e v2 ⟨rfl, b2⟩
          have hL2 := (hL1.later b2).later (below_made v2 (.cells #[.int .i64 0, .int .i64 (k : Int), .int .i64 (q : Int)] 36))
          obtain ⟨p0, p1, p2, _, _, _⟩ := Pat.made v2 0 k q 36
          clear b2 c0 c1 c2 hL1 hwd
          have y0 := hL2.seen.c Z lZ
          have z0 := hL2.seen.z Z lZ
          rw [f0] at y0
          have l2 : (0 : Int) ≤ (Z : Int) := by omega
          have l4 : (Z : Int) < (N : Int) := by omega
          have hL3 := hL2.set lZ 1 HF.out
          go_wp2_with fail
          go_roundw
          case rel => exact ⟨q + 1, by omega, by go_num, hL3⟩
          case measure => simp [intOf]; omega
        · obtain rfl : q = D := by omega
          have hL2 := hL.as (got_next q I k)
          have c0 := hL.c0
          have c1 := hL.c1
          have c2 := hL.c2
          go_wp2_with fail
          go_roundw
          case rel => exact ⟨k + 1, by omega, by go_num, hL2⟩
          case measure => simp [intOf]; omega
    · obtain rfl : k = G := by omega
      obtain ⟨M, hM⟩ : ∃ M, M = k * (I * 3) := ⟨_, rfl⟩
      have mB : M ≤ 192 := by
        have : k * (I * 3) ≤ 8 * 24 := Nat.mul_le_mul g8 (by omega)
        omega
      have hin := inodes_at hz
      rw [← hM] at hin
      have HM : Hid (M = k * (I * 3)) := hM
      have hK := hJ.as (got3_first (2 + I + D) I k)
      have c0 := hJ.c0
      have c1 := hJ.c1
      have c2 := hJ.c2
      clear hM hlt
      go_wp2_with fail
      clear hJ c0 c1 c2
      go_loopw [23] (fun i wr => ∃ n : Nat, n ≤ M ∧ i = .int .i64 ((n : Int) + 1) ∧ Inv w wr k I D N a b (got3 (2 + I + D) I k n)) (fun i _ => M + 1 - (intOf i).toNat)
      case atStart => exact ⟨0, Nat.zero_le _, rfl, hK⟩
      case round =>
        clear hK
        obtain ⟨n, hn, rfl, hL⟩ := hrel
        have c0 := hL.c0
        have c1 := hL.c1
        have c2 := hL.c2
        go_wp2_with fail
        refine (hin _).mono ?_
        rintro e v1 ⟨rfl, b1⟩
        have hL1 := hL.later b1
        clear b1 c0 c1 c2 hL
        have c0 := hL1.c0
        have c1 := hL1.c1
        have c2 := hL1.c2
        by_cases hlt2 : n < M
        · have hno : n < k * (I * 3) := by rw [← HM.out]; exact hlt2
          have hi := fun w => inode_at hz w hno
          have hw := fun w => where_i hz w hno
          have hQk := grp_lt hno
          have hPI := ind_lt (n := n) i1
          have hEb := Nat.mod_lt n (show 0 < I * 3 by omega)
          have hsm := slot_mod n I
          have hset := got3_set D I k n
          obtain ⟨Q, hQ⟩ : ∃ Q, Q = n / (I * 3) := ⟨_, rfl⟩
          obtain ⟨E, hE⟩ : ∃ E, E = n % (I * 3) := ⟨_, rfl⟩
          rw [← hE] at hi hw hPI hEb hsm
          simp only [← hE] at hset
          rw [← hQ] at hi hw hQk
          simp only [← hQ] at hset
          obtain ⟨P, hP⟩ : ∃ P, P = E / 3 := ⟨_, rfl⟩
          obtain ⟨T, hT⟩ : ∃ T, T = E % 3 := ⟨_, rfl⟩
          rw [← hP] at hi hw hPI
          simp only [← hP] at hset
          rw [← hT] at hi hsm
          obtain ⟨X, hX⟩ : ∃ X, X = 2 + Q * (2 + I + D) + (2 + P) := ⟨_, rfl⟩
          have lX : X < N := by rw [hX, HN.out]; exact at_lt hQk (by omega)
          rw [← hX] at hi hw
          simp only [← hX] at hset
          have d3 : (E : Int).tdiv 3 = (P : Int) := by rw [Int.tdiv_eq_ediv_of_nonneg (by omega)]; omega
          have m3 : (E : Int).tmod 3 = (T : Int) := by rw [Int.tmod_eq_emod_of_nonneg (by omega)]; omega
          have pB : P ≤ 8 := by omega
          have tB : T ≤ 3 := by omega
          clear hQ hE hP hT hX hno
          have HS : Hid (∀ j, 1 ≤ I → n % 3 = 0 → got3 (2 + I + D) I k n X = 0 ∧ (if j = X then 1 else got3 (2 + I + D) I k n j) = got3 (2 + I + D) I k (n + 1) j) := hset
          have HT : Hid (T = n % 3) := hsm
          clear hset hsm
          go_wp2_with fail
          refine (hi _).mono ?_
          rintro e v2 ⟨rfl, b2⟩
          have hL2 := (hL1.later b2).later (below_made v2 (.cells #[.int .i64 (X : Int), .int .i64 (T : Int), .int .i64 (Q : Int), .int .i64 (E : Int)] 28))
          have hS2 := Sat.made v2 X T Q E 28
          clear b2 c0 c1 c2 hL1 hi
          have c0 := hL2.c0
          have c1 := hL2.c1
          have c2 := hL2.c2
          have x0 := hS2.c0
          go_wp2_with fail
          generalize v2.alloc (.cells #[.int .i64 (X : Int), .int .i64 (T : Int), .int .i64 (Q : Int), .int .i64 (E : Int)] 28) = V2 at *
          refine (hw _).mono ?_
          rintro e v3 ⟨rfl, b3⟩
          have hL3 := (hL2.later b3).later (below_made v3 (.cells #[.int .i64 4, .int .i64 (Q : Int), .int .i64 (P : Int)] 36))
          obtain ⟨q0, q1, q2, q3⟩ := (hS2.later b3).later (below_made v3 (.cells #[.int .i64 4, .int .i64 (Q : Int), .int .i64 (P : Int)] 36))
          obtain ⟨p0, p1, p2, _, _, _⟩ := Pat.made v3 4 Q P 36
          clear b3 c0 c1 c2 hL2 hw hS2 x0
          by_cases ht : T = 0
          · obtain ⟨f0, f1⟩ : got3 (2 + I + D) I k n X = 0 ∧ ∀ j, (if j = X then 1 else got3 (2 + I + D) I k n j) = got3 (2 + I + D) I k (n + 1) j := by
              have h3 : n % 3 = 0 := by rw [← HT.out]; exact ht
              exact ⟨(HS.out 0 i1 h3).1, fun j => (HS.out j i1 h3).2⟩
            have y0 := hL3.seen.c X lX
            have z0 := hL3.seen.z X lX
            rw [f0] at y0
            have l2 : (0 : Int) ≤ (X : Int) := by omega
            have l4 : (X : Int) < (N : Int) := by omega
            have hL4 := hL3.set lX 1 f1
            clear f0 f1
            subst ht
            go_wp2_with fail
            go_roundw
            case rel => exact ⟨n + 1, by omega, by go_num, hL4⟩
            case measure => simp [intOf]; omega
          · have hL4 := hL3.as (fun j => got3_skip (2 + I + D) I k n j (by rw [← HT.out]; exact ht))
            have ht' : ¬ (T : Int) = 0 := by omega
            go_wp2_with fail
            go_roundw
            case rel => exact ⟨n + 1, by omega, by go_num, hL4⟩
            case measure => simp [intOf]; omega
        · obtain rfl : n = M := by omega
          have hall : ∀ j, j < N → got3 (2 + I + D) I k n j = 1 := fun j hj => by
            rw [HM.out]; exact got3_last D I k j (by rw [← HN.out]; exact hj)
          clear hlt2
          go_wp2_with fail
          clear c0 c1 c2
          go_loopw [28] (fun i wr => ∃ j : Nat, j ≤ N ∧ i = .int .i64 j ∧ Inv w wr k I D N a b (got3 (2 + I + D) I k n)) (fun i _ => N - (intOf i).toNat)
          case atStart => exact ⟨0, Nat.zero_le _, rfl, hL1⟩
          case round =>
            clear hL1
            obtain ⟨j, hj, rfl, hR⟩ := hrel
            by_cases hlt3 : j < N
            · have y0 := hR.seen.c j hlt3
              rw [hall j hlt3] at y0
              have l2 : (0 : Int) ≤ (j : Int) := by omega
              have l4 : (j : Int) < (N : Int) := by omega
              go_wp2_with fail
              go_roundw
              case rel => exact ⟨j + 1, by omega, by go_num, hR⟩
              case measure => simp [intOf]; omega
            · have l4 : ¬ (j : Int) < (N : Int) := by omega
              have hT := hR.bel
              go_wp2_with fail
              go_returns
              exact ⟨rfl, hT⟩

theorem own : ownKnob Try.prog.godebug = none := by kernel_rfl
theorem laidOut : laidOutB Try.prog = true := by kernel_rfl
set_option maxRecDepth 100000 in
theorem lifted (os : Os) (started : os.Started) (H : Type) (enc : TypeId × Value → H) :
    ReturnsInHanded {} Try.checked os 4 .any (Rows.geomOnceSpec.pre6 enc Try.prog Try.f4 Rows.geomOnceRow.domain false) (Rows.geomOnceSpec.post enc Try.prog Try.f4 false true false false) := by
  refine returnsInHanded_of_change (C := Try.checked) own started (by kernel_rfl) Try.func4
    (ChangeSpec.witness6 (enc := enc) (C := Try.checked) false ⟨#[], #[.int .i64 0, .int .i64 0, .int .i64 0], []⟩ 8 (by kernel_rfl) (by kernel_rfl) (by kernel_rfl) (by kernel_rfl)) ?_
  intro W base args ds gs before hval0 hW hcnd _
  have hval : ∀ (j : Nat) t v, Try.f4.params[j]? = some t → args[j]? = some v → Value.okWide Try.prog W .any base t v := hval0
  have hW' := hW
  obtain ⟨p, q, hA0, hV, rfl, hfz, hnd⟩ := hW
  have hA : DataW.TrodAll enc Try.prog W 0 (fun _ => true) true Try.f4.params.toList args.toList ds p := hA0
  rw [Try.params4] at hA hval
  obtain ⟨v0, vs0, d0, ds0, p0, q0, hargs, rfl, rfl, h0, r0⟩ := trodAll_cons hA
  obtain ⟨v1, vs1, d1, ds1, p1, q1, rfl, rfl, rfl, h1, r1⟩ := trodAll_cons r0
  obtain ⟨v2, vs2, d2, ds2, p2, q2, rfl, rfl, rfl, h2, r2⟩ := trodAll_cons r1
  obtain ⟨rfl, rfl, rfl⟩ := trodAll_nil r2
  obtain rfl : args = #[v0, v1, v2] := by cases args; simp_all
  obtain ⟨rfl, rfl⟩ := trodVars_none hV
  obtain ⟨a0, rfl, rfl, rfl, w0⟩ := open_int Try.underlying3 (hval 0 3 v0 rfl rfl) h0
  obtain ⟨a1, rfl, rfl, rfl, w1⟩ := open_int Try.underlying3 (hval 1 3 v1 rfl rfl) h1
  obtain ⟨a2, rfl, rfl, rfl, w2⟩ := open_int Try.underlying3 (hval 2 3 v2 rfl rfl) h2
  clear hA0 hval0
  refine (walk a0 a1 a2 W w0 w1 w2).mono fun e W' ⟨he, bel⟩ => ?_
  subst he
  exact ⟨_, rfl, _, _, _, [], _, [], hW', trodAll_mk1 (shut_bool Try.underlying4 _), (trodAll_cons_mk (shut_int Try.underlying3 w0) (trodAll_cons_mk (shut_int Try.underlying3 w1) (trodAll_cons_mk (shut_int Try.underlying3 w2) trodAll_mk0))), rfl, bel.frame _, fun h => by cases h⟩
theorem over : Rows.geomOnceRow.holds Try.pinned (OpenSpec.ofChange Rows.geomOnceSpec) :=
  OpenClaim.holds_of_wide 4 Try.f4 rfl rfl rfl rfl rfl rfl rfl ⟨rfl, rfl, rfl, rfl, rfl⟩ rfl rfl rfl rfl rfl (by kernel_rfl) Try.func4 (by kernel_rfl)
    (of_decide_eq_true (by kernel_rfl)) (by unfold Func.isWrapper; first | (rw [if_pos (by decide +kernel)]; kernel_rfl) | (rw [if_neg (by decide +kernel)]; exact ⟨rfl, rfl⟩))
    (fun os started H enc _ => lifted os started H enc)
end Go.Proofs.Ytdinkcaeanehgaa.geomOnce
namespace Go.Proofs.Ytdinkcaeanehgaa
/-- The statement. -/
theorem geomOnce_holds : Rows.GeomOnceSaid := geomOnce.over
#print axioms geomOnce_holds
end Go.Proofs.Ytdinkcaeanehgaa
