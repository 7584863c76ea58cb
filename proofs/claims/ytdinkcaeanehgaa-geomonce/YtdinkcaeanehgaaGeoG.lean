/-
  What the document's Inode returns, for every input: no statement is proved here.
-/
import Derived.Test.YtdinkcaeanehgaaGeoF
namespace Go.Proofs.Ytdinkcaeanehgaa
open Go.ChangeShapes Go.WideShapes Go.ChangeAt Go.RowKit
set_option linter.unusedVariables false

set_option maxHeartbeats 2000000 in
theorem rinode_yes (s : Gm) (n : Int) (w : World) (h : s.hasI n) :
    Calls Try.prog 12 #[.agg #[.int .i64 s.g, .int .i64 s.i, .int .i64 s.d], .int .i64 n] w fun e w' => e = .returned (.tuple #[.agg #[.int .i64 (s.sec n), .int .i64 (s.slt n), .int .i64 (s.grp n), .int .i64 (s.idx n)], .int .i64 0]) ∧ Below w.heap.size w w' := by
  have hA : Gat ((w.alloc (.cells #[.int .i64 s.g, .int .i64 s.i, .int .i64 s.d] 23)).alloc (.cells #[.int .i64 0, .int .i64 0, .int .i64 0, .int .i64 0] 31)) w.heap.size s := (Gat.made w s).later (below_made _ _)
  have hZ : Zat ((w.alloc (.cells #[.int .i64 s.g, .int .i64 s.i, .int .i64 s.d] 23)).alloc (.cells #[.int .i64 0, .int .i64 0, .int .i64 0, .int .i64 0] 31)) (w.heap.size + 1) 4 := by
    have := Zat.made4 (w.alloc (.cells #[.int .i64 s.g, .int .i64 s.i, .int .i64 s.d] 23)) 31
    rwa [size_made] at this
  have bW : Below w.heap.size w ((w.alloc (.cells #[.int .i64 s.g, .int .i64 s.i, .int .i64 s.d] 23)).alloc (.cells #[.int .i64 0, .int .i64 0, .int .i64 0, .int .i64 0] 31)) := bnext (below_made _ _) (below_made _ _) (Nat.le_refl _)
  obtain ⟨g0, g1, x0, x1, ed, em, _⟩ := Gm.inoF h
  obtain ⟨ho, n1, n2⟩ := h
  have es : s.sec n = 2 + s.grp n * s.span + 2 + s.idx n / 3 := if_pos ⟨ho, n1, n2⟩
  have et : s.slt n = s.idx n % 3 := rfl
  rw [es, et]; clear es et
  have hc := rcheck_any s
  have e2 : s.err = 0 := if_pos ho
  rw [e2] at hc; clear e2
  have i1 := ho.2.2.1
  have i2 := ho.2.2.2.1
  have i3 := ho.2.1
  have nB : s.inodes ≤ 192 := by unfold Gm.inodes; rw [if_pos ho]; exact (Gm.inoB ho).2
  have hB := Gm.prodB ho g0 (by omega)
  obtain ⟨p0, p1⟩ := hB
  have hb : ∀ w, Calls Try.prog 26 #[.agg #[.int .i64 s.g, .int .i64 s.i, .int .i64 s.d], .int .i64 (s.grp n)] w fun e w' => e = .returned (.tuple #[.int .i64 (2 + s.grp n * s.span), .int .i64 0]) ∧ Below w.heap.size w w' := fun w => by
    have := rbegin_any s (s.grp n) w
    have e1 : s.inG (s.grp n) 0 = 2 + s.grp n * s.span := by unfold Gm.inG; rw [if_pos ⟨ho, g0, g1⟩]; omega
    have e2 : s.herr (s.grp n) = 0 := if_pos ⟨ho, g0, g1⟩
    rw [e1, e2] at this; exact this
  have e3 : s.i * 3 = 3 * s.i := Int.mul_comm _ _
  rw [e3] at ed em; clear e3
  generalize s.grp n = Y at *
  generalize s.idx n = X at *
  have d3 : X.tdiv 3 = X / 3 := Int.tdiv_eq_ediv_of_nonneg x0
  have m3 : X.tmod 3 = X % 3 := Int.tmod_eq_emod_of_nonneg x0
  have nz : ¬ 3 * s.i = 0 := by omega
  go_enter Try.func12, Try.ntmps12
  go_wp2_with fail
  generalize (w.alloc (.cells #[.int .i64 s.g, .int .i64 s.i, .int .i64 s.d] 23)).alloc (.cells #[.int .i64 0, .int .i64 0, .int .i64 0, .int .i64 0] 31) = W0 at *
  refine (hc _).mono ?_
  rintro e W ⟨rfl, b1⟩
  have bW1 := bnext bW b1 (Nat.le_refl _)
  have hA1 := hA.later b1
  have hZ1 := hZ.later b1
  clear hA hZ bW b1
  obtain ⟨c0, c1, c2⟩ := hA1
  have hA1 : Gat W w.heap.size s := ⟨c0, c1, c2⟩
  go_wp2_with fail
  refine (rinodes_any s _).mono ?_
  rintro e w2 ⟨rfl, b2⟩
  have bW2 := bnext bW1 b2 (Nat.le_refl _)
  have hA2 := hA1.later b2
  have hZ2 := hZ1.later b2
  clear hA1 hZ1 bW1 b2 c0 c1 c2
  have c0 := hA2.c0
  have c1 := hA2.c1
  have c2 := hA2.c2
  have d4 : wrap64 Y = Y := by unfold wrap64; omega
  go_wp2_with fail
  refine (hb _).mono ?_
  rintro e w4 ⟨rfl, b4⟩
  obtain ⟨y0, z0⟩ := hZ2.later b4 0 (by decide)
  obtain ⟨y1, z1⟩ := hZ2.later b4 1 (by decide)
  obtain ⟨y2, z2⟩ := hZ2.later b4 2 (by decide)
  obtain ⟨y3, z3⟩ := hZ2.later b4 3 (by decide)
  have bW4 := bnext bW2 b4 (Nat.le_refl _)
  clear c0 c1 c2 hA2 hZ2 b4 bW2
  have q3 : X / 3 ≤ 8 := by omega
  have q4 : 0 ≤ X / 3 := by omega
  go_wp2
  refine bodyPost_ret (v := .tuple #[.agg #[.int .i64 (2 + Y * s.span + 2 + X / 3), .int .i64 (X % 3), .int .i64 Y, .int .i64 X], .int .i64 0]) (by simp [results, Try.results12, go_sem, World.cell?_setCell_same, World.cell?_setCell_other, y0, y1, y2, y3]) rfl ⟨rfl, ?_⟩
  exact (((bW4.setCell (by simp) _).setCell (by simp) _).setCell (by simp) _).setCell (by simp) _
set_option maxHeartbeats 2000000 in
theorem rinode_no (s : Gm) (n : Int) (w : World) (h : ¬ s.hasI n) :
    Calls Try.prog 12 #[.agg #[.int .i64 s.g, .int .i64 s.i, .int .i64 s.d], .int .i64 n] w fun e w' => e = .returned (.tuple #[.agg #[.int .i64 0, .int .i64 0, .int .i64 0, .int .i64 0], .int .i64 2]) ∧ Below w.heap.size w w' := by
  have hA : Gat ((w.alloc (.cells #[.int .i64 s.g, .int .i64 s.i, .int .i64 s.d] 23)).alloc (.cells #[.int .i64 0, .int .i64 0, .int .i64 0, .int .i64 0] 31)) w.heap.size s := (Gat.made w s).later (below_made _ _)
  have hZ : Zat ((w.alloc (.cells #[.int .i64 s.g, .int .i64 s.i, .int .i64 s.d] 23)).alloc (.cells #[.int .i64 0, .int .i64 0, .int .i64 0, .int .i64 0] 31)) (w.heap.size + 1) 4 := by
    have := Zat.made4 (w.alloc (.cells #[.int .i64 s.g, .int .i64 s.i, .int .i64 s.d] 23)) 31
    rwa [size_made] at this
  have bW : Below w.heap.size w ((w.alloc (.cells #[.int .i64 s.g, .int .i64 s.i, .int .i64 s.d] 23)).alloc (.cells #[.int .i64 0, .int .i64 0, .int .i64 0, .int .i64 0] 31)) := bnext (below_made _ _) (below_made _ _) (Nat.le_refl _)
  have hc := rcheck_any s
  by_cases ho : s.ok
  · have e2 : s.err = 0 := if_pos ho
    rw [e2] at hc; clear e2
    by_cases n0 : n < 1
    · go_enter Try.func12, Try.ntmps12
      go_wp2_with fail
      generalize (w.alloc (.cells #[.int .i64 s.g, .int .i64 s.i, .int .i64 s.d] 23)).alloc (.cells #[.int .i64 0, .int .i64 0, .int .i64 0, .int .i64 0] 31) = W0 at *
      refine (hc _).mono ?_
      rintro e W ⟨rfl, b4⟩
      obtain ⟨y0, z0⟩ := hZ.later b4 0 (by decide)
      obtain ⟨y1, z1⟩ := hZ.later b4 1 (by decide)
      obtain ⟨y2, z2⟩ := hZ.later b4 2 (by decide)
      obtain ⟨y3, z3⟩ := hZ.later b4 3 (by decide)
      have bW4 := bnext bW b4 (Nat.le_refl _)
      clear hZ b4 bW hA
      go_wp2
      refine bodyPost_ret (v := .tuple #[.agg #[.int .i64 0, .int .i64 0, .int .i64 0, .int .i64 0], .int .i64 2]) (by simp [results, Try.results12, go_sem, World.cell?_setCell_same, World.cell?_setCell_other, y0, y1, y2, y3]) rfl ⟨rfl, ?_⟩
      exact (((bW4.setCell (by simp) _).setCell (by simp) _).setCell (by simp) _).setCell (by simp) _
    · have n1 : s.inodes < n := by
        have : ¬ (1 ≤ n ∧ n ≤ s.inodes) := fun x => h ⟨ho, x⟩
        omega
      go_enter Try.func12, Try.ntmps12
      go_wp2_with fail
      generalize (w.alloc (.cells #[.int .i64 s.g, .int .i64 s.i, .int .i64 s.d] 23)).alloc (.cells #[.int .i64 0, .int .i64 0, .int .i64 0, .int .i64 0] 31) = W0 at *
      refine (hc _).mono ?_
      rintro e W ⟨rfl, b1⟩
      have bW1 := bnext bW b1 (Nat.le_refl _)
      have hA1 := hA.later b1
      have hZ1 := hZ.later b1
      clear hA hZ bW b1
      obtain ⟨c0, c1, c2⟩ := hA1
      go_wp2_with fail
      refine (rinodes_any s _).mono ?_
      rintro e w2 ⟨rfl, b4⟩
      obtain ⟨y0, z0⟩ := hZ1.later b4 0 (by decide)
      obtain ⟨y1, z1⟩ := hZ1.later b4 1 (by decide)
      obtain ⟨y2, z2⟩ := hZ1.later b4 2 (by decide)
      obtain ⟨y3, z3⟩ := hZ1.later b4 3 (by decide)
      have bW4 := bnext bW1 b4 (Nat.le_refl _)
      clear hZ1 bW1 b4 c0 c1 c2
      go_wp2
      refine bodyPost_ret (v := .tuple #[.agg #[.int .i64 0, .int .i64 0, .int .i64 0, .int .i64 0], .int .i64 2]) (by simp [results, Try.results12, go_sem, World.cell?_setCell_same, World.cell?_setCell_other, y0, y1, y2, y3]) rfl ⟨rfl, ?_⟩
      exact (((bW4.setCell (by simp) _).setCell (by simp) _).setCell (by simp) _).setCell (by simp) _
  · have e2 : s.err = 2 := if_neg ho
    rw [e2] at hc; clear e2
    go_enter Try.func12, Try.ntmps12
    go_wp2_with fail
    generalize (w.alloc (.cells #[.int .i64 s.g, .int .i64 s.i, .int .i64 s.d] 23)).alloc (.cells #[.int .i64 0, .int .i64 0, .int .i64 0, .int .i64 0] 31) = W0 at *
    refine (hc _).mono ?_
    rintro e W ⟨rfl, b4⟩
    obtain ⟨y0, z0⟩ := hZ.later b4 0 (by decide)
    obtain ⟨y1, z1⟩ := hZ.later b4 1 (by decide)
    obtain ⟨y2, z2⟩ := hZ.later b4 2 (by decide)
    obtain ⟨y3, z3⟩ := hZ.later b4 3 (by decide)
    have bW4 := bnext bW b4 (Nat.le_refl _)
    clear hZ b4 bW hA
    go_wp2
    refine bodyPost_ret (v := .tuple #[.agg #[.int .i64 0, .int .i64 0, .int .i64 0, .int .i64 0], .int .i64 2]) (by simp [results, Try.results12, go_sem, World.cell?_setCell_same, World.cell?_setCell_other, y0, y1, y2, y3]) rfl ⟨rfl, ?_⟩
    exact (((bW4.setCell (by simp) _).setCell (by simp) _).setCell (by simp) _).setCell (by simp) _
theorem rinode_any (s : Gm) (n : Int) (w : World) :
    Calls Try.prog 12 #[.agg #[.int .i64 s.g, .int .i64 s.i, .int .i64 s.d], .int .i64 n] w fun e w' => e = .returned (.tuple #[.agg #[.int .i64 (s.sec n), .int .i64 (s.slt n), .int .i64 (s.grp n), .int .i64 (s.idx n)], .int .i64 (s.ierr n)]) ∧ Below w.heap.size w w' := by
  by_cases h : s.hasI n
  · have e : s.ierr n = 0 := if_pos h
    rw [e]; exact rinode_yes s n w h
  · have e : s.ierr n = 2 := if_neg h
    have e1 : s.sec n = 0 := if_neg h
    have e2 : s.grp n = 0 := if_neg h
    have e3 : s.idx n = 0 := if_neg h
    have e4 : s.slt n = 0 := by unfold Gm.slt; rw [e3]; rfl
    rw [e, e1, e2, e3, e4]; exact rinode_no s n w h
end Go.Proofs.Ytdinkcaeanehgaa
