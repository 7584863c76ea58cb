/-
  Texts of my own, joined: no statement is proved here.
-/
import Derived.Test.YtgdnhkdfcjpdiaaGreatDoorJaw
set_option linter.unusedSimpArgs false
set_option linter.unusedVariables false
namespace Go.Proofs.YtgdnhkdfcjpdiaaGreatDoor
open Go.ChangeShapes Go.WideShapes Go.ChangeAt Go.RowKit
set_option maxHeartbeats 4000000 in
theorem rwhere_hi (s : Gm) (x : Int) (w : World) (h : s.hasW x) (h2 : 2 ≤ x) :
    Calls Tryz.prog 32 #[.agg #[.int .i64 s.g, .int .i64 s.i, .int .i64 s.d], .int .i64 x] w fun e w' => e = .returned (.tuple #[.agg #[.int .i64 (s.kindAt ((x - 2) % s.span)), .int .i64 (s.pg x), .int .i64 (s.indAt ((x - 2) % s.span))], .int .i64 0]) ∧ Below w.heap.size w w' := by
  have hA : Gat ((w.alloc (.cells #[.int .i64 s.g, .int .i64 s.i, .int .i64 s.d] 43)).alloc (.cells #[.int .i64 0, .int .i64 0, .int .i64 0] 84)) w.heap.size s := (Gat.made w s).later (below_made _ _)
  have hZ : Zat ((w.alloc (.cells #[.int .i64 s.g, .int .i64 s.i, .int .i64 s.d] 43)).alloc (.cells #[.int .i64 0, .int .i64 0, .int .i64 0] 84)) (w.heap.size + 1) 3 := by
    have := Zat.made3 (w.alloc (.cells #[.int .i64 s.g, .int .i64 s.i, .int .i64 s.d] 43)) 84
    rwa [size_made] at this
  have bW : Below w.heap.size w ((w.alloc (.cells #[.int .i64 s.g, .int .i64 s.i, .int .i64 s.d] 43)).alloc (.cells #[.int .i64 0, .int .i64 0, .int .i64 0] 84)) := bnext (below_made _ _) (below_made _ _) (Nat.le_refl _)
  have hc := rcheck_anyG s
  obtain ⟨ho, xB, ed, em, g0, g1, r0, r1, _⟩ := Gm.wF h h2
  have e2 : s.err = 0 := if_pos ho
  rw [e2] at hc; clear e2
  obtain ⟨x0, x1⟩ := h
  have i1 := ho.2.2.1
  have i2 := ho.2.2.2.1
  have i3 := ho.2.1
  have i4 := ho.2.2.2.2.1
  have i5 := ho.2.2.2.2.2
  generalize s.pg x = Y at *
  generalize (x - 2) % s.span = R at *
  unfold Gm.span at ed em r1
  have nz : ¬ 2 + s.i + s.d = 0 := by omega
  have ew' : wrap64 Y = Y := by unfold wrap64; omega
  unfold Gm.kindAt Gm.indAt
  by_cases r2 : R = 0
  · subst r2
    go_enter Tryz.func32, Tryz.ntmps32
    go_wp2_with fail
    generalize (w.alloc (.cells #[.int .i64 s.g, .int .i64 s.i, .int .i64 s.d] 43)).alloc (.cells #[.int .i64 0, .int .i64 0, .int .i64 0] 84) = W0 at *
    refine (hc _).mono ?_
    rintro e W ⟨rfl, b1⟩
    have bW1 := bnext bW b1 (Nat.le_refl _)
    have hA1 := hA.later b1
    have hZ1 := hZ.later b1
    clear hA hZ bW b1
    have c0 := hA1.c0
    have c1 := hA1.c1
    have c2 := hA1.c2
    go_wp2_with fail
    refine (rtotal_any s _).mono ?_
    rintro e w2 ⟨rfl, b4⟩
    clear c0 c1 c2
    obtain ⟨c0, c1, c2⟩ := hA1.later b4
    obtain ⟨y0, z0⟩ := hZ1.later b4 0 (by decide)
    obtain ⟨y1, z1⟩ := hZ1.later b4 1 (by decide)
    obtain ⟨y2, z2⟩ := hZ1.later b4 2 (by decide)
    have bW4 := bnext bW1 b4 (Nat.le_refl _)
    clear hZ1 bW1 b4 hA1
    go_wp2
    refine bodyPost_ret (v := .tuple #[.agg #[.int .i64 (2), .int .i64 (Y), .int .i64 (0)], .int .i64 0]) (by simp [results, Tryz.results32, go_sem, World.cell?_setCell_same, World.cell?_setCell_other, y0, y1, y2]) rfl ⟨rfl, ?_⟩
    exact ((bW4.setCell (by simp) _).setCell (by simp) _).setCell (by simp) _
  · by_cases r3 : R = 1
    · subst r3
      go_enter Tryz.func32, Tryz.ntmps32
      go_wp2_with fail
      generalize (w.alloc (.cells #[.int .i64 s.g, .int .i64 s.i, .int .i64 s.d] 43)).alloc (.cells #[.int .i64 0, .int .i64 0, .int .i64 0] 84) = W0 at *
      refine (hc _).mono ?_
      rintro e W ⟨rfl, b1⟩
      have bW1 := bnext bW b1 (Nat.le_refl _)
      have hA1 := hA.later b1
      have hZ1 := hZ.later b1
      clear hA hZ bW b1
      have c0 := hA1.c0
      have c1 := hA1.c1
      have c2 := hA1.c2
      go_wp2_with fail
      refine (rtotal_any s _).mono ?_
      rintro e w2 ⟨rfl, b4⟩
      clear c0 c1 c2
      obtain ⟨c0, c1, c2⟩ := hA1.later b4
      obtain ⟨y0, z0⟩ := hZ1.later b4 0 (by decide)
      obtain ⟨y1, z1⟩ := hZ1.later b4 1 (by decide)
      obtain ⟨y2, z2⟩ := hZ1.later b4 2 (by decide)
      have bW4 := bnext bW1 b4 (Nat.le_refl _)
      clear hZ1 bW1 b4 hA1
      go_wp2
      refine bodyPost_ret (v := .tuple #[.agg #[.int .i64 (3), .int .i64 (Y), .int .i64 (0)], .int .i64 0]) (by simp [results, Tryz.results32, go_sem, World.cell?_setCell_same, World.cell?_setCell_other, y0, y1, y2]) rfl ⟨rfl, ?_⟩
      exact ((bW4.setCell (by simp) _).setCell (by simp) _).setCell (by simp) _
    · rw [if_neg r2, if_neg r2, if_neg r3, if_neg r3]
      by_cases r4 : R < 2 + s.i
      · rw [if_pos r4, if_pos r4]
        go_enter Tryz.func32, Tryz.ntmps32
        go_wp2_with fail
        generalize (w.alloc (.cells #[.int .i64 s.g, .int .i64 s.i, .int .i64 s.d] 43)).alloc (.cells #[.int .i64 0, .int .i64 0, .int .i64 0] 84) = W0 at *
        refine (hc _).mono ?_
        rintro e W ⟨rfl, b1⟩
        have bW1 := bnext bW b1 (Nat.le_refl _)
        have hA1 := hA.later b1
        have hZ1 := hZ.later b1
        clear hA hZ bW b1
        have c0 := hA1.c0
        have c1 := hA1.c1
        have c2 := hA1.c2
        go_wp2_with fail
        refine (rtotal_any s _).mono ?_
        rintro e w2 ⟨rfl, b4⟩
        clear c0 c1 c2
        obtain ⟨c0, c1, c2⟩ := hA1.later b4
        obtain ⟨y0, z0⟩ := hZ1.later b4 0 (by decide)
        obtain ⟨y1, z1⟩ := hZ1.later b4 1 (by decide)
        obtain ⟨y2, z2⟩ := hZ1.later b4 2 (by decide)
        have bW4 := bnext bW1 b4 (Nat.le_refl _)
        clear hZ1 bW1 b4 hA1
        go_wp2
        refine bodyPost_ret (v := .tuple #[.agg #[.int .i64 (4), .int .i64 (Y), .int .i64 (R - 2)], .int .i64 0]) (by simp [results, Tryz.results32, go_sem, World.cell?_setCell_same, World.cell?_setCell_other, y0, y1, y2]) rfl ⟨rfl, ?_⟩
        exact ((bW4.setCell (by simp) _).setCell (by simp) _).setCell (by simp) _
      · rw [if_neg r4, if_neg r4]
        have e5 : R - (2 + s.i) = R - 2 - s.i := by omega
        rw [e5]; clear e5
        go_enter Tryz.func32, Tryz.ntmps32
        go_wp2_with fail
        generalize (w.alloc (.cells #[.int .i64 s.g, .int .i64 s.i, .int .i64 s.d] 43)).alloc (.cells #[.int .i64 0, .int .i64 0, .int .i64 0] 84) = W0 at *
        refine (hc _).mono ?_
        rintro e W ⟨rfl, b1⟩
        have bW1 := bnext bW b1 (Nat.le_refl _)
        have hA1 := hA.later b1
        have hZ1 := hZ.later b1
        clear hA hZ bW b1
        have c0 := hA1.c0
        have c1 := hA1.c1
        have c2 := hA1.c2
        go_wp2_with fail
        refine (rtotal_any s _).mono ?_
        rintro e w2 ⟨rfl, b4⟩
        clear c0 c1 c2
        obtain ⟨c0, c1, c2⟩ := hA1.later b4
        obtain ⟨y0, z0⟩ := hZ1.later b4 0 (by decide)
        obtain ⟨y1, z1⟩ := hZ1.later b4 1 (by decide)
        obtain ⟨y2, z2⟩ := hZ1.later b4 2 (by decide)
        have bW4 := bnext bW1 b4 (Nat.le_refl _)
        clear hZ1 bW1 b4 hA1
        go_wp2
        refine bodyPost_ret (v := .tuple #[.agg #[.int .i64 (0), .int .i64 (Y), .int .i64 (R - 2 - s.i)], .int .i64 0]) (by simp [results, Tryz.results32, go_sem, World.cell?_setCell_same, World.cell?_setCell_other, y0, y1, y2]) rfl ⟨rfl, ?_⟩
        exact ((bW4.setCell (by simp) _).setCell (by simp) _).setCell (by simp) _
set_option maxHeartbeats 2000000 in
theorem rwhere_lo (s : Gm) (x : Int) (w : World) (h : s.hasW x) (h2 : x < 2) :
    Calls Tryz.prog 32 #[.agg #[.int .i64 s.g, .int .i64 s.i, .int .i64 s.d], .int .i64 x] w fun e w' => e = .returned (.tuple #[.agg #[.int .i64 1, .int .i64 0, .int .i64 x], .int .i64 0]) ∧ Below w.heap.size w w' := by
  have hA : Gat ((w.alloc (.cells #[.int .i64 s.g, .int .i64 s.i, .int .i64 s.d] 43)).alloc (.cells #[.int .i64 0, .int .i64 0, .int .i64 0] 84)) w.heap.size s := (Gat.made w s).later (below_made _ _)
  have hZ : Zat ((w.alloc (.cells #[.int .i64 s.g, .int .i64 s.i, .int .i64 s.d] 43)).alloc (.cells #[.int .i64 0, .int .i64 0, .int .i64 0] 84)) (w.heap.size + 1) 3 := by
    have := Zat.made3 (w.alloc (.cells #[.int .i64 s.g, .int .i64 s.i, .int .i64 s.d] 43)) 84
    rwa [size_made] at this
  have bW : Below w.heap.size w ((w.alloc (.cells #[.int .i64 s.g, .int .i64 s.i, .int .i64 s.d] 43)).alloc (.cells #[.int .i64 0, .int .i64 0, .int .i64 0] 84)) := bnext (below_made _ _) (below_made _ _) (Nat.le_refl _)
  have hc := rcheck_anyG s
  have ho : s.ok := by
    by_cases ho : s.ok
    · exact ho
    · have : s.total = 0 := if_neg ho
      have := h.1; have := h.2; omega
  have e2 : s.err = 0 := if_pos ho
  rw [e2] at hc; clear e2
  obtain ⟨x0, x1⟩ := h
  go_enter Tryz.func32, Tryz.ntmps32
  go_wp2_with fail
  generalize (w.alloc (.cells #[.int .i64 s.g, .int .i64 s.i, .int .i64 s.d] 43)).alloc (.cells #[.int .i64 0, .int .i64 0, .int .i64 0] 84) = W0 at *
  refine (hc _).mono ?_
  rintro e W ⟨rfl, b1⟩
  have bW1 := bnext bW b1 (Nat.le_refl _)
  have hA1 := hA.later b1
  have hZ1 := hZ.later b1
  clear hA hZ bW b1
  have c0 := hA1.c0
  have c1 := hA1.c1
  have c2 := hA1.c2
  go_wp2_with fail
  refine (rtotal_any s _).mono ?_
  rintro e w2 ⟨rfl, b4⟩
  clear c0 c1 c2
  obtain ⟨c0, c1, c2⟩ := hA1.later b4
  obtain ⟨y0, z0⟩ := hZ1.later b4 0 (by decide)
  obtain ⟨y1, z1⟩ := hZ1.later b4 1 (by decide)
  obtain ⟨y2, z2⟩ := hZ1.later b4 2 (by decide)
  have bW4 := bnext bW1 b4 (Nat.le_refl _)
  clear hZ1 bW1 b4 hA1
  go_wp2
  refine bodyPost_ret (v := .tuple #[.agg #[.int .i64 (1), .int .i64 (0), .int .i64 (x)], .int .i64 0]) (by simp [results, Tryz.results32, go_sem, World.cell?_setCell_same, World.cell?_setCell_other, y0, y1, y2]) rfl ⟨rfl, ?_⟩
  exact ((bW4.setCell (by simp) _).setCell (by simp) _).setCell (by simp) _
set_option maxHeartbeats 2000000 in
theorem rwhere_no (s : Gm) (x : Int) (w : World) (h : ¬ s.hasW x) :
    Calls Tryz.prog 32 #[.agg #[.int .i64 s.g, .int .i64 s.i, .int .i64 s.d], .int .i64 x] w fun e w' => e = .returned (.tuple #[.agg #[.int .i64 0, .int .i64 0, .int .i64 0], .int .i64 2]) ∧ Below w.heap.size w w' := by
  have hA : Gat ((w.alloc (.cells #[.int .i64 s.g, .int .i64 s.i, .int .i64 s.d] 43)).alloc (.cells #[.int .i64 0, .int .i64 0, .int .i64 0] 84)) w.heap.size s := (Gat.made w s).later (below_made _ _)
  have hZ : Zat ((w.alloc (.cells #[.int .i64 s.g, .int .i64 s.i, .int .i64 s.d] 43)).alloc (.cells #[.int .i64 0, .int .i64 0, .int .i64 0] 84)) (w.heap.size + 1) 3 := by
    have := Zat.made3 (w.alloc (.cells #[.int .i64 s.g, .int .i64 s.i, .int .i64 s.d] 43)) 84
    rwa [size_made] at this
  have bW : Below w.heap.size w ((w.alloc (.cells #[.int .i64 s.g, .int .i64 s.i, .int .i64 s.d] 43)).alloc (.cells #[.int .i64 0, .int .i64 0, .int .i64 0] 84)) := bnext (below_made _ _) (below_made _ _) (Nat.le_refl _)
  have hc := rcheck_anyG s
  by_cases ho : s.ok
  · have e2 : s.err = 0 := if_pos ho
    rw [e2] at hc; clear e2
    by_cases x0 : x < 0
    · go_enter Tryz.func32, Tryz.ntmps32
      go_wp2_with fail
      generalize (w.alloc (.cells #[.int .i64 s.g, .int .i64 s.i, .int .i64 s.d] 43)).alloc (.cells #[.int .i64 0, .int .i64 0, .int .i64 0] 84) = W0 at *
      refine (hc _).mono ?_
      rintro e W ⟨rfl, b1⟩
      have bW1 := bnext bW b1 (Nat.le_refl _)
      have hA1 := hA.later b1
      have hZ1 := hZ.later b1
      clear hA hZ bW b1
      obtain ⟨y0, z0⟩ := hZ1 0 (by decide)
      obtain ⟨y1, z1⟩ := hZ1 1 (by decide)
      obtain ⟨y2, z2⟩ := hZ1 2 (by decide)
      have bW4 := bW1
      clear hZ1 bW1 hA1
      go_wp2
      refine bodyPost_ret (v := .tuple #[.agg #[.int .i64 (0), .int .i64 (0), .int .i64 (0)], .int .i64 2]) (by simp [results, Tryz.results32, go_sem, World.cell?_setCell_same, World.cell?_setCell_other, y0, y1, y2]) rfl ⟨rfl, ?_⟩
      exact ((bW4.setCell (by simp) _).setCell (by simp) _).setCell (by simp) _
    · have x1 : s.total ≤ x := by unfold Gm.hasW at h; omega
      go_enter Tryz.func32, Tryz.ntmps32
      go_wp2_with fail
      generalize (w.alloc (.cells #[.int .i64 s.g, .int .i64 s.i, .int .i64 s.d] 43)).alloc (.cells #[.int .i64 0, .int .i64 0, .int .i64 0] 84) = W0 at *
      refine (hc _).mono ?_
      rintro e W ⟨rfl, b1⟩
      have bW1 := bnext bW b1 (Nat.le_refl _)
      have hA1 := hA.later b1
      have hZ1 := hZ.later b1
      clear hA hZ bW b1
      have c0 := hA1.c0
      have c1 := hA1.c1
      have c2 := hA1.c2
      go_wp2_with fail
      refine (rtotal_any s _).mono ?_
      rintro e w2 ⟨rfl, b4⟩
      clear c0 c1 c2
      obtain ⟨c0, c1, c2⟩ := hA1.later b4
      obtain ⟨y0, z0⟩ := hZ1.later b4 0 (by decide)
      obtain ⟨y1, z1⟩ := hZ1.later b4 1 (by decide)
      obtain ⟨y2, z2⟩ := hZ1.later b4 2 (by decide)
      have bW4 := bnext bW1 b4 (Nat.le_refl _)
      clear hZ1 bW1 b4 hA1
      go_wp2
      refine bodyPost_ret (v := .tuple #[.agg #[.int .i64 (0), .int .i64 (0), .int .i64 (0)], .int .i64 2]) (by simp [results, Tryz.results32, go_sem, World.cell?_setCell_same, World.cell?_setCell_other, y0, y1, y2]) rfl ⟨rfl, ?_⟩
      exact ((bW4.setCell (by simp) _).setCell (by simp) _).setCell (by simp) _
  · have e2 : s.err = 2 := if_neg ho
    rw [e2] at hc; clear e2
    go_enter Tryz.func32, Tryz.ntmps32
    go_wp2_with fail
    generalize (w.alloc (.cells #[.int .i64 s.g, .int .i64 s.i, .int .i64 s.d] 43)).alloc (.cells #[.int .i64 0, .int .i64 0, .int .i64 0] 84) = W0 at *
    refine (hc _).mono ?_
    rintro e W ⟨rfl, b1⟩
    have bW1 := bnext bW b1 (Nat.le_refl _)
    have hA1 := hA.later b1
    have hZ1 := hZ.later b1
    clear hA hZ bW b1
    obtain ⟨y0, z0⟩ := hZ1 0 (by decide)
    obtain ⟨y1, z1⟩ := hZ1 1 (by decide)
    obtain ⟨y2, z2⟩ := hZ1 2 (by decide)
    have bW4 := bW1
    clear hZ1 bW1 hA1
    go_wp2
    refine bodyPost_ret (v := .tuple #[.agg #[.int .i64 (0), .int .i64 (0), .int .i64 (0)], .int .i64 2]) (by simp [results, Tryz.results32, go_sem, World.cell?_setCell_same, World.cell?_setCell_other, y0, y1, y2]) rfl ⟨rfl, ?_⟩
    exact ((bW4.setCell (by simp) _).setCell (by simp) _).setCell (by simp) _
theorem rwhere_any (s : Gm) (x : Int) (w : World) :
    Calls Tryz.prog 32 #[.agg #[.int .i64 s.g, .int .i64 s.i, .int .i64 s.d], .int .i64 x] w fun e w' => e = .returned (.tuple #[.agg #[.int .i64 (s.pk x), .int .i64 (s.pg x), .int .i64 (s.pi x)], .int .i64 (s.werr x)]) ∧ Below w.heap.size w w' := by
  by_cases h : s.hasW x
  · have e : s.werr x = 0 := if_pos h
    rw [e]
    by_cases h2 : x < 2
    · have e1 : s.pk x = 1 := by unfold Gm.pk; rw [if_pos h, if_pos h2]
      have e2 : s.pg x = 0 := by unfold Gm.pg; rw [if_pos h, if_pos h2]
      have e3 : s.pi x = x := by unfold Gm.pi; rw [if_pos h, if_pos h2]
      rw [e1, e2, e3]; exact rwhere_lo s x w h h2
    · have e1 : s.pk x = s.kindAt ((x - 2) % s.span) := by unfold Gm.pk; rw [if_pos h, if_neg h2]
      have e3 : s.pi x = s.indAt ((x - 2) % s.span) := by unfold Gm.pi; rw [if_pos h, if_neg h2]
      rw [e1, e3]; exact rwhere_hi s x w h (by omega)
  · have e : s.werr x = 2 := if_neg h
    have e1 : s.pk x = 0 := if_neg h
    have e2 : s.pg x = 0 := if_neg h
    have e3 : s.pi x = 0 := if_neg h
    rw [e, e1, e2, e3]; exact rwhere_no s x w h
end Go.Proofs.YtgdnhkdfcjpdiaaGreatDoor
