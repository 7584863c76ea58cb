/-
  What Inode of layer 6, and the document's, returns, for every input: no statement is proved here.
-/
import Derived.Test.YtdinkcaeanehgaaGeoE
namespace Go.Proofs.Ytdinkcaeanehgaa
open Go.ChangeShapes Go.WideShapes Go.ChangeAt Go.RowKit
set_option linter.unusedVariables false

abbrev Gm.hasI (s : Gm) (n : Int) : Prop := s.ok ∧ 1 ≤ n ∧ n ≤ s.inodes
def Gm.ierr (s : Gm) (n : Int) : Int := if s.hasI n then 0 else 2
def Gm.grp (s : Gm) (n : Int) : Int := if s.hasI n then (n - 1) / (s.i * 3) else 0
def Gm.idx (s : Gm) (n : Int) : Int := if s.hasI n then (n - 1) % (s.i * 3) else 0
def Gm.slt (s : Gm) (n : Int) : Int := s.idx n % 3
def Gm.sec (s : Gm) (n : Int) : Int := if s.hasI n then 2 + s.grp n * s.span + 2 + s.idx n / 3 else 0
/-- What an inode's numbers are. -/
theorem Gm.inoF {s : Gm} {n : Int} (h : s.hasI n) : 0 ≤ s.grp n ∧ s.grp n < s.g ∧ 0 ≤ s.idx n ∧ s.idx n < s.i * 3 ∧ (n - 1).tdiv (s.i * 3) = s.grp n ∧ (n - 1).tmod (s.i * 3) = s.idx n ∧ s.grp n * (s.i * 3) + s.idx n = n - 1 := by
  have e1 : s.grp n = (n - 1) / (s.i * 3) := if_pos h
  have e2 : s.idx n = (n - 1) % (s.i * 3) := if_pos h
  have e3 : s.inodes = s.g * (s.i * 3) := if_pos h.1
  obtain ⟨ho, h1, h2⟩ := h
  have hi := ho.2.2.1
  rw [e3] at h2
  rw [e1, e2]
  have q := Int.mul_ediv_add_emod (n - 1) (s.i * 3)
  refine ⟨Int.ediv_nonneg (by omega) (by omega), Int.ediv_lt_of_lt_mul (by omega) (by omega), Int.emod_nonneg _ (by omega), Int.emod_lt_of_pos _ (by omega), Int.tdiv_eq_ediv_of_nonneg (by omega), Int.tmod_eq_emod_of_nonneg (by omega), ?_⟩
  rw [Int.mul_comm]; exact q
/-- A block of k noughts that may be written. -/
def Zat (w : World) (b k : Nat) : Prop := ∀ i, i < k → w.cell? ⟨b, i, none⟩ = some (.int .i64 0) ∧ w.frozen? ⟨b, i, none⟩ = false
theorem Zat.later {w w' : World} {b k : Nat} (h : Zat w b k) (y : Below w.heap.size w w') : Zat w' b k := fun i hi => by
  have hl := World.block_lt_of_cell? w ⟨b, i, none⟩ (h i hi).1
  exact ⟨by rw [y.cell (p := ⟨b, i, none⟩) hl]; exact (h i hi).1, by rw [y.frozen (p := ⟨b, i, none⟩) hl]; exact (h i hi).2⟩
theorem Zat.made4 (w : World) (t : TypeId) : Zat (w.alloc (.cells #[.int .i64 0, .int .i64 0, .int .i64 0, .int .i64 0] t)) w.heap.size 4 := fun i hi => by
  match i, hi with
  | 0, _ => exact ⟨by simp [go_sem], by simp [go_sem]⟩
  | 1, _ => exact ⟨by simp [go_sem], by simp [go_sem]⟩
  | 2, _ => exact ⟨by simp [go_sem], by simp [go_sem]⟩
  | 3, _ => exact ⟨by simp [go_sem], by simp [go_sem]⟩
theorem Zat.made3 (w : World) (t : TypeId) : Zat (w.alloc (.cells #[.int .i64 0, .int .i64 0, .int .i64 0] t)) w.heap.size 3 := fun i hi => by
  match i, hi with
  | 0, _ => exact ⟨by simp [go_sem], by simp [go_sem]⟩
  | 1, _ => exact ⟨by simp [go_sem], by simp [go_sem]⟩
  | 2, _ => exact ⟨by simp [go_sem], by simp [go_sem]⟩
theorem size_made (w : World) (o : Obj) : (w.alloc o).heap.size = w.heap.size + 1 := by simp

set_option maxHeartbeats 2000000 in
theorem inode_yes (s : Gm) (n : Int) (w : World) (h : s.hasI n) :
    Calls Try.prog 11 #[.agg #[.int .i64 s.g, .int .i64 s.i, .int .i64 s.d], .int .i64 n] w fun e w' => e = .returned (.tuple #[.agg #[.int .i64 (s.sec n), .int .i64 (s.slt n), .int .i64 (s.grp n), .int .i64 (s.idx n)], .int .i64 0]) ∧ Below w.heap.size w w' := by
  have hA : Gat ((w.alloc (.cells #[.int .i64 s.g, .int .i64 s.i, .int .i64 s.d] 23)).alloc (.cells #[.int .i64 0, .int .i64 0, .int .i64 0, .int .i64 0] 28)) w.heap.size s := (Gat.made w s).later (below_made _ _)
  have hZ : Zat ((w.alloc (.cells #[.int .i64 s.g, .int .i64 s.i, .int .i64 s.d] 23)).alloc (.cells #[.int .i64 0, .int .i64 0, .int .i64 0, .int .i64 0] 28)) (w.heap.size + 1) 4 := by
    have := Zat.made4 (w.alloc (.cells #[.int .i64 s.g, .int .i64 s.i, .int .i64 s.d] 23)) 28
    rwa [size_made] at this
  have bW : Below w.heap.size w ((w.alloc (.cells #[.int .i64 s.g, .int .i64 s.i, .int .i64 s.d] 23)).alloc (.cells #[.int .i64 0, .int .i64 0, .int .i64 0, .int .i64 0] 28)) := bnext (below_made _ _) (below_made _ _) (Nat.le_refl _)
  obtain ⟨g0, g1, x0, x1, ed, em, _⟩ := Gm.inoF h
  obtain ⟨ho, n1, n2⟩ := h
  have es : s.sec n = 2 + s.grp n * s.span + 2 + s.idx n / 3 := if_pos ⟨ho, n1, n2⟩
  have et : s.slt n = s.idx n % 3 := rfl
  rw [es, et]; clear es et
  have i1 := ho.2.2.1
  have i2 := ho.2.2.2.1
  have i3 := ho.2.1
  have nB : s.inodes ≤ 192 := by unfold Gm.inodes; rw [if_pos ho]; exact (Gm.inoB ho).2
  have hB := Gm.prodB ho g0 (by omega)
  obtain ⟨p0, p1⟩ := hB
  generalize s.grp n = Y at *
  generalize s.idx n = X at *
  have d3 : X.tdiv 3 = X / 3 := Int.tdiv_eq_ediv_of_nonneg x0
  have m3 : X.tmod 3 = X % 3 := Int.tmod_eq_emod_of_nonneg x0
  have nz : ¬ s.i * 3 = 0 := by omega
  go_enter Try.func11, Try.ntmps11
  go_wp2_with fail
  generalize (w.alloc (.cells #[.int .i64 s.g, .int .i64 s.i, .int .i64 s.d] 23)).alloc (.cells #[.int .i64 0, .int .i64 0, .int .i64 0, .int .i64 0] 28) = W0 at *
  refine (inodes_any s _).mono ?_
  rintro e W ⟨rfl, b1⟩
  have bW1 := bnext bW b1 (Nat.le_refl _)
  have hA1 := hA.later b1
  have hZ1 := hZ.later b1
  clear hA hZ bW b1
  go_wp2_with fail
  have hS := hA1.held
  have _t := ho
  have ew : IntKind.i64.wrap Y = Y := by rw [IntKind.wrap_i64]; omega
  go_region_held3 (fun w' => Below W.heap.size W w' ∧ w'.cell? ⟨w.heap.size, 0, none⟩ = some (.int .i64 s.g) ∧ w'.cell? ⟨w.heap.size, 1, none⟩ = some (.int .i64 s.i) ∧ w'.cell? ⟨w.heap.size, 2, none⟩ = some (.int .i64 s.d))
    (first | assumption | exact hS _ (Below.refl _ _).drew | exact hS _ (bnext (And.left (by assumption)) b3 (Nat.le_refl _)) | exact hS _ (bnext (And.left (by assumption)) b2 (Nat.le_refl _)))
    (first
    | (go_at_call 27; clear _t; refine (groupInodes_ok s _ (by omega) (by omega)).mono ?_; rintro e w2 ⟨rfl, b2⟩)
    | (go_at_call 27; refine (groupInodes_ok s _ (by omega) (by omega)).mono ?_; rintro e w3 ⟨rfl, b3⟩))
  have hB3 : Below W.heap.size W w3 := And.left (by assumption)
  have hA3 := hA1.later hB3
  have hZ3 := hZ1.later hB3
  have bW3 := bnext bW1 hB3 (Nat.le_refl _)
  clear hS hA1 hZ1 b2 b3 hB3 bW1
  have c0 := hA3.c0
  have c1 := hA3.c1
  have c2 := hA3.c2
  go_wp2_with fail
  refine (start_ok s _ _ ho g0 (by omega)).mono ?_
  rintro e w4 ⟨rfl, b4⟩
  obtain ⟨y0, z0⟩ := hZ3.later b4 0 (by decide)
  obtain ⟨y1, z1⟩ := hZ3.later b4 1 (by decide)
  obtain ⟨y2, z2⟩ := hZ3.later b4 2 (by decide)
  obtain ⟨y3, z3⟩ := hZ3.later b4 3 (by decide)
  have bW4 := bnext bW3 b4 (Nat.le_refl _)
  clear c0 c1 c2 hA3 hZ3 b4 bW3
  have q3 : X / 3 ≤ 8 := by omega
  have q4 : 0 ≤ X / 3 := by omega
  go_wp2
  refine bodyPost_ret (v := .tuple #[.agg #[.int .i64 (2 + Y * s.span + 2 + X / 3), .int .i64 (X % 3), .int .i64 Y, .int .i64 X], .int .i64 0]) (by simp [results, Try.results11, go_sem, World.cell?_setCell_same, World.cell?_setCell_other, y0, y1, y2, y3]) rfl ⟨rfl, ?_⟩
  exact (((bW4.setCell (by simp) _).setCell (by simp) _).setCell (by simp) _).setCell (by simp) _
set_option maxHeartbeats 2000000 in
theorem inode_no (s : Gm) (n : Int) (w : World) (h : ¬ s.hasI n) :
    Calls Try.prog 11 #[.agg #[.int .i64 s.g, .int .i64 s.i, .int .i64 s.d], .int .i64 n] w fun e w' => e = .returned (.tuple #[.agg #[.int .i64 0, .int .i64 0, .int .i64 0, .int .i64 0], .int .i64 2]) ∧ Below w.heap.size w w' := by
  by_cases n0 : n < 1
  · go_enter Try.func11, Try.ntmps11
    go_wp2
    refine bodyPost_ret (v := .tuple #[.agg #[.int .i64 0, .int .i64 0, .int .i64 0, .int .i64 0], .int .i64 2]) (by simp [results, Try.results11, go_sem]) rfl ⟨rfl, ?_⟩
    go_grown
  · have n1 : s.inodes < n := by
      by_cases ho : s.ok
      · have : ¬ (1 ≤ n ∧ n ≤ s.inodes) := fun x => h ⟨ho, x⟩
        omega
      · have : s.inodes = 0 := if_neg ho
        omega
    have hZ : Zat ((w.alloc (.cells #[.int .i64 s.g, .int .i64 s.i, .int .i64 s.d] 23)).alloc (.cells #[.int .i64 0, .int .i64 0, .int .i64 0, .int .i64 0] 28)) (w.heap.size + 1) 4 := by
      have := Zat.made4 (w.alloc (.cells #[.int .i64 s.g, .int .i64 s.i, .int .i64 s.d] 23)) 28
      rwa [size_made] at this
    have bW : Below w.heap.size w ((w.alloc (.cells #[.int .i64 s.g, .int .i64 s.i, .int .i64 s.d] 23)).alloc (.cells #[.int .i64 0, .int .i64 0, .int .i64 0, .int .i64 0] 28)) := bnext (below_made _ _) (below_made _ _) (Nat.le_refl _)
    go_enter Try.func11, Try.ntmps11
    go_wp2_with fail
    generalize (w.alloc (.cells #[.int .i64 s.g, .int .i64 s.i, .int .i64 s.d] 23)).alloc (.cells #[.int .i64 0, .int .i64 0, .int .i64 0, .int .i64 0] 28) = W0 at *
    refine (inodes_any s _).mono ?_
    rintro e W ⟨rfl, b4⟩
    obtain ⟨y0, z0⟩ := hZ.later b4 0 (by decide)
    obtain ⟨y1, z1⟩ := hZ.later b4 1 (by decide)
    obtain ⟨y2, z2⟩ := hZ.later b4 2 (by decide)
    obtain ⟨y3, z3⟩ := hZ.later b4 3 (by decide)
    have bW4 := bnext bW b4 (Nat.le_refl _)
    clear hZ b4 bW
    go_wp2
    refine bodyPost_ret (v := .tuple #[.agg #[.int .i64 0, .int .i64 0, .int .i64 0, .int .i64 0], .int .i64 2]) (by simp [results, Try.results11, go_sem, World.cell?_setCell_same, World.cell?_setCell_other, y0, y1, y2, y3]) rfl ⟨rfl, ?_⟩
    exact (((bW4.setCell (by simp) _).setCell (by simp) _).setCell (by simp) _).setCell (by simp) _
theorem inode_any (s : Gm) (n : Int) (w : World) :
    Calls Try.prog 11 #[.agg #[.int .i64 s.g, .int .i64 s.i, .int .i64 s.d], .int .i64 n] w fun e w' => e = .returned (.tuple #[.agg #[.int .i64 (s.sec n), .int .i64 (s.slt n), .int .i64 (s.grp n), .int .i64 (s.idx n)], .int .i64 (s.ierr n)]) ∧ Below w.heap.size w w' := by
  by_cases h : s.hasI n
  · have e : s.ierr n = 0 := if_pos h
    rw [e]; exact inode_yes s n w h
  · have e : s.ierr n = 2 := if_neg h
    have e1 : s.sec n = 0 := if_neg h
    have e2 : s.grp n = 0 := if_neg h
    have e3 : s.idx n = 0 := if_neg h
    have e4 : s.slt n = 0 := by unfold Gm.slt; rw [e3]; rfl
    rw [e, e1, e2, e3, e4]; exact inode_no s n w h
end Go.Proofs.Ytdinkcaeanehgaa
