/-
  Texts of my own, joined: no statement is proved here.
-/
import Derived.Test.YtennaimdffohfaaGreatDoorJav
set_option linter.unusedSimpArgs false
set_option linter.unusedVariables false
namespace Go.Proofs.YtennaimdffohfaaGreatDoor
open Go.ChangeShapes Go.WideShapes Go.ChangeAt Go.RowKit
abbrev Gm.hasI (s : Gm) (n : Int) : Prop := s.ok ∧ 1 ≤ n ∧ n ≤ s.inodes
def Gm.ierr (s : Gm) (n : Int) : Int := if s.hasI n then 0 else 2
def Gm.grp (s : Gm) (n : Int) : Int := if s.hasI n then (n - 1) / (s.i * 3) else 0
def Gm.idx (s : Gm) (n : Int) : Int := if s.hasI n then (n - 1) % (s.i * 3) else 0
def Gm.slt (s : Gm) (n : Int) : Int := s.idx n % 3
def Gm.sec (s : Gm) (n : Int) : Int := if s.hasI n then 2 + s.grp n * s.span + 2 + s.idx n / 3 else 0
theorem Gm.inoF {s : Gm} {n : Int} (h : s.hasI n) : 0 ≤ s.grp n ∧ s.grp n < s.g ∧ 0 ≤ s.idx n ∧ s.idx n < s.i * 3 ∧ (n - 1).tdiv (s.i * 3) = s.grp n ∧ (n - 1).tmod (s.i * 3) = s.idx n ∧ s.grp n * (s.i * 3) + s.idx n = n - 1 := by
  have e1 : s.grp n = (n - 1) / (s.i * 3) := if_pos h
  have e2 : s.idx n = (n - 1) % (s.i * 3) := if_pos h
  have e3 : s.inodes = s.g * (s.i * 3) := if_pos h.1
  obtain ⟨ho, h1, h2⟩ := h
  have hi := ho.2.2.1
  rw [e3] at h2
  rw [e1, e2]
  have q := Int.mul_ediv_add_emod (n - 1) (s.i * 3)
  refine ⟨Int.ediv_nonneg (by omega) (by omega), Int.ediv_lt_of_lt_mul (by omega) (by omega), Int.emod_nonneg _ (by omega), Int.emod_lt_of_pos _ (by omega), Int.tdiv_eq_ediv_of_nonneg (by omega), Int.tmod_eq_emod_of_nonneg (by omega), ?_⟩
  rw [Int.mul_comm]; exact q
def Zat (w : World) (b k : Nat) : Prop := ∀ i, i < k → w.cell? ⟨b, i, none⟩ = some (.int .i64 0) ∧ w.frozen? ⟨b, i, none⟩ = false
theorem Zat.later {w w' : World} {b k : Nat} (h : Zat w b k) (y : Below w.heap.size w w') : Zat w' b k := fun i hi => by
  have hl := World.block_lt_of_cell? w ⟨b, i, none⟩ (h i hi).1
  exact ⟨by rw [y.cell (p := ⟨b, i, none⟩) hl]; exact (h i hi).1, by rw [y.frozen (p := ⟨b, i, none⟩) hl]; exact (h i hi).2⟩
theorem Zat.made4 (w : World) (t : TypeId) : Zat (w.alloc (.cells #[.int .i64 0, .int .i64 0, .int .i64 0, .int .i64 0] t)) w.heap.size 4 := fun i hi => by
  match i, hi with
  | 0, _ => exact ⟨by simp [go_sem], by simp [go_sem]⟩
  | 1, _ => exact ⟨by simp [go_sem], by simp [go_sem]⟩
  | 2, _ => exact ⟨by simp [go_sem], by simp [go_sem]⟩
  | 3, _ => exact ⟨by simp [go_sem], by simp [go_sem]⟩
theorem Zat.made3 (w : World) (t : TypeId) : Zat (w.alloc (.cells #[.int .i64 0, .int .i64 0, .int .i64 0] t)) w.heap.size 3 := fun i hi => by
  match i, hi with
  | 0, _ => exact ⟨by simp [go_sem], by simp [go_sem]⟩
  | 1, _ => exact ⟨by simp [go_sem], by simp [go_sem]⟩
  | 2, _ => exact ⟨by simp [go_sem], by simp [go_sem]⟩
theorem size_made (w : World) (o : Obj) : (w.alloc o).heap.size = w.heap.size + 1 := by simp
set_option maxHeartbeats 2000000 in
theorem inode_yes (s : Gm) (n : Int) (w : World) (h : s.hasI n) :
    Calls Tryz.prog 20 #[.agg #[.int .i64 s.g, .int .i64 s.i, .int .i64 s.d], .int .i64 n] w fun e w' => e = .returned (.tuple #[.agg #[.int .i64 (s.sec n), .int .i64 (s.slt n), .int .i64 (s.grp n), .int .i64 (s.idx n)], .int .i64 0]) ∧ Below w.heap.size w w' := by
  have hA : Gat ((w.alloc (.cells #[.int .i64 s.g, .int .i64 s.i, .int .i64 s.d] 37)).alloc (.cells #[.int .i64 0, .int .i64 0, .int .i64 0, .int .i64 0] 69)) w.heap.size s := (Gat.made w s).later (below_made _ _)
  have hZ : Zat ((w.alloc (.cells #[.int .i64 s.g, .int .i64 s.i, .int .i64 s.d] 37)).alloc (.cells #[.int .i64 0, .int .i64 0, .int .i64 0, .int .i64 0] 69)) (w.heap.size + 1) 4 := by
    have := Zat.made4 (w.alloc (.cells #[.int .i64 s.g, .int .i64 s.i, .int .i64 s.d] 37)) 69
    rwa [size_made] at this
  have bW : Below w.heap.size w ((w.alloc (.cells #[.int .i64 s.g, .int .i64 s.i, .int .i64 s.d] 37)).alloc (.cells #[.int .i64 0, .int .i64 0, .int .i64 0, .int .i64 0] 69)) := bnext (below_made _ _) (below_made _ _) (Nat.le_refl _)
  obtain ⟨g0, g1, x0, x1, ed, em, _⟩ := Gm.inoF h
  obtain ⟨ho, n1, n2⟩ := h
  have es : s.sec n = 2 + s.grp n * s.span + 2 + s.idx n / 3 := if_pos ⟨ho, n1, n2⟩
  have et : s.slt n = s.idx n % 3 := rfl
  rw [es, et]; clear es et
  have i1 := ho.2.2.1
  have i2 := ho.2.2.2.1
  have i3 := ho.2.1
  have nB : s.inodes ≤ 192 := by unfold Gm.inodes; rw [if_pos ho]; exact (Gm.inoB ho).2
  have hB := Gm.prodB ho g0 (by omega)
  obtain ⟨p0, p1⟩ := hB
  generalize s.grp n = Y at *
  generalize s.idx n = X at *
  have d3 : X.tdiv 3 = X / 3 := Int.tdiv_eq_ediv_of_nonneg x0
  have m3 : X.tmod 3 = X % 3 := Int.tmod_eq_emod_of_nonneg x0
  have nz : ¬ s.i * 3 = 0 := by omega
  go_enter Tryz.func20, Tryz.ntmps20
  go_wp2_with fail
  generalize (w.alloc (.cells #[.int .i64 s.g, .int .i64 s.i, .int .i64 s.d] 37)).alloc (.cells #[.int .i64 0, .int .i64 0, .int .i64 0, .int .i64 0] 69) = W0 at *
  refine (inodes_any s _).mono ?_
  rintro e W ⟨rfl, b1⟩
  have bW1 := bnext bW b1 (Nat.le_refl _)
  have hA1 := hA.later b1
  have hZ1 := hZ.later b1
  clear hA hZ bW b1
  go_wp2_with fail
  have hS := hA1.held
  have _t := ho
  have ew : IntKind.i64.wrap Y = Y := by rw [IntKind.wrap_i64]; omega
  go_region_held3 (fun w' => Below W.heap.size W w' ∧ w'.cell? ⟨w.heap.size, 0, none⟩ = some (.int .i64 s.g) ∧ w'.cell? ⟨w.heap.size, 1, none⟩ = some (.int .i64 s.i) ∧ w'.cell? ⟨w.heap.size, 2, none⟩ = some (.int .i64 s.d))
    (first | assumption | exact hS _ (Below.refl _ _).drew | exact hS _ (bnext (And.left (by assumption)) b3 (Nat.le_refl _)) | exact hS _ (bnext (And.left (by assumption)) b2 (Nat.le_refl _)))
    (first
    | (go_at_call 51; clear _t; refine (groupInodes_ok s _ (by omega) (by omega)).mono ?_; rintro e w2 ⟨rfl, b2⟩)
    | (go_at_call 51; refine (groupInodes_ok s _ (by omega) (by omega)).mono ?_; rintro e w3 ⟨rfl, b3⟩))
  have hB3 : Below W.heap.size W w3 := And.left (by assumption)
  have hA3 := hA1.later hB3
  have hZ3 := hZ1.later hB3
  have bW3 := bnext bW1 hB3 (Nat.le_refl _)
  clear hS hA1 hZ1 b2 b3 hB3 bW1
  have c0 := hA3.c0
  have c1 := hA3.c1
  have c2 := hA3.c2
  go_wp2_with fail
  refine (start_ok s _ _ ho g0 (by omega)).mono ?_
  rintro e w4 ⟨rfl, b4⟩
  obtain ⟨y0, z0⟩ := hZ3.later b4 0 (by decide)
  obtain ⟨y1, z1⟩ := hZ3.later b4 1 (by decide)
  obtain ⟨y2, z2⟩ := hZ3.later b4 2 (by decide)
  obtain ⟨y3, z3⟩ := hZ3.later b4 3 (by decide)
  have bW4 := bnext bW3 b4 (Nat.le_refl _)
  clear c0 c1 c2 hA3 hZ3 b4 bW3
  have q3 : X / 3 ≤ 8 := by omega
  have q4 : 0 ≤ X / 3 := by omega
  go_wp2
  refine bodyPost_ret (v := .tuple #[.agg #[.int .i64 (2 + Y * s.span + 2 + X / 3), .int .i64 (X % 3), .int .i64 Y, .int .i64 X], .int .i64 0]) (by simp [results, Tryz.results20, go_sem, World.cell?_setCell_same, World.cell?_setCell_other, y0, y1, y2, y3]) rfl ⟨rfl, ?_⟩
  exact (((bW4.setCell (by simp) _).setCell (by simp) _).setCell (by simp) _).setCell (by simp) _
set_option maxHeartbeats 2000000 in
theorem inode_no (s : Gm) (n : Int) (w : World) (h : ¬ s.hasI n) :
    Calls Tryz.prog 20 #[.agg #[.int .i64 s.g, .int .i64 s.i, .int .i64 s.d], .int .i64 n] w fun e w' => e = .returned (.tuple #[.agg #[.int .i64 0, .int .i64 0, .int .i64 0, .int .i64 0], .int .i64 2]) ∧ Below w.heap.size w w' := by
  by_cases n0 : n < 1
  · go_enter Tryz.func20, Tryz.ntmps20
    go_wp2
    refine bodyPost_ret (v := .tuple #[.agg #[.int .i64 0, .int .i64 0, .int .i64 0, .int .i64 0], .int .i64 2]) (by simp [results, Tryz.results20, go_sem]) rfl ⟨rfl, ?_⟩
    go_grown
  · have n1 : s.inodes < n := by
      by_cases ho : s.ok
      · have : ¬ (1 ≤ n ∧ n ≤ s.inodes) := fun x => h ⟨ho, x⟩
        omega
      · have : s.inodes = 0 := if_neg ho
        omega
    have hZ : Zat ((w.alloc (.cells #[.int .i64 s.g, .int .i64 s.i, .int .i64 s.d] 37)).alloc (.cells #[.int .i64 0, .int .i64 0, .int .i64 0, .int .i64 0] 69)) (w.heap.size + 1) 4 := by
      have := Zat.made4 (w.alloc (.cells #[.int .i64 s.g, .int .i64 s.i, .int .i64 s.d] 37)) 69
      rwa [size_made] at this
    have bW : Below w.heap.size w ((w.alloc (.cells #[.int .i64 s.g, .int .i64 s.i, .int .i64 s.d] 37)).alloc (.cells #[.int .i64 0, .int .i64 0, .int .i64 0, .int .i64 0] 69)) := bnext (below_made _ _) (below_made _ _) (Nat.le_refl _)
    go_enter Tryz.func20, Tryz.ntmps20
    go_wp2_with fail
    generalize (w.alloc (.cells #[.int .i64 s.g, .int .i64 s.i, .int .i64 s.d] 37)).alloc (.cells #[.int .i64 0, .int .i64 0, .int .i64 0, .int .i64 0] 69) = W0 at *
    refine (inodes_any s _).mono ?_
    rintro e W ⟨rfl, b4⟩
    obtain ⟨y0, z0⟩ := hZ.later b4 0 (by decide)
    obtain ⟨y1, z1⟩ := hZ.later b4 1 (by decide)
    obtain ⟨y2, z2⟩ := hZ.later b4 2 (by decide)
    obtain ⟨y3, z3⟩ := hZ.later b4 3 (by decide)
    have bW4 := bnext bW b4 (Nat.le_refl _)
    clear hZ b4 bW
    go_wp2
    refine bodyPost_ret (v := .tuple #[.agg #[.int .i64 0, .int .i64 0, .int .i64 0, .int .i64 0], .int .i64 2]) (by simp [results, Tryz.results20, go_sem, World.cell?_setCell_same, World.cell?_setCell_other, y0, y1, y2, y3]) rfl ⟨rfl, ?_⟩
    exact (((bW4.setCell (by simp) _).setCell (by simp) _).setCell (by simp) _).setCell (by simp) _
theorem inode_any (s : Gm) (n : Int) (w : World) :
    Calls Tryz.prog 20 #[.agg #[.int .i64 s.g, .int .i64 s.i, .int .i64 s.d], .int .i64 n] w fun e w' => e = .returned (.tuple #[.agg #[.int .i64 (s.sec n), .int .i64 (s.slt n), .int .i64 (s.grp n), .int .i64 (s.idx n)], .int .i64 (s.ierr n)]) ∧ Below w.heap.size w w' := by
  by_cases h : s.hasI n
  · have e : s.ierr n = 0 := if_pos h
    rw [e]; exact inode_yes s n w h
  · have e : s.ierr n = 2 := if_neg h
    have e1 : s.sec n = 0 := if_neg h
    have e2 : s.grp n = 0 := if_neg h
    have e3 : s.idx n = 0 := if_neg h
    have e4 : s.slt n = 0 := by unfold Gm.slt; rw [e3]; rfl
    rw [e, e1, e2, e3, e4]; exact inode_no s n w h
def Gm.kindAt (s : Gm) (r : Int) : Int := if r = 0 then 2 else if r = 1 then 3 else if r < 2 + s.i then 4 else 0
def Gm.indAt (s : Gm) (r : Int) : Int := if r = 0 then 0 else if r = 1 then 0 else if r < 2 + s.i then r - 2 else r - (2 + s.i)
abbrev Gm.hasW (s : Gm) (x : Int) : Prop := 0 ≤ x ∧ x < s.total
def Gm.werr (s : Gm) (x : Int) : Int := if s.hasW x then 0 else 2
def Gm.pk (s : Gm) (x : Int) : Int := if s.hasW x then if x < 2 then 1 else s.kindAt ((x - 2) % s.span) else 0
def Gm.pg (s : Gm) (x : Int) : Int := if s.hasW x then if x < 2 then 0 else (x - 2) / s.span else 0
def Gm.pi (s : Gm) (x : Int) : Int := if s.hasW x then if x < 2 then x else s.indAt ((x - 2) % s.span) else 0
set_option maxHeartbeats 2000000 in
theorem placeAt_ok (s : Gm) (x : Int) (w : World) (h : s.ok) (h0 : 0 ≤ x) (h1 : x ≤ 200) :
    Calls Tryz.prog 141 #[.agg #[.int .i64 s.g, .int .i64 s.i, .int .i64 s.d], .int .i64 x] w fun e w' => e = .returned (.agg #[.int .i64 (s.kindAt x), .int .i64 0, .int .i64 (s.indAt x)]) ∧ Below w.heap.size w w' := by
  have hA : Gat ((w.alloc (.cells #[.int .i64 s.g, .int .i64 s.i, .int .i64 s.d] 37)).alloc (.cells #[.int .i64 0, .int .i64 0, .int .i64 0] 204)) w.heap.size s := (Gat.made w s).later (below_made _ _)
  have hZ : Zat ((w.alloc (.cells #[.int .i64 s.g, .int .i64 s.i, .int .i64 s.d] 37)).alloc (.cells #[.int .i64 0, .int .i64 0, .int .i64 0] 204)) (w.heap.size + 1) 3 := by
    have := Zat.made3 (w.alloc (.cells #[.int .i64 s.g, .int .i64 s.i, .int .i64 s.d] 37)) 204
    rwa [size_made] at this
  have bW : Below w.heap.size w ((w.alloc (.cells #[.int .i64 s.g, .int .i64 s.i, .int .i64 s.d] 37)).alloc (.cells #[.int .i64 0, .int .i64 0, .int .i64 0] 204)) := bnext (below_made _ _) (below_made _ _) (Nat.le_refl _)
  unfold Gm.kindAt Gm.indAt
  by_cases x0 : x = 0
  · subst x0
    go_enter Tryz.func141, Tryz.ntmps141
    go_wp2
    refine bodyPost_ret (v := .agg #[.int .i64 2, .int .i64 0, .int .i64 0]) (by simp [results, Tryz.results141, go_sem]) rfl ⟨rfl, ?_⟩
    go_grown
  · by_cases x1 : x = 1
    · subst x1
      go_enter Tryz.func141, Tryz.ntmps141
      go_wp2
      refine bodyPost_ret (v := .agg #[.int .i64 3, .int .i64 0, .int .i64 0]) (by simp [results, Tryz.results141, go_sem]) rfl ⟨rfl, ?_⟩
      go_grown
    · rw [if_neg x0, if_neg x0, if_neg x1, if_neg x1]
      have i1 := h.2.2.1
      have i2 := h.2.2.2.1
      by_cases x2 : x < 2 + s.i
      · rw [if_pos x2, if_pos x2]
        go_enter Tryz.func141, Tryz.ntmps141
        go_wp2_with fail
        generalize (w.alloc (.cells #[.int .i64 s.g, .int .i64 s.i, .int .i64 s.d] 37)).alloc (.cells #[.int .i64 0, .int .i64 0, .int .i64 0] 204) = W0 at *
        refine (dataAt_ok s _ h).mono ?_
        rintro e W ⟨rfl, b1⟩
        obtain ⟨y0, z0⟩ := hZ.later b1 0 (by decide)
        obtain ⟨y1, z1⟩ := hZ.later b1 1 (by decide)
        obtain ⟨y2, z2⟩ := hZ.later b1 2 (by decide)
        have bW1 := bnext bW b1 (Nat.le_refl _)
        clear hA hZ bW b1
        go_wp2
        refine bodyPost_ret (v := .agg #[.int .i64 4, .int .i64 0, .int .i64 (x - 2)]) (by simp [results, Tryz.results141, go_sem, World.cell?_setCell_same, World.cell?_setCell_other, y0, y1, y2]) rfl ⟨rfl, ?_⟩
        exact ((bW1.setCell (by simp) _).setCell (by simp) _).setCell (by simp) _
      · rw [if_neg x2, if_neg x2]
        go_enter Tryz.func141, Tryz.ntmps141
        go_wp2_with fail
        generalize (w.alloc (.cells #[.int .i64 s.g, .int .i64 s.i, .int .i64 s.d] 37)).alloc (.cells #[.int .i64 0, .int .i64 0, .int .i64 0] 204) = W0 at *
        refine (dataAt_ok s _ h).mono ?_
        rintro e W ⟨rfl, b1⟩
        have hA1 := hA.later b1
        have hZ1 := hZ.later b1
        have bW1 := bnext bW b1 (Nat.le_refl _)
        clear hA hZ bW b1
        obtain ⟨c0, c1, c2⟩ := hA1
        go_wp2_with fail
        refine (dataAt_ok s _ h).mono ?_
        rintro e w2 ⟨rfl, b2⟩
        obtain ⟨y0, z0⟩ := hZ1.later b2 0 (by decide)
        obtain ⟨y1, z1⟩ := hZ1.later b2 1 (by decide)
        obtain ⟨y2, z2⟩ := hZ1.later b2 2 (by decide)
        have bW2 := bnext bW1 b2 (Nat.le_refl _)
        clear hZ1 bW1 b2 c0 c1 c2
        go_wp2
        refine bodyPost_ret (v := .agg #[.int .i64 0, .int .i64 0, .int .i64 (x - (2 + s.i))]) (by simp [results, Tryz.results141, go_sem, World.cell?_setCell_same, World.cell?_setCell_other, y0, y1, y2]) rfl ⟨rfl, ?_⟩
        exact ((bW2.setCell (by simp) _).setCell (by simp) _).setCell (by simp) _
structure Pat (w : World) (b : Nat) (x y z : Int) : Prop where
  c0 : w.cell? ⟨b, 0, none⟩ = some (.int .i64 x)
  c1 : w.cell? ⟨b, 1, none⟩ = some (.int .i64 y)
  c2 : w.cell? ⟨b, 2, none⟩ = some (.int .i64 z)
  f0 : w.frozen? ⟨b, 0, none⟩ = false
  f1 : w.frozen? ⟨b, 1, none⟩ = false
  f2 : w.frozen? ⟨b, 2, none⟩ = false
theorem Pat.lt {w : World} {b : Nat} {x y z : Int} (h : Pat w b x y z) : b < w.heap.size := World.block_lt_of_cell? w ⟨b, 0, none⟩ h.c0
theorem Pat.later {w w' : World} {b : Nat} {x y z : Int} (h : Pat w b x y z) (k : Below w.heap.size w w') : Pat w' b x y z :=
  ⟨by rw [k.cell (p := ⟨b, 0, none⟩) h.lt]; exact h.c0, by rw [k.cell (p := ⟨b, 1, none⟩) h.lt]; exact h.c1, by rw [k.cell (p := ⟨b, 2, none⟩) h.lt]; exact h.c2,
   by rw [k.frozen (p := ⟨b, 0, none⟩) h.lt]; exact h.f0, by rw [k.frozen (p := ⟨b, 1, none⟩) h.lt]; exact h.f1, by rw [k.frozen (p := ⟨b, 2, none⟩) h.lt]; exact h.f2⟩
theorem Pat.made (w : World) (x y z : Int) (t : TypeId) : Pat (w.alloc (.cells #[.int .i64 x, .int .i64 y, .int .i64 z] t)) w.heap.size x y z := by
  constructor <;> simp [go_sem]
theorem Pat.put {w : World} {b : Nat} (h : Zat w b 3) (x y z : Int) : Pat (((w.setCell ⟨b, 0, none⟩ (.int .i64 x)).setCell ⟨b, 1, none⟩ (.int .i64 y)).setCell ⟨b, 2, none⟩ (.int .i64 z)) b x y z := by
  have y0 := (h 0 (by decide)).1
  have y1 := (h 1 (by decide)).1
  have y2 := (h 2 (by decide)).1
  have z0 := (h 0 (by decide)).2
  have z1 := (h 1 (by decide)).2
  have z2 := (h 2 (by decide)).2
  constructor <;> simp [World.cell?_setCell_same, World.cell?_setCell_other, y0, y1, y2, z0, z1, z2]
theorem Gm.wF {s : Gm} {x : Int} (h : s.hasW x) (h2 : 2 ≤ x) : s.ok ∧ x ≤ 2000 ∧ (x - 2).tdiv s.span = s.pg x ∧ (x - 2).tmod s.span = (x - 2) % s.span ∧ 0 ≤ s.pg x ∧ s.pg x < s.g ∧ 0 ≤ (x - 2) % s.span ∧ (x - 2) % s.span < s.span ∧ s.pg x * s.span + (x - 2) % s.span = x - 2 := by
  have ho : s.ok := by
    by_cases ho : s.ok
    · exact ho
    · have : s.total = 0 := if_neg ho
      have := h.1; have := h.2; omega
  have e1 : s.pg x = (x - 2) / s.span := by unfold Gm.pg; rw [if_pos h, if_neg (by omega)]
  have e2 : s.total = 2 + s.g * s.span := if_pos ho
  have hs := Gm.spanB ho
  have hp := Gm.prodB ho (k := s.g) (by have := ho.1; omega) ho.2.1
  have h3 := h.2
  rw [e2] at h3
  rw [e1]
  have q := Int.mul_ediv_add_emod (x - 2) s.span
  refine ⟨ho, by omega, Int.tdiv_eq_ediv_of_nonneg (by omega), Int.tmod_eq_emod_of_nonneg (by omega), Int.ediv_nonneg (by omega) (by omega), Int.ediv_lt_of_lt_mul (by omega) (by omega), Int.emod_nonneg _ (by omega), Int.emod_lt_of_pos _ (by omega), ?_⟩
  rw [Int.mul_comm]; exact q
set_option maxHeartbeats 2000000 in
theorem where_hi (s : Gm) (x : Int) (w : World) (h : s.hasW x) (h2 : 2 ≤ x) :
    Calls Tryz.prog 117 #[.agg #[.int .i64 s.g, .int .i64 s.i, .int .i64 s.d], .int .i64 x] w fun e w' => e = .returned (.tuple #[.agg #[.int .i64 (s.kindAt ((x - 2) % s.span)), .int .i64 (s.pg x), .int .i64 (s.indAt ((x - 2) % s.span))], .int .i64 0]) ∧ Below w.heap.size w w' := by
  have hA : Gat ((w.alloc (.cells #[.int .i64 s.g, .int .i64 s.i, .int .i64 s.d] 37)).alloc (.cells #[.int .i64 0, .int .i64 0, .int .i64 0] 204)) w.heap.size s := (Gat.made w s).later (below_made _ _)
  have hZ : Zat ((w.alloc (.cells #[.int .i64 s.g, .int .i64 s.i, .int .i64 s.d] 37)).alloc (.cells #[.int .i64 0, .int .i64 0, .int .i64 0] 204)) (w.heap.size + 1) 3 := by
    have := Zat.made3 (w.alloc (.cells #[.int .i64 s.g, .int .i64 s.i, .int .i64 s.d] 37)) 204
    rwa [size_made] at this
  have bW : Below w.heap.size w ((w.alloc (.cells #[.int .i64 s.g, .int .i64 s.i, .int .i64 s.d] 37)).alloc (.cells #[.int .i64 0, .int .i64 0, .int .i64 0] 204)) := bnext (below_made _ _) (below_made _ _) (Nat.le_refl _)
  obtain ⟨ho, xB, ed, em, g0, g1, r0, r1, _⟩ := Gm.wF h h2
  have hg := gamong_any x s.total
  rw [decide_eq_true (show 0 ≤ x ∧ x < s.total from h)] at hg
  have i3 := ho.2.1
  have hs := Gm.spanB ho
  obtain ⟨s0, s1⟩ := hs
  generalize s.pg x = Y at *
  generalize (x - 2) % s.span = R at *
  have nz : ¬ s.span = 0 := by omega
  have ew : IntKind.i64.wrap Y = Y := by rw [IntKind.wrap_i64]; omega
  have ew' : wrap64 Y = Y := by unfold wrap64; omega
  go_enter Tryz.func117, Tryz.ntmps117
  go_wp2_with fail
  generalize (w.alloc (.cells #[.int .i64 s.g, .int .i64 s.i, .int .i64 s.d] 37)).alloc (.cells #[.int .i64 0, .int .i64 0, .int .i64 0] 204) = W0 at *
  refine (total_any s _).mono ?_
  rintro e W ⟨rfl, b1⟩
  have hA1 := hA.later b1
  have hZ1 := hZ.later b1
  have bW1 := bnext bW b1 (Nat.le_refl _)
  clear hA hZ bW b1
  go_wp2_with fail
  refine (hg _).mono ?_
  rintro e u ⟨rfl, rfl⟩
  go_wp2_with fail
  have hS := hA1.held
  go_region_held3 (fun w' => Below W.heap.size W w' ∧ w'.cell? ⟨w.heap.size, 0, none⟩ = some (.int .i64 s.g) ∧ w'.cell? ⟨w.heap.size, 1, none⟩ = some (.int .i64 s.i) ∧ w'.cell? ⟨w.heap.size, 2, none⟩ = some (.int .i64 s.d))
    (first | assumption | exact hS _ (Below.refl _ _).drew | exact hS _ (bnext (And.left (by assumption)) b3 (Nat.le_refl _)) | exact hS _ (bnext (And.left (by assumption)) b2 (Nat.le_refl _)) | exact hS _ (bnext (And.left (by assumption)) (below_made _ _) (Nat.le_refl _)) | exact hS _ (bnext (bnext (bundrew b2) b3 (Nat.le_refl _)) (below_made _ _) (Nat.le_refl _)) | exact hS _ (((Below.setCell (And.left (by assumption)) (Nat.le_refl W.heap.size) _).setCell (Nat.le_refl W.heap.size) _).setCell (Nat.le_refl W.heap.size) _) | exact hS _ (((Below.setCell (And.left (by assumption)) b2.size _).setCell b2.size _).setCell b2.size _))
    (first
    | (go_at_call 81; refine (span_ok s _ ho).mono ?_; rintro e w2 ⟨rfl, b2⟩; try (have hz : Zat w2 W.heap.size 3 := (Zat.made3 W.drew 204).later b2))
    | (go_at_call 141; refine (placeAt_ok s R _ ho r0 (by omega)).mono ?_; rintro e w3 ⟨rfl, b3⟩
       try (have hz : Zat w3 w2.heap.size 3 := (Zat.made3 w2 204).later b3; obtain ⟨y0, z0⟩ := hz 0 (by decide); obtain ⟨y1, z1⟩ := hz 1 (by decide); obtain ⟨y2, z2⟩ := hz 2 (by decide))
       try (have hz' := hz.later b3; obtain ⟨y0, z0⟩ := hz' 0 (by decide); obtain ⟨y1, z1⟩ := hz' 1 (by decide); obtain ⟨y2, z2⟩ := hz' 2 (by decide))))
  · have hV : Below W.heap.size W (w3.alloc (.cells #[.int .i64 (s.kindAt R), .int .i64 0, .int .i64 (s.indAt R)] 204)) := And.left (by assumption)
    have hP : Pat (w3.alloc (.cells #[.int .i64 (s.kindAt R), .int .i64 0, .int .i64 (s.indAt R)] 204)) w3.heap.size (s.kindAt R) 0 (s.indAt R) := Pat.made w3 _ _ _ _
    have hle : W.heap.size ≤ w3.heap.size := (bnext (bundrew b2) b3 (Nat.le_refl W.heap.size)).size
    generalize (w3.alloc (.cells #[.int .i64 (s.kindAt R), .int .i64 0, .int .i64 (s.indAt R)] 204)) = V at *
    have hAV := hA1.later hV
    have hZV := hZ1.later hV
    have bV := bnext bW1 hV (Nat.le_refl _)
    have hlt := World.block_lt_of_cell? W ⟨w.heap.size + 1, 0, none⟩ (hZ1 0 (by decide)).1
    simp only at hlt
    have hne : ¬ w.heap.size + 1 = w3.heap.size := by omega
    have hne' : ¬ w3.heap.size = w.heap.size + 1 := by omega
    have hle2 : w.heap.size ≤ w3.heap.size := by omega
    clear hS hA1 hZ1 hV bW1 hle hlt
    generalize w3.heap.size = β at *
    obtain ⟨c0, c1, c2⟩ := hAV
    go_wp2_with fail
    refine (span_ok s _ ho).mono ?_
    rintro e w5 ⟨rfl, b5⟩
    obtain ⟨o0, o1, o2, o3, o4, o5⟩ := hP.later b5
    obtain ⟨v0, n0⟩ := hZV.later b5 0 (by decide)
    obtain ⟨v1, n1⟩ := hZV.later b5 1 (by decide)
    obtain ⟨v2, n2⟩ := hZV.later b5 2 (by decide)
    have bW5 := bnext bV b5 (Nat.le_refl _)
    clear c0 c1 c2 hZV hP bV b5
    go_wp2
    refine bodyPost_ret (v := .tuple #[.agg #[.int .i64 (s.kindAt R), .int .i64 Y, .int .i64 (s.indAt R)], .int .i64 0]) (by simp [results, Tryz.results117, go_sem, World.cell?_setCell_same, World.cell?_setCell_other, v0, v1, v2]) rfl ⟨rfl, ?_⟩
    exact (((bW5.setCell hle2 _).setCell (by simp) _).setCell (by simp) _).setCell (by simp) _
  · have hV : Below W.heap.size W (((w3.setCell ⟨w2.heap.size, 0, none⟩ (.int .i64 (s.kindAt R))).setCell ⟨w2.heap.size, 1, none⟩ (.int .i64 0)).setCell ⟨w2.heap.size, 2, none⟩ (.int .i64 (s.indAt R))) := And.left (by assumption)
    have hP : Pat (((w3.setCell ⟨w2.heap.size, 0, none⟩ (.int .i64 (s.kindAt R))).setCell ⟨w2.heap.size, 1, none⟩ (.int .i64 0)).setCell ⟨w2.heap.size, 2, none⟩ (.int .i64 (s.indAt R))) w2.heap.size (s.kindAt R) 0 (s.indAt R) := Pat.put hz _ _ _
    have hle : W.heap.size ≤ w2.heap.size := (bundrew b2).size
    generalize (((w3.setCell ⟨w2.heap.size, 0, none⟩ (.int .i64 (s.kindAt R))).setCell ⟨w2.heap.size, 1, none⟩ (.int .i64 0)).setCell ⟨w2.heap.size, 2, none⟩ (.int .i64 (s.indAt R))) = V at *
    have hAV := hA1.later hV
    have hZV := hZ1.later hV
    have bV := bnext bW1 hV (Nat.le_refl _)
    have hlt := World.block_lt_of_cell? W ⟨w.heap.size + 1, 0, none⟩ (hZ1 0 (by decide)).1
    simp only at hlt
    have hne : ¬ w.heap.size + 1 = w2.heap.size := by omega
    have hne' : ¬ w2.heap.size = w.heap.size + 1 := by omega
    have hle2 : w.heap.size ≤ w2.heap.size := by omega
    clear hS hA1 hZ1 hV bW1 hle hlt
    generalize w2.heap.size = β at *
    obtain ⟨c0, c1, c2⟩ := hAV
    go_wp2_with fail
    refine (span_ok s _ ho).mono ?_
    rintro e w5 ⟨rfl, b5⟩
    obtain ⟨o0, o1, o2, o3, o4, o5⟩ := hP.later b5
    obtain ⟨v0, n0⟩ := hZV.later b5 0 (by decide)
    obtain ⟨v1, n1⟩ := hZV.later b5 1 (by decide)
    obtain ⟨v2, n2⟩ := hZV.later b5 2 (by decide)
    have bW5 := bnext bV b5 (Nat.le_refl _)
    clear c0 c1 c2 hZV hP bV b5
    go_wp2
    refine bodyPost_ret (v := .tuple #[.agg #[.int .i64 (s.kindAt R), .int .i64 Y, .int .i64 (s.indAt R)], .int .i64 0]) (by simp [results, Tryz.results117, go_sem, World.cell?_setCell_same, World.cell?_setCell_other, v0, v1, v2]) rfl ⟨rfl, ?_⟩
    exact (((bW5.setCell hle2 _).setCell (by simp) _).setCell (by simp) _).setCell (by simp) _
  · have hV : Below W.heap.size W (((w3.setCell ⟨W.heap.size, 0, none⟩ (.int .i64 (s.kindAt R))).setCell ⟨W.heap.size, 1, none⟩ (.int .i64 0)).setCell ⟨W.heap.size, 2, none⟩ (.int .i64 (s.indAt R))) := And.left (by assumption)
    have hP : Pat (((w3.setCell ⟨W.heap.size, 0, none⟩ (.int .i64 (s.kindAt R))).setCell ⟨W.heap.size, 1, none⟩ (.int .i64 0)).setCell ⟨W.heap.size, 2, none⟩ (.int .i64 (s.indAt R))) W.heap.size (s.kindAt R) 0 (s.indAt R) := Pat.put hz' _ _ _
    have hle : W.heap.size ≤ W.heap.size := Nat.le_refl _
    generalize (((w3.setCell ⟨W.heap.size, 0, none⟩ (.int .i64 (s.kindAt R))).setCell ⟨W.heap.size, 1, none⟩ (.int .i64 0)).setCell ⟨W.heap.size, 2, none⟩ (.int .i64 (s.indAt R))) = V at *
    have hAV := hA1.later hV
    have hZV := hZ1.later hV
    have bV := bnext bW1 hV (Nat.le_refl _)
    have hlt := World.block_lt_of_cell? W ⟨w.heap.size + 1, 0, none⟩ (hZ1 0 (by decide)).1
    simp only at hlt
    have hne : ¬ w.heap.size + 1 = W.heap.size := by omega
    have hne' : ¬ W.heap.size = w.heap.size + 1 := by omega
    have hle2 : w.heap.size ≤ W.heap.size := by omega
    clear hS hA1 hZ1 hV bW1 hle hlt
    generalize W.heap.size = β at *
    obtain ⟨c0, c1, c2⟩ := hAV
    go_wp2_with fail
    refine (span_ok s _ ho).mono ?_
    rintro e w5 ⟨rfl, b5⟩
    obtain ⟨o0, o1, o2, o3, o4, o5⟩ := hP.later b5
    obtain ⟨v0, n0⟩ := hZV.later b5 0 (by decide)
    obtain ⟨v1, n1⟩ := hZV.later b5 1 (by decide)
    obtain ⟨v2, n2⟩ := hZV.later b5 2 (by decide)
    have bW5 := bnext bV b5 (Nat.le_refl _)
    clear c0 c1 c2 hZV hP bV b5
    go_wp2
    refine bodyPost_ret (v := .tuple #[.agg #[.int .i64 (s.kindAt R), .int .i64 Y, .int .i64 (s.indAt R)], .int .i64 0]) (by simp [results, Tryz.results117, go_sem, World.cell?_setCell_same, World.cell?_setCell_other, v0, v1, v2]) rfl ⟨rfl, ?_⟩
    exact (((bW5.setCell hle2 _).setCell (by simp) _).setCell (by simp) _).setCell (by simp) _
set_option maxHeartbeats 2000000 in
theorem where_lo (s : Gm) (x : Int) (w : World) (h : s.hasW x) (h2 : x < 2) :
    Calls Tryz.prog 117 #[.agg #[.int .i64 s.g, .int .i64 s.i, .int .i64 s.d], .int .i64 x] w fun e w' => e = .returned (.tuple #[.agg #[.int .i64 1, .int .i64 0, .int .i64 x], .int .i64 0]) ∧ Below w.heap.size w w' := by
  have hZ : Zat ((w.alloc (.cells #[.int .i64 s.g, .int .i64 s.i, .int .i64 s.d] 37)).alloc (.cells #[.int .i64 0, .int .i64 0, .int .i64 0] 204)) (w.heap.size + 1) 3 := by
    have := Zat.made3 (w.alloc (.cells #[.int .i64 s.g, .int .i64 s.i, .int .i64 s.d] 37)) 204
    rwa [size_made] at this
  have bW : Below w.heap.size w ((w.alloc (.cells #[.int .i64 s.g, .int .i64 s.i, .int .i64 s.d] 37)).alloc (.cells #[.int .i64 0, .int .i64 0, .int .i64 0] 204)) := bnext (below_made _ _) (below_made _ _) (Nat.le_refl _)
  have hg := gamong_any x s.total
  rw [decide_eq_true (show 0 ≤ x ∧ x < s.total from h)] at hg
  go_enter Tryz.func117, Tryz.ntmps117
  go_wp2_with fail
  generalize (w.alloc (.cells #[.int .i64 s.g, .int .i64 s.i, .int .i64 s.d] 37)).alloc (.cells #[.int .i64 0, .int .i64 0, .int .i64 0] 204) = W0 at *
  refine (total_any s _).mono ?_
  rintro e W ⟨rfl, b1⟩
  have hZ1 := hZ.later b1
  have bW1 := bnext bW b1 (Nat.le_refl _)
  clear hZ bW b1
  go_wp2_with fail
  refine (hg _).mono ?_
  rintro e u ⟨rfl, rfl⟩
  obtain ⟨y0, z0⟩ := hZ1 0 (by decide)
  obtain ⟨y1, z1⟩ := hZ1 1 (by decide)
  obtain ⟨y2, z2⟩ := hZ1 2 (by decide)
  go_wp2
  refine bodyPost_ret (v := .tuple #[.agg #[.int .i64 1, .int .i64 0, .int .i64 x], .int .i64 0]) (by simp [results, Tryz.results117, go_sem, World.cell?_setCell_same, World.cell?_setCell_other, y0, y1, y2]) rfl ⟨rfl, ?_⟩
  exact ((bW1.setCell (by simp) _).setCell (by simp) _).setCell (by simp) _
set_option maxHeartbeats 2000000 in
theorem where_no (s : Gm) (x : Int) (w : World) (h : ¬ s.hasW x) :
    Calls Tryz.prog 117 #[.agg #[.int .i64 s.g, .int .i64 s.i, .int .i64 s.d], .int .i64 x] w fun e w' => e = .returned (.tuple #[.agg #[.int .i64 0, .int .i64 0, .int .i64 0], .int .i64 2]) ∧ Below w.heap.size w w' := by
  have hZ : Zat ((w.alloc (.cells #[.int .i64 s.g, .int .i64 s.i, .int .i64 s.d] 37)).alloc (.cells #[.int .i64 0, .int .i64 0, .int .i64 0] 204)) (w.heap.size + 1) 3 := by
    have := Zat.made3 (w.alloc (.cells #[.int .i64 s.g, .int .i64 s.i, .int .i64 s.d] 37)) 204
    rwa [size_made] at this
  have bW : Below w.heap.size w ((w.alloc (.cells #[.int .i64 s.g, .int .i64 s.i, .int .i64 s.d] 37)).alloc (.cells #[.int .i64 0, .int .i64 0, .int .i64 0] 204)) := bnext (below_made _ _) (below_made _ _) (Nat.le_refl _)
  have hg := gamong_any x s.total
  rw [decide_eq_false (show ¬ (0 ≤ x ∧ x < s.total) from h)] at hg
  go_enter Tryz.func117, Tryz.ntmps117
  go_wp2_with fail
  generalize (w.alloc (.cells #[.int .i64 s.g, .int .i64 s.i, .int .i64 s.d] 37)).alloc (.cells #[.int .i64 0, .int .i64 0, .int .i64 0] 204) = W0 at *
  refine (total_any s _).mono ?_
  rintro e W ⟨rfl, b1⟩
  have hZ1 := hZ.later b1
  have bW1 := bnext bW b1 (Nat.le_refl _)
  clear hZ bW b1
  go_wp2_with fail
  refine (hg _).mono ?_
  rintro e u ⟨rfl, rfl⟩
  obtain ⟨y0, z0⟩ := hZ1 0 (by decide)
  obtain ⟨y1, z1⟩ := hZ1 1 (by decide)
  obtain ⟨y2, z2⟩ := hZ1 2 (by decide)
  go_wp2
  refine bodyPost_ret (v := .tuple #[.agg #[.int .i64 0, .int .i64 0, .int .i64 0], .int .i64 2]) (by simp [results, Tryz.results117, go_sem, World.cell?_setCell_same, World.cell?_setCell_other, y0, y1, y2]) rfl ⟨rfl, ?_⟩
  exact ((bW1.setCell (by simp) _).setCell (by simp) _).setCell (by simp) _
theorem where_any (s : Gm) (x : Int) (w : World) :
    Calls Tryz.prog 117 #[.agg #[.int .i64 s.g, .int .i64 s.i, .int .i64 s.d], .int .i64 x] w fun e w' => e = .returned (.tuple #[.agg #[.int .i64 (s.pk x), .int .i64 (s.pg x), .int .i64 (s.pi x)], .int .i64 (s.werr x)]) ∧ Below w.heap.size w w' := by
  by_cases h : s.hasW x
  · have e : s.werr x = 0 := if_pos h
    rw [e]
    by_cases h2 : x < 2
    · have e1 : s.pk x = 1 := by unfold Gm.pk; rw [if_pos h, if_pos h2]
      have e2 : s.pg x = 0 := by unfold Gm.pg; rw [if_pos h, if_pos h2]
      have e3 : s.pi x = x := by unfold Gm.pi; rw [if_pos h, if_pos h2]
      rw [e1, e2, e3]; exact where_lo s x w h h2
    · have e1 : s.pk x = s.kindAt ((x - 2) % s.span) := by unfold Gm.pk; rw [if_pos h, if_neg h2]
      have e3 : s.pi x = s.indAt ((x - 2) % s.span) := by unfold Gm.pi; rw [if_pos h, if_neg h2]
      rw [e1, e3]; exact where_hi s x w h (by omega)
  · have e : s.werr x = 2 := if_neg h
    have e1 : s.pk x = 0 := if_neg h
    have e2 : s.pg x = 0 := if_neg h
    have e3 : s.pi x = 0 := if_neg h
    rw [e, e1, e2, e3]; exact where_no s x w h
end Go.Proofs.YtennaimdffohfaaGreatDoor
