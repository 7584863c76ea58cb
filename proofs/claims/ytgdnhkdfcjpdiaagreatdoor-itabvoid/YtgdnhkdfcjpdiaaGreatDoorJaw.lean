/-
  Texts of my own, joined: no statement is proved here.
-/
import Derived.Test.YtgdnhkdfcjpdiaaGreatDoorJai
import Derived.Test.YtgdnhkdfcjpdiaaGreatDoorJav
set_option linter.unusedSimpArgs false
set_option linter.unusedVariables false
namespace Go.Proofs.YtgdnhkdfcjpdiaaGreatDoor
open Go.ChangeShapes Go.WideShapes Go.ChangeAt Go.RowKit
def Gm.kindAt (s : Gm) (r : Int) : Int := if r = 0 then 2 else if r = 1 then 3 else if r < 2 + s.i then 4 else 0
def Gm.indAt (s : Gm) (r : Int) : Int := if r = 0 then 0 else if r = 1 then 0 else if r < 2 + s.i then r - 2 else r - (2 + s.i)
abbrev Gm.hasW (s : Gm) (x : Int) : Prop := 0 ≤ x ∧ x < s.total
def Gm.werr (s : Gm) (x : Int) : Int := if s.hasW x then 0 else 2
def Gm.pk (s : Gm) (x : Int) : Int := if s.hasW x then if x < 2 then 1 else s.kindAt ((x - 2) % s.span) else 0
def Gm.pg (s : Gm) (x : Int) : Int := if s.hasW x then if x < 2 then 0 else (x - 2) / s.span else 0
def Gm.pi (s : Gm) (x : Int) : Int := if s.hasW x then if x < 2 then x else s.indAt ((x - 2) % s.span) else 0
set_option maxHeartbeats 2000000 in
theorem placeAt_ok (s : Gm) (x : Int) (w : World) (h : s.ok) (h0 : 0 ≤ x) (h1 : x ≤ 200) :
    Calls Tryz.prog 129 #[.agg #[.int .i64 s.g, .int .i64 s.i, .int .i64 s.d], .int .i64 x] w fun e w' => e = .returned (.agg #[.int .i64 (s.kindAt x), .int .i64 0, .int .i64 (s.indAt x)]) ∧ Below w.heap.size w w' := by
  have hA : Gat ((w.alloc (.cells #[.int .i64 s.g, .int .i64 s.i, .int .i64 s.d] 43)).alloc (.cells #[.int .i64 0, .int .i64 0, .int .i64 0] 199)) w.heap.size s := (Gat.made w s).later (below_made _ _)
  have hZ : Zat ((w.alloc (.cells #[.int .i64 s.g, .int .i64 s.i, .int .i64 s.d] 43)).alloc (.cells #[.int .i64 0, .int .i64 0, .int .i64 0] 199)) (w.heap.size + 1) 3 := by
    have := Zat.made3 (w.alloc (.cells #[.int .i64 s.g, .int .i64 s.i, .int .i64 s.d] 43)) 199
    rwa [size_made] at this
  have bW : Below w.heap.size w ((w.alloc (.cells #[.int .i64 s.g, .int .i64 s.i, .int .i64 s.d] 43)).alloc (.cells #[.int .i64 0, .int .i64 0, .int .i64 0] 199)) := bnext (below_made _ _) (below_made _ _) (Nat.le_refl _)
  unfold Gm.kindAt Gm.indAt
  by_cases x0 : x = 0
  · subst x0
    go_enter Tryz.func129, Tryz.ntmps129
    go_wp2
    refine bodyPost_ret (v := .agg #[.int .i64 2, .int .i64 0, .int .i64 0]) (by simp [results, Tryz.results129, go_sem]) rfl ⟨rfl, ?_⟩
    go_grown
  · by_cases x1 : x = 1
    · subst x1
      go_enter Tryz.func129, Tryz.ntmps129
      go_wp2
      refine bodyPost_ret (v := .agg #[.int .i64 3, .int .i64 0, .int .i64 0]) (by simp [results, Tryz.results129, go_sem]) rfl ⟨rfl, ?_⟩
      go_grown
    · rw [if_neg x0, if_neg x0, if_neg x1, if_neg x1]
      have i1 := h.2.2.1
      have i2 := h.2.2.2.1
      by_cases x2 : x < 2 + s.i
      · rw [if_pos x2, if_pos x2]
        go_enter Tryz.func129, Tryz.ntmps129
        go_wp2_with fail
        generalize (w.alloc (.cells #[.int .i64 s.g, .int .i64 s.i, .int .i64 s.d] 43)).alloc (.cells #[.int .i64 0, .int .i64 0, .int .i64 0] 199) = W0 at *
        refine (dataAt_ok s _ h).mono ?_
        rintro e W ⟨rfl, b1⟩
        obtain ⟨y0, z0⟩ := hZ.later b1 0 (by decide)
        obtain ⟨y1, z1⟩ := hZ.later b1 1 (by decide)
        obtain ⟨y2, z2⟩ := hZ.later b1 2 (by decide)
        have bW1 := bnext bW b1 (Nat.le_refl _)
        clear hA hZ bW b1
        go_wp2
        refine bodyPost_ret (v := .agg #[.int .i64 4, .int .i64 0, .int .i64 (x - 2)]) (by simp [results, Tryz.results129, go_sem, World.cell?_setCell_same, World.cell?_setCell_other, y0, y1, y2]) rfl ⟨rfl, ?_⟩
        exact ((bW1.setCell (by simp) _).setCell (by simp) _).setCell (by simp) _
      · rw [if_neg x2, if_neg x2]
        go_enter Tryz.func129, Tryz.ntmps129
        go_wp2_with fail
        generalize (w.alloc (.cells #[.int .i64 s.g, .int .i64 s.i, .int .i64 s.d] 43)).alloc (.cells #[.int .i64 0, .int .i64 0, .int .i64 0] 199) = W0 at *
        refine (dataAt_ok s _ h).mono ?_
        rintro e W ⟨rfl, b1⟩
        have hA1 := hA.later b1
        have hZ1 := hZ.later b1
        have bW1 := bnext bW b1 (Nat.le_refl _)
        clear hA hZ bW b1
        obtain ⟨c0, c1, c2⟩ := hA1
        go_wp2_with fail
        refine (dataAt_ok s _ h).mono ?_
        rintro e w2 ⟨rfl, b2⟩
        obtain ⟨y0, z0⟩ := hZ1.later b2 0 (by decide)
        obtain ⟨y1, z1⟩ := hZ1.later b2 1 (by decide)
        obtain ⟨y2, z2⟩ := hZ1.later b2 2 (by decide)
        have bW2 := bnext bW1 b2 (Nat.le_refl _)
        clear hZ1 bW1 b2 c0 c1 c2
        go_wp2
        refine bodyPost_ret (v := .agg #[.int .i64 0, .int .i64 0, .int .i64 (x - (2 + s.i))]) (by simp [results, Tryz.results129, go_sem, World.cell?_setCell_same, World.cell?_setCell_other, y0, y1, y2]) rfl ⟨rfl, ?_⟩
        exact ((bW2.setCell (by simp) _).setCell (by simp) _).setCell (by simp) _
structure Pat (w : World) (b : Nat) (x y z : Int) : Prop where
  c0 : w.cell? ⟨b, 0, none⟩ = some (.int .i64 x)
  c1 : w.cell? ⟨b, 1, none⟩ = some (.int .i64 y)
  c2 : w.cell? ⟨b, 2, none⟩ = some (.int .i64 z)
  f0 : w.frozen? ⟨b, 0, none⟩ = false
  f1 : w.frozen? ⟨b, 1, none⟩ = false
  f2 : w.frozen? ⟨b, 2, none⟩ = false
theorem Pat.lt {w : World} {b : Nat} {x y z : Int} (h : Pat w b x y z) : b < w.heap.size := World.block_lt_of_cell? w ⟨b, 0, none⟩ h.c0
theorem Pat.later {w w' : World} {b : Nat} {x y z : Int} (h : Pat w b x y z) (k : Below w.heap.size w w') : Pat w' b x y z :=
  ⟨by rw [k.cell (p := ⟨b, 0, none⟩) h.lt]; exact h.c0, by rw [k.cell (p := ⟨b, 1, none⟩) h.lt]; exact h.c1, by rw [k.cell (p := ⟨b, 2, none⟩) h.lt]; exact h.c2,
   by rw [k.frozen (p := ⟨b, 0, none⟩) h.lt]; exact h.f0, by rw [k.frozen (p := ⟨b, 1, none⟩) h.lt]; exact h.f1, by rw [k.frozen (p := ⟨b, 2, none⟩) h.lt]; exact h.f2⟩
theorem Pat.made (w : World) (x y z : Int) (t : TypeId) : Pat (w.alloc (.cells #[.int .i64 x, .int .i64 y, .int .i64 z] t)) w.heap.size x y z := by
  constructor <;> simp [go_sem]
theorem Pat.put {w : World} {b : Nat} (h : Zat w b 3) (x y z : Int) : Pat (((w.setCell ⟨b, 0, none⟩ (.int .i64 x)).setCell ⟨b, 1, none⟩ (.int .i64 y)).setCell ⟨b, 2, none⟩ (.int .i64 z)) b x y z := by
  have y0 := (h 0 (by decide)).1
  have y1 := (h 1 (by decide)).1
  have y2 := (h 2 (by decide)).1
  have z0 := (h 0 (by decide)).2
  have z1 := (h 1 (by decide)).2
  have z2 := (h 2 (by decide)).2
  constructor <;> simp [World.cell?_setCell_same, World.cell?_setCell_other, y0, y1, y2, z0, z1, z2]
theorem Gm.wF {s : Gm} {x : Int} (h : s.hasW x) (h2 : 2 ≤ x) : s.ok ∧ x ≤ 2000 ∧ (x - 2).tdiv s.span = s.pg x ∧ (x - 2).tmod s.span = (x - 2) % s.span ∧ 0 ≤ s.pg x ∧ s.pg x < s.g ∧ 0 ≤ (x - 2) % s.span ∧ (x - 2) % s.span < s.span ∧ s.pg x * s.span + (x - 2) % s.span = x - 2 := by
  have ho : s.ok := by
    by_cases ho : s.ok
    · exact ho
    · have : s.total = 0 := if_neg ho
      have := h.1; have := h.2; omega
  have e1 : s.pg x = (x - 2) / s.span := by unfold Gm.pg; rw [if_pos h, if_neg (by omega)]
  have e2 : s.total = 2 + s.g * s.span := if_pos ho
  have hs := Gm.spanB ho
  have hp := Gm.prodB ho (k := s.g) (by have := ho.1; omega) ho.2.1
  have h3 := h.2
  rw [e2] at h3
  rw [e1]
  have q := Int.mul_ediv_add_emod (x - 2) s.span
  refine ⟨ho, by omega, Int.tdiv_eq_ediv_of_nonneg (by omega), Int.tmod_eq_emod_of_nonneg (by omega), Int.ediv_nonneg (by omega) (by omega), Int.ediv_lt_of_lt_mul (by omega) (by omega), Int.emod_nonneg _ (by omega), Int.emod_lt_of_pos _ (by omega), ?_⟩
  rw [Int.mul_comm]; exact q
set_option maxHeartbeats 2000000 in
theorem where_hi (s : Gm) (x : Int) (w : World) (h : s.hasW x) (h2 : 2 ≤ x) :
    Calls Tryz.prog 93 #[.agg #[.int .i64 s.g, .int .i64 s.i, .int .i64 s.d], .int .i64 x] w fun e w' => e = .returned (.tuple #[.agg #[.int .i64 (s.kindAt ((x - 2) % s.span)), .int .i64 (s.pg x), .int .i64 (s.indAt ((x - 2) % s.span))], .int .i64 0]) ∧ Below w.heap.size w w' := by
  have hA : Gat ((w.alloc (.cells #[.int .i64 s.g, .int .i64 s.i, .int .i64 s.d] 43)).alloc (.cells #[.int .i64 0, .int .i64 0, .int .i64 0] 199)) w.heap.size s := (Gat.made w s).later (below_made _ _)
  have hZ : Zat ((w.alloc (.cells #[.int .i64 s.g, .int .i64 s.i, .int .i64 s.d] 43)).alloc (.cells #[.int .i64 0, .int .i64 0, .int .i64 0] 199)) (w.heap.size + 1) 3 := by
    have := Zat.made3 (w.alloc (.cells #[.int .i64 s.g, .int .i64 s.i, .int .i64 s.d] 43)) 199
    rwa [size_made] at this
  have bW : Below w.heap.size w ((w.alloc (.cells #[.int .i64 s.g, .int .i64 s.i, .int .i64 s.d] 43)).alloc (.cells #[.int .i64 0, .int .i64 0, .int .i64 0] 199)) := bnext (below_made _ _) (below_made _ _) (Nat.le_refl _)
  obtain ⟨ho, xB, ed, em, g0, g1, r0, r1, _⟩ := Gm.wF h h2
  have hg := gamong_any x s.total
  rw [decide_eq_true (show 0 ≤ x ∧ x < s.total from h)] at hg
  have i3 := ho.2.1
  have hs := Gm.spanB ho
  obtain ⟨s0, s1⟩ := hs
  generalize s.pg x = Y at *
  generalize (x - 2) % s.span = R at *
  have nz : ¬ s.span = 0 := by omega
  have ew : IntKind.i64.wrap Y = Y := by rw [IntKind.wrap_i64]; omega
  have ew' : wrap64 Y = Y := by unfold wrap64; omega
  go_enter Tryz.func93, Tryz.ntmps93
  go_wp2_with fail
  generalize (w.alloc (.cells #[.int .i64 s.g, .int .i64 s.i, .int .i64 s.d] 43)).alloc (.cells #[.int .i64 0, .int .i64 0, .int .i64 0] 199) = W0 at *
  refine (total_any s _).mono ?_
  rintro e W ⟨rfl, b1⟩
  have hA1 := hA.later b1
  have hZ1 := hZ.later b1
  have bW1 := bnext bW b1 (Nat.le_refl _)
  clear hA hZ bW b1
  go_wp2_with fail
  refine (hg _).mono ?_
  rintro e u ⟨rfl, rfl⟩
  go_wp2_with fail
  have hS := hA1.held
  go_region_held3 (fun w' => Below W.heap.size W w' ∧ w'.cell? ⟨w.heap.size, 0, none⟩ = some (.int .i64 s.g) ∧ w'.cell? ⟨w.heap.size, 1, none⟩ = some (.int .i64 s.i) ∧ w'.cell? ⟨w.heap.size, 2, none⟩ = some (.int .i64 s.d))
    (first | assumption | exact hS _ (Below.refl _ _).drew | exact hS _ (bnext (And.left (by assumption)) b3 (Nat.le_refl _)) | exact hS _ (bnext (And.left (by assumption)) b2 (Nat.le_refl _)) | exact hS _ (bnext (And.left (by assumption)) (below_made _ _) (Nat.le_refl _)) | exact hS _ (bnext (bnext (bundrew b2) b3 (Nat.le_refl _)) (below_made _ _) (Nat.le_refl _)) | exact hS _ (((Below.setCell (And.left (by assumption)) (Nat.le_refl W.heap.size) _).setCell (Nat.le_refl W.heap.size) _).setCell (Nat.le_refl W.heap.size) _) | exact hS _ (((Below.setCell (And.left (by assumption)) b2.size _).setCell b2.size _).setCell b2.size _))
    (first
    | (go_at_call 61; refine (span_ok s _ ho).mono ?_; rintro e w2 ⟨rfl, b2⟩; try (have hz : Zat w2 W.heap.size 3 := (Zat.made3 W.drew 199).later b2))
    | (go_at_call 129; refine (placeAt_ok s R _ ho r0 (by omega)).mono ?_; rintro e w3 ⟨rfl, b3⟩
       try (have hz : Zat w3 w2.heap.size 3 := (Zat.made3 w2 199).later b3; obtain ⟨y0, z0⟩ := hz 0 (by decide); obtain ⟨y1, z1⟩ := hz 1 (by decide); obtain ⟨y2, z2⟩ := hz 2 (by decide))
       try (have hz' := hz.later b3; obtain ⟨y0, z0⟩ := hz' 0 (by decide); obtain ⟨y1, z1⟩ := hz' 1 (by decide); obtain ⟨y2, z2⟩ := hz' 2 (by decide))))
  · have hV : Below W.heap.size W (w3.alloc (.cells #[.int .i64 (s.kindAt R), .int .i64 0, .int .i64 (s.indAt R)] 199)) := And.left (by assumption)
    have hP : Pat (w3.alloc (.cells #[.int .i64 (s.kindAt R), .int .i64 0, .int .i64 (s.indAt R)] 199)) w3.heap.size (s.kindAt R) 0 (s.indAt R) := Pat.made w3 _ _ _ _
    have hle : W.heap.size ≤ w3.heap.size := (bnext (bundrew b2) b3 (Nat.le_refl W.heap.size)).size
    generalize (w3.alloc (.cells #[.int .i64 (s.kindAt R), .int .i64 0, .int .i64 (s.indAt R)] 199)) = V at *
    have hAV := hA1.later hV
    have hZV := hZ1.later hV
    have bV := bnext bW1 hV (Nat.le_refl _)
    have hlt := World.block_lt_of_cell? W ⟨w.heap.size + 1, 0, none⟩ (hZ1 0 (by decide)).1
    simp only at hlt
    have hne : ¬ w.heap.size + 1 = w3.heap.size := by omega
    have hne' : ¬ w3.heap.size = w.heap.size + 1 := by omega
    have hle2 : w.heap.size ≤ w3.heap.size := by omega
    clear hS hA1 hZ1 hV bW1 hle hlt
    generalize w3.heap.size = β at *
    obtain ⟨c0, c1, c2⟩ := hAV
    go_wp2_with fail
    refine (span_ok s _ ho).mono ?_
    rintro e w5 ⟨rfl, b5⟩
    obtain ⟨o0, o1, o2, o3, o4, o5⟩ := hP.later b5
    obtain ⟨v0, n0⟩ := hZV.later b5 0 (by decide)
    obtain ⟨v1, n1⟩ := hZV.later b5 1 (by decide)
    obtain ⟨v2, n2⟩ := hZV.later b5 2 (by decide)
    have bW5 := bnext bV b5 (Nat.le_refl _)
    clear c0 c1 c2 hZV hP bV b5
    go_wp2
    refine bodyPost_ret (v := .tuple #[.agg #[.int .i64 (s.kindAt R), .int .i64 Y, .int .i64 (s.indAt R)], .int .i64 0]) (by simp [results, Tryz.results93, go_sem, World.cell?_setCell_same, World.cell?_setCell_other, v0, v1, v2]) rfl ⟨rfl, ?_⟩
    exact (((bW5.setCell hle2 _).setCell (by simp) _).setCell (by simp) _).setCell (by simp) _
  · have hV : Below W.heap.size W (((w3.setCell ⟨w2.heap.size, 0, none⟩ (.int .i64 (s.kindAt R))).setCell ⟨w2.heap.size, 1, none⟩ (.int .i64 0)).setCell ⟨w2.heap.size, 2, none⟩ (.int .i64 (s.indAt R))) := And.left (by assumption)
    have hP : Pat (((w3.setCell ⟨w2.heap.size, 0, none⟩ (.int .i64 (s.kindAt R))).setCell ⟨w2.heap.size, 1, none⟩ (.int .i64 0)).setCell ⟨w2.heap.size, 2, none⟩ (.int .i64 (s.indAt R))) w2.heap.size (s.kindAt R) 0 (s.indAt R) := Pat.put hz _ _ _
    have hle : W.heap.size ≤ w2.heap.size := (bundrew b2).size
    generalize (((w3.setCell ⟨w2.heap.size, 0, none⟩ (.int .i64 (s.kindAt R))).setCell ⟨w2.heap.size, 1, none⟩ (.int .i64 0)).setCell ⟨w2.heap.size, 2, none⟩ (.int .i64 (s.indAt R))) = V at *
    have hAV := hA1.later hV
    have hZV := hZ1.later hV
    have bV := bnext bW1 hV (Nat.le_refl _)
    have hlt := World.block_lt_of_cell? W ⟨w.heap.size + 1, 0, none⟩ (hZ1 0 (by decide)).1
    simp only at hlt
    have hne : ¬ w.heap.size + 1 = w2.heap.size := by omega
    have hne' : ¬ w2.heap.size = w.heap.size + 1 := by omega
    have hle2 : w.heap.size ≤ w2.heap.size := by omega
    clear hS hA1 hZ1 hV bW1 hle hlt
    generalize w2.heap.size = β at *
    obtain ⟨c0, c1, c2⟩ := hAV
    go_wp2_with fail
    refine (span_ok s _ ho).mono ?_
    rintro e w5 ⟨rfl, b5⟩
    obtain ⟨o0, o1, o2, o3, o4, o5⟩ := hP.later b5
    obtain ⟨v0, n0⟩ := hZV.later b5 0 (by decide)
    obtain ⟨v1, n1⟩ := hZV.later b5 1 (by decide)
    obtain ⟨v2, n2⟩ := hZV.later b5 2 (by decide)
    have bW5 := bnext bV b5 (Nat.le_refl _)
    clear c0 c1 c2 hZV hP bV b5
    go_wp2
    refine bodyPost_ret (v := .tuple #[.agg #[.int .i64 (s.kindAt R), .int .i64 Y, .int .i64 (s.indAt R)], .int .i64 0]) (by simp [results, Tryz.results93, go_sem, World.cell?_setCell_same, World.cell?_setCell_other, v0, v1, v2]) rfl ⟨rfl, ?_⟩
    exact (((bW5.setCell hle2 _).setCell (by simp) _).setCell (by simp) _).setCell (by simp) _
  · have hV : Below W.heap.size W (((w3.setCell ⟨W.heap.size, 0, none⟩ (.int .i64 (s.kindAt R))).setCell ⟨W.heap.size, 1, none⟩ (.int .i64 0)).setCell ⟨W.heap.size, 2, none⟩ (.int .i64 (s.indAt R))) := And.left (by assumption)
    have hP : Pat (((w3.setCell ⟨W.heap.size, 0, none⟩ (.int .i64 (s.kindAt R))).setCell ⟨W.heap.size, 1, none⟩ (.int .i64 0)).setCell ⟨W.heap.size, 2, none⟩ (.int .i64 (s.indAt R))) W.heap.size (s.kindAt R) 0 (s.indAt R) := Pat.put hz' _ _ _
    have hle : W.heap.size ≤ W.heap.size := Nat.le_refl _
    generalize (((w3.setCell ⟨W.heap.size, 0, none⟩ (.int .i64 (s.kindAt R))).setCell ⟨W.heap.size, 1, none⟩ (.int .i64 0)).setCell ⟨W.heap.size, 2, none⟩ (.int .i64 (s.indAt R))) = V at *
    have hAV := hA1.later hV
    have hZV := hZ1.later hV
    have bV := bnext bW1 hV (Nat.le_refl _)
    have hlt := World.block_lt_of_cell? W ⟨w.heap.size + 1, 0, none⟩ (hZ1 0 (by decide)).1
    simp only at hlt
    have hne : ¬ w.heap.size + 1 = W.heap.size := by omega
    have hne' : ¬ W.heap.size = w.heap.size + 1 := by omega
    have hle2 : w.heap.size ≤ W.heap.size := by omega
    clear hS hA1 hZ1 hV bW1 hle hlt
    generalize W.heap.size = β at *
    obtain ⟨c0, c1, c2⟩ := hAV
    go_wp2_with fail
    refine (span_ok s _ ho).mono ?_
    rintro e w5 ⟨rfl, b5⟩
    obtain ⟨o0, o1, o2, o3, o4, o5⟩ := hP.later b5
    obtain ⟨v0, n0⟩ := hZV.later b5 0 (by decide)
    obtain ⟨v1, n1⟩ := hZV.later b5 1 (by decide)
    obtain ⟨v2, n2⟩ := hZV.later b5 2 (by decide)
    have bW5 := bnext bV b5 (Nat.le_refl _)
    clear c0 c1 c2 hZV hP bV b5
    go_wp2
    refine bodyPost_ret (v := .tuple #[.agg #[.int .i64 (s.kindAt R), .int .i64 Y, .int .i64 (s.indAt R)], .int .i64 0]) (by simp [results, Tryz.results93, go_sem, World.cell?_setCell_same, World.cell?_setCell_other, v0, v1, v2]) rfl ⟨rfl, ?_⟩
    exact (((bW5.setCell hle2 _).setCell (by simp) _).setCell (by simp) _).setCell (by simp) _
set_option maxHeartbeats 2000000 in
theorem where_lo (s : Gm) (x : Int) (w : World) (h : s.hasW x) (h2 : x < 2) :
    Calls Tryz.prog 93 #[.agg #[.int .i64 s.g, .int .i64 s.i, .int .i64 s.d], .int .i64 x] w fun e w' => e = .returned (.tuple #[.agg #[.int .i64 1, .int .i64 0, .int .i64 x], .int .i64 0]) ∧ Below w.heap.size w w' := by
  have hZ : Zat ((w.alloc (.cells #[.int .i64 s.g, .int .i64 s.i, .int .i64 s.d] 43)).alloc (.cells #[.int .i64 0, .int .i64 0, .int .i64 0] 199)) (w.heap.size + 1) 3 := by
    have := Zat.made3 (w.alloc (.cells #[.int .i64 s.g, .int .i64 s.i, .int .i64 s.d] 43)) 199
    rwa [size_made] at this
  have bW : Below w.heap.size w ((w.alloc (.cells #[.int .i64 s.g, .int .i64 s.i, .int .i64 s.d] 43)).alloc (.cells #[.int .i64 0, .int .i64 0, .int .i64 0] 199)) := bnext (below_made _ _) (below_made _ _) (Nat.le_refl _)
  have hg := gamong_any x s.total
  rw [decide_eq_true (show 0 ≤ x ∧ x < s.total from h)] at hg
  go_enter Tryz.func93, Tryz.ntmps93
  go_wp2_with fail
  generalize (w.alloc (.cells #[.int .i64 s.g, .int .i64 s.i, .int .i64 s.d] 43)).alloc (.cells #[.int .i64 0, .int .i64 0, .int .i64 0] 199) = W0 at *
  refine (total_any s _).mono ?_
  rintro e W ⟨rfl, b1⟩
  have hZ1 := hZ.later b1
  have bW1 := bnext bW b1 (Nat.le_refl _)
  clear hZ bW b1
  go_wp2_with fail
  refine (hg _).mono ?_
  rintro e u ⟨rfl, rfl⟩
  obtain ⟨y0, z0⟩ := hZ1 0 (by decide)
  obtain ⟨y1, z1⟩ := hZ1 1 (by decide)
  obtain ⟨y2, z2⟩ := hZ1 2 (by decide)
  go_wp2
  refine bodyPost_ret (v := .tuple #[.agg #[.int .i64 1, .int .i64 0, .int .i64 x], .int .i64 0]) (by simp [results, Tryz.results93, go_sem, World.cell?_setCell_same, World.cell?_setCell_other, y0, y1, y2]) rfl ⟨rfl, ?_⟩
  exact ((bW1.setCell (by simp) _).setCell (by simp) _).setCell (by simp) _
set_option maxHeartbeats 2000000 in
theorem where_no (s : Gm) (x : Int) (w : World) (h : ¬ s.hasW x) :
    Calls Tryz.prog 93 #[.agg #[.int .i64 s.g, .int .i64 s.i, .int .i64 s.d], .int .i64 x] w fun e w' => e = .returned (.tuple #[.agg #[.int .i64 0, .int .i64 0, .int .i64 0], .int .i64 2]) ∧ Below w.heap.size w w' := by
  have hZ : Zat ((w.alloc (.cells #[.int .i64 s.g, .int .i64 s.i, .int .i64 s.d] 43)).alloc (.cells #[.int .i64 0, .int .i64 0, .int .i64 0] 199)) (w.heap.size + 1) 3 := by
    have := Zat.made3 (w.alloc (.cells #[.int .i64 s.g, .int .i64 s.i, .int .i64 s.d] 43)) 199
    rwa [size_made] at this
  have bW : Below w.heap.size w ((w.alloc (.cells #[.int .i64 s.g, .int .i64 s.i, .int .i64 s.d] 43)).alloc (.cells #[.int .i64 0, .int .i64 0, .int .i64 0] 199)) := bnext (below_made _ _) (below_made _ _) (Nat.le_refl _)
  have hg := gamong_any x s.total
  rw [decide_eq_false (show ¬ (0 ≤ x ∧ x < s.total) from h)] at hg
  go_enter Tryz.func93, Tryz.ntmps93
  go_wp2_with fail
  generalize (w.alloc (.cells #[.int .i64 s.g, .int .i64 s.i, .int .i64 s.d] 43)).alloc (.cells #[.int .i64 0, .int .i64 0, .int .i64 0] 199) = W0 at *
  refine (total_any s _).mono ?_
  rintro e W ⟨rfl, b1⟩
  have hZ1 := hZ.later b1
  have bW1 := bnext bW b1 (Nat.le_refl _)
  clear hZ bW b1
  go_wp2_with fail
  refine (hg _).mono ?_
  rintro e u ⟨rfl, rfl⟩
  obtain ⟨y0, z0⟩ := hZ1 0 (by decide)
  obtain ⟨y1, z1⟩ := hZ1 1 (by decide)
  obtain ⟨y2, z2⟩ := hZ1 2 (by decide)
  go_wp2
  refine bodyPost_ret (v := .tuple #[.agg #[.int .i64 0, .int .i64 0, .int .i64 0], .int .i64 2]) (by simp [results, Tryz.results93, go_sem, World.cell?_setCell_same, World.cell?_setCell_other, y0, y1, y2]) rfl ⟨rfl, ?_⟩
  exact ((bW1.setCell (by simp) _).setCell (by simp) _).setCell (by simp) _
theorem where_any (s : Gm) (x : Int) (w : World) :
    Calls Tryz.prog 93 #[.agg #[.int .i64 s.g, .int .i64 s.i, .int .i64 s.d], .int .i64 x] w fun e w' => e = .returned (.tuple #[.agg #[.int .i64 (s.pk x), .int .i64 (s.pg x), .int .i64 (s.pi x)], .int .i64 (s.werr x)]) ∧ Below w.heap.size w w' := by
  by_cases h : s.hasW x
  · have e : s.werr x = 0 := if_pos h
    rw [e]
    by_cases h2 : x < 2
    · have e1 : s.pk x = 1 := by unfold Gm.pk; rw [if_pos h, if_pos h2]
      have e2 : s.pg x = 0 := by unfold Gm.pg; rw [if_pos h, if_pos h2]
      have e3 : s.pi x = x := by unfold Gm.pi; rw [if_pos h, if_pos h2]
      rw [e1, e2, e3]; exact where_lo s x w h h2
    · have e1 : s.pk x = s.kindAt ((x - 2) % s.span) := by unfold Gm.pk; rw [if_pos h, if_neg h2]
      have e3 : s.pi x = s.indAt ((x - 2) % s.span) := by unfold Gm.pi; rw [if_pos h, if_neg h2]
      rw [e1, e3]; exact where_hi s x w h (by omega)
  · have e : s.werr x = 2 := if_neg h
    have e1 : s.pk x = 0 := if_neg h
    have e2 : s.pg x = 0 := if_neg h
    have e3 : s.pi x = 0 := if_neg h
    rw [e, e1, e2, e3]; exact where_no s x w h
set_option maxRecDepth 100000
def Gm.zero : Gm := ⟨0, 0, 0⟩
abbrev gv (s : Gm) : Value := .agg #[.int .i64 s.g, .int .i64 s.i, .int .i64 s.d]
abbrev gc (s : Gm) : List Value := [.int .i64 s.g, .int .i64 s.i, .int .i64 s.d]
theorem gc_one (s : Gm) : ∀ v ∈ gc s, v.oneCell' = true := by
  intro v hv; simp only [List.mem_cons, List.not_mem_nil, or_false] at hv
  rcases hv with rfl | rfl | rfl <;> rfl
def GR (w : World) (g : Nat) (s : Gm) : Prop := ∃ t, w.heap[g]? = some (.cells (gc s).toArray t (0, 0))
section
variable {w w' : World} {g : Nat} {s : Gm} {F : Nat → Prop}
theorem GR.lt (h : GR w g s) : g < w.heap.size := by
  obtain ⟨t, h⟩ := h
  exact (Array.getElem?_eq_some_iff.1 h).1
theorem GR.step (h : GR w g s) (k : Stp F w w') (hg : ¬ F g) : GR w' g s := by
  have hl := h.lt
  obtain ⟨t, h⟩ := h
  exact ⟨t, by rw [k.block g hl hg]; exact h⟩
theorem GR.later (h : GR w g s) (k : Below w.heap.size w w') : GR w' g s := h.step (Stp.of_below k (fun _ => False)) id
theorem GR.c0 (h : GR w g s) : w.cell? ⟨g, 0, none⟩ = some (.int .i64 s.g) := by
  obtain ⟨t, h⟩ := h
  rw [cell_of_row w g 0 _ t (0, 0) h]; rfl
theorem GR.c1 (h : GR w g s) : w.cell? ⟨g, 1, none⟩ = some (.int .i64 s.i) := by
  obtain ⟨t, h⟩ := h
  rw [cell_of_row w g 1 _ t (0, 0) h]; rfl
theorem GR.c2 (h : GR w g s) : w.cell? ⟨g, 2, none⟩ = some (.int .i64 s.d) := by
  obtain ⟨t, h⟩ := h
  rw [cell_of_row w g 2 _ t (0, 0) h]; rfl
theorem GR.frozen (h : GR w g s) (i : Nat) : w.frozen? ⟨g, i, none⟩ = false := by
  obtain ⟨t, h⟩ := h
  simp [World.frozen?, h]
theorem GR.range (h : GR w g s) : w.rangeAt g 0 (gc s) := fun j v hv => by
  obtain ⟨t, h⟩ := h
  rw [cell_of_row w g (0 + j) _ t (0, 0) h, List.getElem?_toArray, Nat.zero_add]; exact hv
theorem GR.there (h : GR w g s) : w.there g 0 3 := fun j hj => by
  refine ⟨?_, h.frozen _⟩
  rw [Nat.zero_add]
  have : j = 0 ∨ j = 1 ∨ j = 2 := by omega
  rcases this with rfl | rfl | rfl
  · rw [h.c0]; rfl
  · rw [h.c1]; rfl
  · rw [h.c2]; rfl
theorem GR.made (w : World) (s : Gm) (t : TypeId) : GR (w.alloc (.cells (gc s).toArray t)) w.heap.size s := ⟨t, heap_alloc_new w _⟩
theorem GR.setCells (h : GR w g s) (s' : Gm) : GR (w.setCells g 0 (gc s')) g s' := by
  have ht := h.there
  obtain ⟨t, h⟩ := h
  have h1 := run_storeCells_cells (P := Tryz.prog) g 0 (gc s') 0 w (fun j hj => by
      have := (ht j (by simpa using hj)).1; simpa using this) (fun j hj => by
      have := (ht j (by simpa using hj)).2; simpa using this) (gc_one s')
  have h2 := run_storeCells_at Tryz.prog g 0 t (gc s') 0 (gc s).toArray w h (by simp) (gc_one s')
  simp only [Nat.add_zero] at h1 h2
  rw [h1] at h2
  injection h2 with _ h2
  rw [h2]
  exact ⟨t, setRow_heap w g _ _ t _ h⟩
end
theorem gUnd : ∃ fs, Tryz.prog.underlying 43 = some (.struct fs) := ⟨_, Tryz.underlying43⟩
theorem gSize : (Tryz.prog.info? 43).map (·.size) = some 3 := by kernel_rfl
theorem gZero (w : World) : (zeroValue 43).run Tryz.prog w = .ok (gv Gm.zero) w := (zero_of_info (v := gv Gm.zero) (n := 3) (by kernel_rfl)).1 w
theorem loadG {w : World} {g : Nat} {s : Gm} (h : GR w g s) : (loadVar 43 ⟨g, 0, none⟩).run Tryz.prog w = .ok (gv s) w := by
  obtain ⟨fs, hf⟩ := gUnd
  exact run_loadVar_mid w g 0 _ (gc s) _ h.range hf rfl gSize
section
variable {ops : Array Oper} {rest : List Oper} {o : Oper} {a : Act} {w : World} {Q : Exit → Act → World → Prop}
theorem at_newG (hw : Region.wanted o (yielded ops a.tmps) = true) (ho : o.op = .alloc 43)
    (h : ∀ g w', w.heap.size ≤ g → g < w'.heap.size → GR w' g Gm.zero → Below w.heap.size w w' → wpList Tryz.prog ops Q rest (a.put o.dst (.pointer (some ⟨g, 0, none⟩))) w') : wpList Tryz.prog ops Q (o :: rest) a w := by
  refine op_val hw _ _ ?_ (h w.heap.size (w.alloc (.cells (gc Gm.zero).toArray 43)) (Nat.le_refl _) (by simp) (GR.made _ _ _) ((Below.refl _ _).alloc (Nat.le_refl _) _))
  have : (Instr.alloc 43 true (.tuple #[])).run Tryz.prog w = .ok (.pointer (some ⟨w.heap.size, 0, none⟩)) (w.alloc (.cells (gc Gm.zero).toArray 43)) := by
    unfold Instr.alloc; rw [Sem.run_bind, gZero]; rfl
  simp only [execOp, ho, Sem.run_bind, this]; rfl
theorem at_boxG (hw : Region.wanted o (yielded ops a.tmps) = true) (x : Operand) (ho : o.op = .box 43 x) (s : Gm) (hx : a.eval x = gv s)
    (h : ∀ g w', w.heap.size ≤ g → g < w'.heap.size → GR w' g s → Below w.heap.size w w' → wpList Tryz.prog ops Q rest (a.put o.dst (.pointer (some ⟨g, 0, none⟩))) w') : wpList Tryz.prog ops Q (o :: rest) a w := by
  refine op_val hw _ _ ?_ (h w.heap.size (w.alloc (.cells (gc s).toArray 43)) (Nat.le_refl _) (by simp) (GR.made _ _ _) ((Below.refl _ _).alloc (Nat.le_refl _) _))
  have : (Instr.box 43 (gv s)).run Tryz.prog w = .ok (.pointer (some ⟨w.heap.size, 0, none⟩)) (w.alloc (.cells (gc s).toArray 43)) := by
    simp [Instr.box, newVar, Value.cells, go_sem]
  simp only [execOp, ho, hx, Sem.run_bind, this]; rfl
theorem at_getG (hw : Region.wanted o (yielded ops a.tmps) = true) (x : Operand) (ho : o.op = .load 43 x) (g : Nat) (hx : a.eval x = .pointer (some ⟨g, 0, none⟩)) (s : Gm) (hR : GR w g s)
    (h : wpList Tryz.prog ops Q rest (a.put o.dst (gv s)) w) : wpList Tryz.prog ops Q (o :: rest) a w := by
  refine op_val hw _ _ ?_ h
  simp [execOp, ho, hx, Instr.loadAt, Instr.sureAddr, loadG hR]
theorem storeG {w : World} {g : Nat} {s : Gm} (h : GR w g s) (s' : Gm) : (storeVar 43 ⟨g, 0, none⟩ (gv s')).run Tryz.prog w = .ok () (w.setCells g 0 (gc s')) :=
  run_storeVar_mid w g 0 _ (gc s').toArray h.there gSize (all_oneCell_toArray (gc_one s'))
theorem at_putG (hw : Region.wanted o (yielded ops a.tmps) = true) (x y : Operand) (ho : o.op = .store 43 x y) (g : Nat) (hx : a.eval x = .pointer (some ⟨g, 0, none⟩)) (s' : Gm) (hy : a.eval y = gv s') (s : Gm) (hR : GR w g s)
    (h : ∀ w', GR w' g s' → Stp (fun x => x = g) w w' → wpList Tryz.prog ops Q rest (a.put o.dst undef) w') : wpList Tryz.prog ops Q (o :: rest) a w := by
  refine op_unit hw _ ?_ (h (w.setCells g 0 (gc s')) (hR.setCells s') (stp_setCells _ _ _ _))
  simp only [execOp, ho, hx, hy, Instr.storeAt, Instr.sureAddr, Sem.run_bind, Sem.run_pure, Result.andThen_ok]
  rw [storeG hR]; rfl
end
section
variable {fn : Func} {p u v : Tmp} {tmps : Array Value} {w : World} {g : Nat} {s : Gm} {x y : Value}
theorem retGt (h : fn.results = #[.cell p 43, .tmp u]) (hp : tmps.getD p undef = .pointer (some ⟨g, 0, none⟩)) (hu : tmps.getD u undef = x) (hR : GR w g s) : (results fn tmps).run Tryz.prog w = .ok (.tuple #[gv s, x]) w := by
  have hp' : tmps[p]?.getD undef = .pointer (some ⟨g, 0, none⟩) := by simpa using hp
  have hu' : tmps[u]?.getD undef = x := by simpa using hu
  simp [results, h, hp', hu', asAddr, loadG hR]
theorem retGtt (h : fn.results = #[.cell p 43, .tmp u, .tmp v]) (hp : tmps.getD p undef = .pointer (some ⟨g, 0, none⟩)) (hu : tmps.getD u undef = x) (hv : tmps.getD v undef = y) (hR : GR w g s) : (results fn tmps).run Tryz.prog w = .ok (.tuple #[gv s, x, y]) w := by
  have hp' : tmps[p]?.getD undef = .pointer (some ⟨g, 0, none⟩) := by simpa using hp
  have hu' : tmps[u]?.getD undef = x := by simpa using hu
  have hv' : tmps[v]?.getD undef = y := by simpa using hv
  simp [results, h, hp', hu', hv', asAddr, loadG hR]
end
section
variable {ops : Array Oper} {o : Oper} {a : Act} {w : World} {K : Act → World → Prop} {Q : Exit → Act → World → Prop} {E : Prop}
theorem step_putG (hgd : o.guard = none) (x y : Operand) (ho : o.op = .store 43 x y) (g : Nat) (hx : a.eval x = .pointer (some ⟨g, 0, none⟩)) (s' : Gm) (hy : a.eval y = gv s') (s : Gm) (hR : GR w g s)
    (h : ∀ w', GR w' g s' → Stp (fun x => x = g) w w' → K (a.put o.dst undef) w') : if Region.wanted o (yielded ops a.tmps) = true then Oper.wp Tryz.prog o a w K Q else E := by
  have hw : Region.wanted o (yielded ops a.tmps) = true := by simp [Region.wanted, hgd]
  rw [if_pos hw]
  have hr : (execOp a.eval o).run Tryz.prog w = .ok .skip (w.setCells g 0 (gc s')) := by
    simp only [execOp, ho, hx, hy, Instr.storeAt, Instr.sureAddr, Sem.run_bind, Sem.run_pure, Result.andThen_ok]
    rw [storeG hR]; rfl
  unfold Oper.wp
  rw [hr]
  exact h _ (hR.setCells s') (stp_setCells _ _ _ _)
theorem step_newG (hgd : o.guard = none) (ho : o.op = .alloc 43)
    (h : ∀ g w', w.heap.size ≤ g → g < w'.heap.size → GR w' g Gm.zero → Below w.heap.size w w' → K (a.put o.dst (.pointer (some ⟨g, 0, none⟩))) w') : if Region.wanted o (yielded ops a.tmps) = true then Oper.wp Tryz.prog o a w K Q else E := by
  have hw : Region.wanted o (yielded ops a.tmps) = true := by simp [Region.wanted, hgd]
  rw [if_pos hw]
  have hi : (Instr.alloc 43 true (.tuple #[])).run Tryz.prog w = .ok (.pointer (some ⟨w.heap.size, 0, none⟩)) (w.alloc (.cells (gc Gm.zero).toArray 43)) := by
    unfold Instr.alloc; rw [Sem.run_bind, gZero]; rfl
  have hr : (execOp a.eval o).run Tryz.prog w = .ok (.value (.pointer (some ⟨w.heap.size, 0, none⟩))) (w.alloc (.cells (gc Gm.zero).toArray 43)) := by
    simp only [execOp, ho, Sem.run_bind, hi]; rfl
  unfold Oper.wp
  rw [hr]
  exact h w.heap.size _ (Nat.le_refl _) (by simp) (GR.made _ _ _) ((Below.refl _ _).alloc (Nat.le_refl _) _)
end
theorem yields_G {ops : Array Oper} {S : World → Prop} {op : Oper} {a : Act} (hw : Region.wanted op (yielded ops a.tmps) = true) (x : Operand) (ho : op.op = .load 43 x) (g : Nat) (hx : a.eval x = .pointer (some ⟨g, 0, none⟩)) (s : Gm) (hS : ∀ w, S w → GR w g s) :
    YieldsIf Tryz.prog ops S op (gv s) a := by
  obtain ⟨fs, hf⟩ := gUnd
  exact yieldsIf_load_mid hw 43 x ho g 0 hx (gc s) _ (fun w h => (hS w h).range) hf rfl gSize
end Go.Proofs.YtgdnhkdfcjpdiaaGreatDoor
