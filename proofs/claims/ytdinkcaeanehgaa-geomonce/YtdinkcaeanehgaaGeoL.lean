/-
  What a round of GeomOnce keeps: no statement is proved here.
-/
import Derived.Test.YtdinkcaeanehgaaGeoK
import Derived.Test.YtdinkcaeanehgaaBaseA
import Derived.Laws.MakeOwn
namespace Go.Proofs.Ytdinkcaeanehgaa.geomOnce
open Go.ChangeShapes Go.WideShapes Go.ChangeAt Go.RowKit
set_option linter.unusedVariables false

/-- The block b counts N sectors. -/
structure Seen (w : World) (b N : Nat) (f : Nat → Int) : Prop where
  c : ∀ i, i < N → w.cell? ⟨b, i, none⟩ = some (.int .i64 (f i))
  z : ∀ i, i < N → w.frozen? ⟨b, i, none⟩ = false
theorem Seen.later {w w' : World} {b N : Nat} {f : Nat → Int} (h : Seen w b N f) (k : Below w.heap.size w w') : Seen w' b N f :=
  ⟨fun i hi => by rw [k.cell (p := ⟨b, i, none⟩) (World.block_lt_of_cell? w ⟨b, i, none⟩ (h.c i hi))]; exact h.c i hi,
   fun i hi => by rw [k.frozen (p := ⟨b, i, none⟩) (World.block_lt_of_cell? w ⟨b, i, none⟩ (h.c i hi))]; exact h.z i hi⟩
theorem Seen.set {w : World} {b N : Nat} {f : Nat → Int} (h : Seen w b N f) {i : Nat} (hi : i < N) (v : Int) : Seen (w.setCell ⟨b, i, none⟩ (.int .i64 v)) b N (fun j => if j = i then v else f j) := by
  refine ⟨fun j hj => ?_, fun j hj => by simpa using h.z j hj⟩
  by_cases e : j = i
  · subst e; rw [if_pos rfl]; exact World.cell?_setCell_same _ _ _ (h.c j hj)
  · rw [if_neg e, World.cell?_setCell_other _ _ _ _ (by simp)]; exact h.c j hj
/-- Noughts. -/
def zInts (n : Nat) : Obj := .cells (madeCells #[.int .i64 0] n) 3
theorem infoI : (Try.prog.info? 3).map (fun i => (i.zero, i.size, i.bytes)) = some (some (.int .i64 0), 1, 8) := by kernel_rfl
theorem make_ints (n : Nat) (h : n ≤ 100000) (u : World) : (Instr.makeSlice 47 (.int .i64 n) (.int .i64 n)).run Try.prog u = .ok (.slice (some ⟨u.heap.size, 0, none⟩) n n) (u.alloc (zInts n)) := by
  obtain ⟨i, hi, hz, hs, hb⟩ := info_parts infoI
  have := run_make (P := Try.prog) u 47 3 i _ (by kernel_rfl) hi hz .i64 .i64 n n (by omega) (Int.le_refl _) (by rw [hb]; omega) (by omega)
  simp only [Int.toNat_natCast, hs, Nat.mul_one] at this
  exact this
theorem Seen.made (u : World) (N : Nat) : Seen (u.alloc (zInts N)) u.heap.size N (fun _ => 0) := by
  refine ⟨fun i hi => ?_, fun i hi => by unfold zInts; simp [go_sem]⟩
  unfold zInts
  rw [cell_of_row _ _ _ _ _ (0, 0) (heap_alloc_new u _)]
  unfold madeCells
  rw [Array.getElem?_map, Array.getElem?_range, if_pos hi]
  simp [Nat.mod_one]

/-- What stands at the head of a round. -/
structure Inv (w wr : World) (G I D N a b : Nat) (f : Nat → Int) : Prop where
  bel : Below w.heap.size w wr
  geo : Gat wr a (sh G I D)
  seen : Seen wr b N f
  ha : w.heap.size ≤ a
  hb : w.heap.size ≤ b
  hab : a ≠ b
theorem Inv.later {w wr w' : World} {G I D N a b : Nat} {f : Nat → Int} (h : Inv w wr G I D N a b f) (k : Below wr.heap.size wr w') : Inv w w' G I D N a b f :=
  ⟨bnext h.bel k (Nat.le_refl _), h.geo.later k, h.seen.later k, h.ha, h.hb, h.hab⟩
theorem Inv.set {w wr : World} {G I D N a b : Nat} {f f' : Nat → Int} (h : Inv w wr G I D N a b f) {i : Nat} (hi : i < N) (v : Int) (hf : ∀ j, (if j = i then v else f j) = f' j) : Inv w (wr.setCell ⟨b, i, none⟩ (.int .i64 v)) G I D N a b f' := by
  refine ⟨h.bel.setCell h.hb _, ⟨?_, ?_, ?_⟩, ?_, h.ha, h.hb, h.hab⟩
  · rw [World.cell?_setCell_other _ _ _ _ (by simp; intro e; exact absurd e.symm h.hab)]; exact h.geo.c0
  · rw [World.cell?_setCell_other _ _ _ _ (by simp; intro e; exact absurd e.symm h.hab)]; exact h.geo.c1
  · rw [World.cell?_setCell_other _ _ _ _ (by simp; intro e; exact absurd e.symm h.hab)]; exact h.geo.c2
  · have := h.seen.set hi v
    rwa [funext hf] at this
theorem Inv.c0 {w wr : World} {G I D N a b : Nat} {f : Nat → Int} (h : Inv w wr G I D N a b f) : wr.cell? ⟨a, 0, none⟩ = some (.int .i64 (G : Int)) := h.geo.c0
theorem Inv.c1 {w wr : World} {G I D N a b : Nat} {f : Nat → Int} (h : Inv w wr G I D N a b f) : wr.cell? ⟨a, 1, none⟩ = some (.int .i64 (I : Int)) := h.geo.c1
theorem Inv.c2 {w wr : World} {G I D N a b : Nat} {f : Nat → Int} (h : Inv w wr G I D N a b f) : wr.cell? ⟨a, 2, none⟩ = some (.int .i64 (D : Int)) := h.geo.c2
theorem Inv.as {w wr : World} {G I D N a b : Nat} {f f' : Nat → Int} (h : Inv w wr G I D N a b f) (hf : ∀ j, f j = f' j) : Inv w wr G I D N a b f' := by
  rwa [funext hf] at h

section
variable {G I D k i n : Nat}
theorem head_at (h : Sz G I D) (w : World) (hk : k < G) : Calls Try.prog 7 #[.agg #[.int .i64 (G : Int), .int .i64 (I : Int), .int .i64 (D : Int)], .int .i64 (k : Int)] w fun e w' => e = .returned (.tuple #[.int .i64 ((2 + k * (2 + I + D) + 0 : Nat) : Int), .int .i64 0]) ∧ Below w.heap.size w w' := by
  have := head_any (sh G I D) k w
  have e2 : (sh G I D).herr k = 0 := if_pos (sh_has h hk)
  rwa [show (0 : Int) = ((0 : Nat) : Int) from rfl, sh_inG h hk 0, e2] at this
theorem maps_at (h : Sz G I D) (w : World) (hk : k < G) : Calls Try.prog 9 #[.agg #[.int .i64 (G : Int), .int .i64 (I : Int), .int .i64 (D : Int)], .int .i64 (k : Int)] w fun e w' => e = .returned (.tuple #[.int .i64 ((2 + k * (2 + I + D) + 1 : Nat) : Int), .int .i64 0]) ∧ Below w.heap.size w w' := by
  have := maps_any (sh G I D) k w
  have e2 : (sh G I D).herr k = 0 := if_pos (sh_has h hk)
  rwa [show (1 : Int) = ((1 : Nat) : Int) from rfl, sh_inG h hk 1, e2] at this
theorem data_at (h : Sz G I D) (w : World) (hk : k < G) (hi : i < D) : Calls Try.prog 13 #[.agg #[.int .i64 (G : Int), .int .i64 (I : Int), .int .i64 (D : Int)], .int .i64 (k : Int), .int .i64 (i : Int)] w fun e w' => e = .returned (.tuple #[.int .i64 ((2 + k * (2 + I + D) + (2 + I + i) : Nat) : Int), .int .i64 0]) ∧ Below w.heap.size w w' := by
  have := data_any (sh G I D) k i w
  have e2 : (sh G I D).derr k i = 0 := if_pos ⟨sh_has h hk, by omega, by show (i : Int) < (D : Int); omega⟩
  rwa [sh_data h hk hi, e2] at this
theorem where_at {c : Nat} (h : Sz G I D) (w : World) (hk : k < G) (hc : c < 2 + I + D) (kd ix : Int) (h1 : (sh G I D).kindAt c = kd) (h2 : (sh G I D).indAt c = ix) : Calls Try.prog 15 #[.agg #[.int .i64 (G : Int), .int .i64 (I : Int), .int .i64 (D : Int)], .int .i64 ((2 + k * (2 + I + D) + c : Nat) : Int)] w fun e w' => e = .returned (.tuple #[.agg #[.int .i64 kd, .int .i64 (k : Int), .int .i64 ix], .int .i64 0]) ∧ Below w.heap.size w w' := by
  have := where_any (sh G I D) ((2 + k * (2 + I + D) + c : Nat) : Int) w
  obtain ⟨e1, e2, e3, e4⟩ := sh_place h hk hc
  rwa [e1, e2, e3, e4, h1, h2] at this
theorem where_h (h : Sz G I D) (w : World) (hk : k < G) : Calls Try.prog 15 #[.agg #[.int .i64 (G : Int), .int .i64 (I : Int), .int .i64 (D : Int)], .int .i64 ((2 + k * (2 + I + D) + 0 : Nat) : Int)] w fun e w' => e = .returned (.tuple #[.agg #[.int .i64 2, .int .i64 (k : Int), .int .i64 0], .int .i64 0]) ∧ Below w.heap.size w w' :=
  where_at h w hk (by omega) 2 0 (by unfold Gm.kindAt; simp) (by unfold Gm.indAt; simp)
theorem where_m (h : Sz G I D) (w : World) (hk : k < G) : Calls Try.prog 15 #[.agg #[.int .i64 (G : Int), .int .i64 (I : Int), .int .i64 (D : Int)], .int .i64 ((2 + k * (2 + I + D) + 1 : Nat) : Int)] w fun e w' => e = .returned (.tuple #[.agg #[.int .i64 3, .int .i64 (k : Int), .int .i64 0], .int .i64 0]) ∧ Below w.heap.size w w' :=
  where_at h w hk (by have := h.i1; omega) 3 0 (by unfold Gm.kindAt; simp) (by unfold Gm.indAt; simp)
theorem where_d (h : Sz G I D) (w : World) (hk : k < G) (hi : i < D) : Calls Try.prog 15 #[.agg #[.int .i64 (G : Int), .int .i64 (I : Int), .int .i64 (D : Int)], .int .i64 ((2 + k * (2 + I + D) + (2 + I + i) : Nat) : Int)] w fun e w' => e = .returned (.tuple #[.agg #[.int .i64 0, .int .i64 (k : Int), .int .i64 (i : Int)], .int .i64 0]) ∧ Below w.heap.size w w' := by
  refine where_at h w hk (by omega) 0 i ?_ ?_
  · unfold Gm.kindAt sh; simp only; rw [if_neg (by omega), if_neg (by omega), if_neg (by omega)]
  · unfold Gm.indAt sh; simp only; rw [if_neg (by omega), if_neg (by omega), if_neg (by omega)]; omega
theorem inode_at (h : Sz G I D) (w : World) (hn : n < G * (I * 3)) : Calls Try.prog 11 #[.agg #[.int .i64 (G : Int), .int .i64 (I : Int), .int .i64 (D : Int)], .int .i64 ((n : Int) + 1)] w fun e w' => e = .returned (.tuple #[.agg #[.int .i64 ((2 + n / (I * 3) * (2 + I + D) + (2 + n % (I * 3) / 3) : Nat) : Int), .int .i64 ((n % (I * 3) % 3 : Nat) : Int), .int .i64 ((n / (I * 3) : Nat) : Int), .int .i64 ((n % (I * 3) : Nat) : Int)], .int .i64 0]) ∧ Below w.heap.size w w' := by
  have := inode_any (sh G I D) ((n : Int) + 1) w
  obtain ⟨e1, e2, e3, e4, e5⟩ := sh_inode h hn
  rwa [e1, e2, e3, e4, e5] at this
theorem grp_lt (hn : n < G * (I * 3)) : n / (I * 3) < G := Nat.div_lt_of_lt_mul (by rw [Nat.mul_comm]; exact hn)
theorem ind_lt (hI : 1 ≤ I) : n % (I * 3) / 3 < I := by
  have := Nat.mod_lt n (show 0 < I * 3 by omega)
  omega
theorem where_i (h : Sz G I D) (w : World) (hn : n < G * (I * 3)) : Calls Try.prog 15 #[.agg #[.int .i64 (G : Int), .int .i64 (I : Int), .int .i64 (D : Int)], .int .i64 ((2 + n / (I * 3) * (2 + I + D) + (2 + n % (I * 3) / 3) : Nat) : Int)] w fun e w' => e = .returned (.tuple #[.agg #[.int .i64 4, .int .i64 ((n / (I * 3) : Nat) : Int), .int .i64 ((n % (I * 3) / 3 : Nat) : Int)], .int .i64 0]) ∧ Below w.heap.size w w' := by
  have hl := ind_lt (n := n) h.i1
  refine where_at h w (grp_lt hn) (by omega) 4 _ ?_ ?_
  · unfold Gm.kindAt sh; simp only; rw [if_neg (by omega), if_neg (by omega), if_pos (by omega)]
  · unfold Gm.indAt sh; simp only; rw [if_neg (by omega), if_neg (by omega), if_pos (by omega)]; omega
theorem total_at (h : Sz G I D) (w : World) : Calls Try.prog 19 #[.agg #[.int .i64 (G : Int), .int .i64 (I : Int), .int .i64 (D : Int)]] w fun e w' => e = .returned (.int .i64 ((2 + G * (2 + I + D) : Nat) : Int)) ∧ Below w.heap.size w w' := by
  have := total_any (sh G I D) w
  rwa [sh_total h] at this
theorem inodes_at (h : Sz G I D) (w : World) : Calls Try.prog 21 #[.agg #[.int .i64 (G : Int), .int .i64 (I : Int), .int .i64 (D : Int)]] w fun e w' => e = .returned (.int .i64 ((G * (I * 3) : Nat) : Int)) ∧ Below w.heap.size w w' := by
  have := inodes_any (sh G I D) w
  rwa [sh_inodes h] at this
end
end Go.Proofs.Ytdinkcaeanehgaa.geomOnce
