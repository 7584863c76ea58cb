/-
  What New of the document's disk returns: no statement is proved here.
-/
import Derived.Test.YtecedklfdmbnpaaRfE
import Derived.Laws.MakeOwn
namespace Go.Proofs.Ytecedklfdmbnpaa
open Go.ChangeShapes Go.WideShapes Go.ChangeAt Go.RowKit
set_option linter.unusedVariables false

/-- Blocks of noughts; slices without members. -/
def zBlks (n : Nat) : Obj := .cells (madeCells Blk.zero.cs.toArray (n * 64)) 42
def zSls (n : Nat) : Obj := .cells (madeCells #[.slice none 0 0] n) 73
theorem info41 : (Try.prog.info? 73).map (fun i => (i.zero, i.size, i.bytes)) = some (some (.slice none 0 0), 1, 24) := by kernel_rfl
theorem make_blks (n : Nat) (h : n ≤ 100000) (u : World) : (Instr.makeSlice 73 (.int .i64 n) (.int .i64 n)).run Try.prog u = .ok (.slice (some ⟨u.heap.size, 0, none⟩) n n) (u.alloc (zBlks n)) := by
  obtain ⟨i, hi, hz, hs, hb⟩ := info_parts info36
  have := run_make (P := Try.prog) u 73 42 i _ u41 hi hz .i64 .i64 n n (by omega) (Int.le_refl _) (by rw [hb]; omega) (by omega)
  simp only [Int.toNat_natCast, hs] at this
  exact this
theorem make_sls (n : Nat) (h : n ≤ 100000) (u : World) : (Instr.makeSlice 74 (.int .i64 n) (.int .i64 n)).run Try.prog u = .ok (.slice (some ⟨u.heap.size, 0, none⟩) n n) (u.alloc (zSls n)) := by
  obtain ⟨i, hi, hz, hs, hb⟩ := info_parts info41
  have := run_make (P := Try.prog) u 74 73 i _ (by kernel_rfl) hi hz .i64 .i64 n n (by omega) (Int.le_refl _) (by rw [hb]; omega) (by omega)
  simp only [Int.toNat_natCast, hs, Nat.mul_one] at this
  exact this
theorem zcs (j : Nat) (h : j < 64) : Blk.zero.cs[j]? = some (.int .u8 0) := by
  have e : Blk.zero.cs = List.replicate 64 (.int .u8 0) := rfl
  rw [e, List.getElem?_replicate, if_pos h]
theorem zBlks_cell (u : World) (n i j : Nat) (hi : i < n) (hj : j < 64) : (u.alloc (zBlks n)).cell? ⟨u.heap.size, i * 64 + j, none⟩ = some (.int .u8 0) := by
  unfold zBlks
  rw [cell_of_row _ _ _ _ _ (0, 0) (heap_alloc_new u _)]
  unfold madeCells
  have h1 : i * 64 + j < n * 64 := by have : (i + 1) * 64 ≤ n * 64 := Nat.mul_le_mul_right _ hi; omega
  rw [Array.getElem?_map, Array.getElem?_range]
  rw [if_pos h1]
  simp only [Option.map_some, List.size_toArray, Blk.cs_len]
  have h2 : (i * 64 + j) % 64 = j := by omega
  rw [h2]
  have h3 := zcs j hj
  have h4 : Blk.zero.cs.toArray[j]? = some (.int .u8 0) := by simpa using h3
  rw [getElem!_def, h4]
theorem zBlks_range (u : World) (n i : Nat) (hi : i < n) : (u.alloc (zBlks n)).rangeAt u.heap.size (i * 64) Blk.zero.cs := fun j v hv => by
  have hj : j < 64 := by have := (List.getElem?_eq_some_iff.1 hv).1; rwa [Blk.cs_len] at this
  rw [zcs j hj] at hv; cases hv
  exact zBlks_cell u n i j hi hj
theorem zBlks_there (u : World) (n i : Nat) (hi : i < n) : (u.alloc (zBlks n)).there u.heap.size (i * 64) 64 := fun j hj => ⟨by rw [zBlks_cell u n i j hi hj]; rfl, by unfold zBlks; simp [go_sem]⟩
theorem zSls_cell (u : World) (n i : Nat) (hi : i < n) : (u.alloc (zSls n)).cell? ⟨u.heap.size, i, none⟩ = some (.slice none 0 0) := by
  unfold zSls
  rw [cell_of_row _ _ _ _ _ (0, 0) (heap_alloc_new u _)]
  unfold madeCells
  rw [Array.getElem?_map, Array.getElem?_range, if_pos hi]
  simp [Nat.mod_one]
theorem zSls_frozen (u : World) (n i : Nat) : (u.alloc (zSls n)).frozen? ⟨u.heap.size, i, none⟩ = false := by unfold zSls; simp [go_sem]

/-- A disk that has just come: whichever of both rows was laid first. -/
theorem rk_new {w u1 u2 u : World} {y q s t n : Nat} (h1 : 1 ≤ n) (h2 : n ≤ 2048) (ks : Stp (fun _ => False) (u1.alloc (zBlks n)) u) (kt : Stp (fun _ => False) (u2.alloc (zSls n)) u) (es : u1.heap.size = s) (et : u2.heap.size = t) (hy : y = u.heap.size) (hst : s ≠ t) (hsw : w.heap.size ≤ s) (htw : w.heap.size ≤ t) (huw : w.heap.size ≤ u.heap.size) :
    Rk (u.alloc (.cells #[.pointer (some ⟨q, 0, none⟩), .slice (some ⟨s, 0, none⟩) n n, .slice (some ⟨t, 0, none⟩) n n, .int .i64 0] 76)) y q s t (fun _ => .slice none 0 0) (DS.new n) (fun x => w.heap.size ≤ x ∧ x ≤ u.heap.size) := by
  subst es; subst et; subst hy
  have ls : u1.heap.size < u.heap.size := by have := ks.size; simp at this; omega
  have lt : u2.heap.size < u.heap.size := by have := kt.size; simp at this; omega
  have kA : Stp (fun _ => False) u (u.alloc (.cells #[.pointer (some ⟨q, 0, none⟩), .slice (some ⟨u1.heap.size, 0, none⟩) n n, .slice (some ⟨u2.heap.size, 0, none⟩) n n, .int .i64 0] 76)) := Stp.of_alloc _ _ _
  refine ⟨by simp [go_sem], by simp [go_sem, DS.new], by simp [go_sem, DS.new], by simp [go_sem, DS.new], by simp [go_sem], fun i hi => kA.range (ks.range (zBlks_range u1 n i hi) id) id, fun i hi => kA.there (ks.there (zBlks_there u1 n i hi) id) id,
    fun i hi => kA.cell (kt.cell (zSls_cell u2 n i hi) id) id, fun i hi => ?_, fun i hi => ⟨none, 0, rfl, Bls.nilSlice _, fun x e => by cases e⟩, ⟨h1, h2, fun _ _ => rfl, fun _ _ => rfl⟩, ⟨huw, Nat.le_refl _⟩, ⟨hsw, by omega⟩, ⟨htw, by omega⟩, by omega, by omega, hst, fun x hx => by simp; omega, fun i hi L c e => by injection e with _ _ e3; exact e3.symm⟩
  rw [kA.frozen (p := ⟨u2.heap.size, i, none⟩) lt id, kt.frozen (p := ⟨u2.heap.size, i, none⟩) (by simp) id]
  exact zSls_frozen u2 n i

set_option maxRecDepth 100000 in
theorem rnew_disk (n q : Nat) (w : World) (h1 : 1 ≤ n) (h2 : n ≤ 2048) :
    Calls Try.prog 9 #[.int .i64 n, .pointer (some ⟨q, 0, none⟩)] w fun e w' => ∃ y R, e = .returned (.tuple #[.pointer (some ⟨y, 0, none⟩), .int .i64 0]) ∧ Below w.heap.size w w' ∧ RD w' y q (DS.new n) R ∧ (∀ x, R x → w.heap.size ≤ x) := by
  have m1 := make_blks n (by omega)
  have m2 := make_sls n (by omega)
  have h1' : ¬ (n : Int) < 1 := by omega
  have h2' : (n : Int) ≤ 2048 := by omega
  go_enter Try.func9, Try.ntmps9
  go_wp2_with fail
  go_region_held3 (fun _ => True) (trivial) (fail)
  · go_wp2_with fail
    go_ret2
    have k := rk_new (w := w) (u1 := w) (u2 := w.alloc (zBlks n)) (u := (w.alloc (zBlks n)).alloc (zSls n)) (q := q) h1 h2 (Stp.of_alloc _ _ _) (Stp.refl _ _) rfl rfl rfl (by simp) (Nat.le_refl _) (by simp) (by simp; omega)
    refine ⟨w.heap.size + 1 + 1, fun x => w.heap.size ≤ x ∧ x ≤ ((w.alloc (zBlks n)).alloc (zSls n)).heap.size, rfl, by go_grown, ⟨w.heap.size, w.heap.size + 1, fun _ => .slice none 0 0, ?_⟩, fun x hx => hx.1⟩
    have k' := k.step (Stp.refl (fun _ => False) _).drew (fun _ _ => id)
    simpa using k'
  · go_wp2_with fail
    go_ret2
    have k := rk_new (w := w) (u1 := w.alloc (zSls n)) (u2 := w) (u := (w.alloc (zSls n)).alloc (zBlks n)) (q := q) h1 h2 (Stp.refl _ _) (Stp.of_alloc _ _ _) rfl rfl rfl (by simp) (by simp) (Nat.le_refl _) (by simp; omega)
    refine ⟨w.heap.size + 1 + 1, fun x => w.heap.size ≤ x ∧ x ≤ ((w.alloc (zSls n)).alloc (zBlks n)).heap.size, rfl, by go_grown, ⟨w.heap.size + 1, w.heap.size, fun _ => .slice none 0 0, ?_⟩, fun x hx => hx.1⟩
    have k' := k.step (Stp.refl (fun _ => False) _).drew (fun _ _ => id)
    simpa using k'

theorem rnew_bad (n : Int) (q : Value) (w : World) (hn : n < 1 ∨ 2048 < n) :
    Calls Try.prog 9 #[.int .i64 n, q] w fun e w' => e = .returned (.tuple #[.pointer none, .int .i64 2]) ∧ w = w' := by
  rcases hn with h | h
  · go_enter Try.func9, Try.ntmps9
    go_wp2
    go_ret2
    exact ⟨rfl, rfl⟩
  · have h' : ¬ n < 1 := by omega
    go_enter Try.func9, Try.ntmps9
    go_wp2
    go_ret2
    exact ⟨rfl, rfl⟩
end Go.Proofs.Ytecedklfdmbnpaa
