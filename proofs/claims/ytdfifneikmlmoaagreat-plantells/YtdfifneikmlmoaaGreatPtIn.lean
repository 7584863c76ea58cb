/-
  Patches that come in at a statement: no statement is proved here.
-/
import Derived.Test.YtdfifneikmlmoaaGreatMadeA
import Derived.Deep.RegionLaw
import Derived.OpenShut
namespace Go.Proofs.YtdfifneikmlmoaaGreat
open Go.ChangeShapes Go.WideShapes Go.ChangeAt Go.RowKit
set_option linter.unusedVariables false
set_option linter.unusedSimpArgs false

section
variable {H : Type} {enc : TypeId × Value → H} {w : World} {base : Nat} {spare : Nat → Bool} {held : Bool}
theorem insS_of_trod {fuel : Nat} {cs : List Value} {x : DataW H × List MemPlace} (h : DataW.trod enc Tryz.prog w base spare held fuel 23 cs = some x) : ∃ (s : Sv) (l : List Int), cs = [.slice s.a s.n s.c] ∧ InsS w s l := by
  rcases open_ints (k := .i64) (e := 3) (by kernel_rfl) u3 (by kernel_rfl) h with ⟨hcs, _⟩ | ⟨a, l, c, zs, hcs, _, hl, hm, hz, _, hcell, hwz⟩
  · exact ⟨Sv.nil, [], hcs, InsS.nil w⟩
  · exact ⟨⟨some a, l, c⟩, _, hcs, ins_open hl hm (by rw [hz]; show l ≤ _; split <;> omega) hcell hwz, fun e => by cases e⟩
theorem bs_open2 {w : World} {x : Addr} {n c : Nat} {zs : List Int} (hl : n ≤ c) (hm : c ≤ maxLen) (hz : n ≤ zs.length) (hcell : ∀ i, i < zs.length → w.cell? (x.add i) = some (.int .u8 (zs.getD i 0))) (hwz : ∀ k ∈ zs, (Lit.int .u8 k).wf = true) :
    Bs w (some x) n c (zs.take n) := by
  refine ⟨by simp; omega, hl, hm, (fun h => by cases h), fun k hk => ?_, fun hn => ?_⟩
  · have := bounds_u8 (hwz k (List.mem_of_mem_take hk)); omega
  · obtain ⟨b, o, spot⟩ := x
    have h0 := hcell 0 (by omega)
    have hspot : spot = none := by simpa [Addr.add] using World.cell?_spot h0
    subst hspot
    refine ⟨b, o, rfl, fun i hi => ?_⟩
    have := hcell i (by omega)
    rw [Addr.add_lit] at this
    rw [this, List.getD_eq_getElem?_getD, List.getD_eq_getElem?_getD, List.getElem?_take, if_pos hi]
theorem bsS_of_trod {fuel : Nat} {cs : List Value} {x : DataW H × List MemPlace} (h : DataW.trod enc Tryz.prog w base spare held fuel 52 cs = some x) : ∃ (s : Sv) (l : List Int), cs = [.slice s.a s.n s.c] ∧ BsS w s l := by
  rcases open_ints (k := .u8) (e := 5) (by kernel_rfl) (by kernel_rfl) (by kernel_rfl) h with ⟨hcs, _⟩ | ⟨x, l, c, zs, hcs, _, hl, hm, hz, _, hcell, hwz⟩
  · exact ⟨Sv.nil, [], hcs, bsS_nil w⟩
  · exact ⟨⟨some x, l, c⟩, _, hcs, bs_open2 hl hm (by rw [hz]; show l ≤ _; split <;> omega) hcell hwz⟩
theorem one_of {cs : List Value} {i : Nat} {v : Value} (h : (cs.drop i).take 1 = [v]) : cs[i]? = some v := by
  have : ((cs.drop i).take 1)[0]? = some v := by rw [h]; rfl
  rw [List.getElem?_take, if_pos (by omega), List.getElem?_drop] at this
  simpa using this
set_option maxRecDepth 100000 in
theorem pt_of_trod {fuel : Nat} {cs : List Value} {x : DataW H × List MemPlace} (h : DataW.trod enc Tryz.prog w base spare held fuel 54 cs = some x) : ∃ (p : Pt) (d n : Sv), p.cs d n = cs ∧ p.wfp ∧ BsS w d p.data ∧ InsS w n p.needs := by
  obtain ⟨fs, hfs, hf0, hf1, hf2, hf3, hf4, hf5, hf6, hf7, hf8⟩ : ∃ fs : Array Field, Tryz.prog.underlying 54 = some (.struct fs) ∧ (fs[0]?.map fun f => (f.offset, f.type)) = some (0, 3) ∧ (fs[1]?.map fun f => (f.offset, f.type)) = some (1, 3) ∧ (fs[2]?.map fun f => (f.offset, f.type)) = some (2, 3) ∧ (fs[3]?.map fun f => (f.offset, f.type)) = some (3, 52) ∧ (fs[4]?.map fun f => (f.offset, f.type)) = some (4, 3) ∧ (fs[5]?.map fun f => (f.offset, f.type)) = some (5, 23) ∧ (fs[6]?.map fun f => (f.offset, f.type)) = some (6, 3) ∧ (fs[7]?.map fun f => (f.offset, f.type)) = some (7, 3) ∧ (fs[8]?.map fun f => (f.offset, f.type)) = some (8, 4) :=
    ⟨_, Tryz.underlying54, rfl, rfl, rfl, rfl, rfl, rfl, rfl, rfl, rfl⟩
  have hsz : fs.size = 9 := by
    have e := Tryz.underlying54
    rw [hfs] at e; injection e with e; injection e with e; subst e; rfl
  obtain ⟨xs, m, _, _, hl, hx, hi⟩ := DataW.trod_struct hfs h
  have hl' : cs.length = 9 := hl.trans (by kernel_rfl)
  have ci : Tryz.prog.cellsOf 3 = 1 := by kernel_rfl
  have cb : Tryz.prog.cellsOf 52 = 1 := by kernel_rfl
  have cl : Tryz.prog.cellsOf 23 = 1 := by kernel_rfl
  have co : Tryz.prog.cellsOf 4 = 1 := by kernel_rfl
  have get : ∀ i o t, (fs[i]?.map fun f => (f.offset, f.type)) = some (o, t) → i < 9 → ∃ y, DataW.trod enc Tryz.prog w base spare held m t ((cs.drop o).take (Tryz.prog.cellsOf t)) = some y := fun i o t e hi4 => by
    cases ef : fs[i]? with
    | none => rw [ef] at e; cases e
    | some f =>
      rw [ef] at e
      simp only [Option.map_some, Option.some.injEq, Prod.mk.injEq] at e
      have := hi i f ef
      rw [e.1, e.2, List.getElem?_eq_getElem (by omega)] at this
      exact ⟨_, this⟩
  obtain ⟨_, g0⟩ := get 0 0 _ hf0 (by omega)
  obtain ⟨_, g1⟩ := get 1 1 _ hf1 (by omega)
  obtain ⟨_, g2⟩ := get 2 2 _ hf2 (by omega)
  obtain ⟨_, g3⟩ := get 3 3 _ hf3 (by omega)
  obtain ⟨_, g4⟩ := get 4 4 _ hf4 (by omega)
  obtain ⟨_, g5⟩ := get 5 5 _ hf5 (by omega)
  obtain ⟨_, g6⟩ := get 6 6 _ hf6 (by omega)
  obtain ⟨_, g7⟩ := get 7 7 _ hf7 (by omega)
  obtain ⟨_, g8⟩ := get 8 8 _ hf8 (by omega)
  rw [ci] at g0 g1 g2 g4 g6 g7; rw [cb] at g3; rw [cl] at g5; rw [co] at g8
  obtain ⟨x0, e0, _, w0⟩ := DataW.trod_int u3 g0
  obtain ⟨x1, e1, _, w1⟩ := DataW.trod_int u3 g1
  obtain ⟨x2, e2, _, w2⟩ := DataW.trod_int u3 g2
  obtain ⟨x3, l3, e3, w3⟩ := bsS_of_trod g3
  obtain ⟨x4, e4, _, w4⟩ := DataW.trod_int u3 g4
  obtain ⟨x5, l5, e5, w5⟩ := insS_of_trod g5
  obtain ⟨x6, e6, _, w6⟩ := DataW.trod_int u3 g6
  obtain ⟨x7, e7, _, w7⟩ := DataW.trod_int u3 g7
  obtain ⟨x8, e8, _⟩ := DataW.trod_bool (by kernel_rfl) g8
  refine ⟨⟨x0, x1, x2, l3, x4, l5, x6, x7, x8⟩, x3, x5, ?_, ⟨w0, w1, w2, w4, w6, w7⟩, w3, w5⟩
  apply List.ext_getElem?
  intro i
  match i with
  | 0 => exact (one_of e0).symm
  | 1 => exact (one_of e1).symm
  | 2 => exact (one_of e2).symm
  | 3 => exact (one_of e3).symm
  | 4 => exact (one_of e4).symm
  | 5 => exact (one_of e5).symm
  | 6 => exact (one_of e6).symm
  | 7 => exact (one_of e7).symm
  | 8 => exact (one_of e8).symm
  | i + 9 => rw [List.getElem?_eq_none (by simp [Pt.cs]), List.getElem?_eq_none (by omega)]
end
end Go.Proofs.YtdfifneikmlmoaaGreat
