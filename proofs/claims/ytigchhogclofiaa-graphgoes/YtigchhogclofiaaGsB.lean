/-
  Acts of layer 14 that came in: no statement is proved here.
-/
import Derived.Test.YtigchhogclofiaaGsA
import Derived.Test.YtigchhogclofiaaBaseA
import Derived.Deep.RegionLaw
namespace Go.Proofs.Ytigchhogclofiaa
open Go.ChangeShapes Go.WideShapes Go.ChangeAt Go.RowKit
set_option linter.unusedVariables false
set_option linter.unusedSimpArgs false

/-- An act that came in. -/
structure Ac where
  d : Int
  n : Int
  p : Pt
  dv : Sv
  nv : Sv
  near : Bool
def Ac.cs (x : Ac) : List Value := .int .i64 x.d :: .int .i64 x.n :: (x.p.cs x.dv x.nv ++ [.bool x.near])
theorem Ac.cs_len (x : Ac) : x.cs.length = 12 := rfl
theorem Ac.cs_one (x : Ac) : ∀ v ∈ x.cs, v.oneCell' = true := by
  intro v hv
  unfold Ac.cs at hv
  simp only [List.mem_cons, List.mem_append, List.not_mem_nil, or_false] at hv
  rcases hv with rfl | rfl | hv | rfl
  · rfl
  · rfl
  · exact x.p.cs_one x.dv x.nv v hv
  · rfl
structure Ac.ok (x : Ac) (w : World) : Prop where
  d : wfi x.d
  n : wfi x.n
  p : x.p.wfp
  b : BsS w x.dv x.p.data
  i : InsS w x.nv x.p.needs
theorem Ac.ok.later {x : Ac} {w w' : World} (h : x.ok w) (hb : Below w.heap.size w w') : x.ok w' := ⟨h.d, h.n, h.p, h.b.later hb, h.i.later hb⟩
/-- A slice of acts. -/
structure Acs (w : World) (a : Option Addr) (n c : Nat) (l : List Ac) : Prop where
  len : l.length = n
  le : n ≤ c
  cap : c ≤ maxLen
  cell : 0 < n → ∃ b o, a = some ⟨b, o, none⟩ ∧ ∀ i, i < n → ∃ x : Ac, l[i]? = some x ∧ w.rangeAt b (o + i * 12) x.cs ∧ x.ok w
theorem Acs.later {w w' : World} {a : Option Addr} {n c : Nat} {l : List Ac} (h : Acs w a n c l) (hb : Below w.heap.size w w') : Acs w' a n c l :=
  ⟨h.len, h.le, h.cap, fun hn => by
    obtain ⟨b, o, e, hc⟩ := h.cell hn
    refine ⟨b, o, e, fun i hi => ?_⟩
    obtain ⟨x, e1, e2, e3⟩ := hc i hi
    exact ⟨x, e1, (Stp.of_below hb (fun _ => False)).range e2 id, e3.later hb⟩⟩
section
variable {H : Type} {enc : TypeId × Value → H} {w : World} {base : Nat} {spare : Nat → Bool} {held : Bool}
theorem insS_of_trod {fuel : Nat} {cs : List Value} {x : DataW H × List MemPlace} (h : DataW.trod enc Try.prog w base spare held fuel 28 cs = some x) : ∃ (s : Sv) (l : List Int), cs = [.slice s.a s.n s.c] ∧ InsS w s l := by
  rcases open_ints (k := .i64) (e := 3) (by kernel_rfl) u3 (by kernel_rfl) h with ⟨hcs, _⟩ | ⟨a, l, c, zs, hcs, _, hl, hm, hz, _, hcell, hwz⟩
  · exact ⟨Sv.nil, [], hcs, InsS.nil w⟩
  · exact ⟨⟨some a, l, c⟩, _, hcs, ins_open hl hm (by rw [hz]; show l ≤ _; split <;> omega) hcell hwz, fun e => by cases e⟩
theorem bs_open2 {w : World} {x : Addr} {n c : Nat} {zs : List Int} (hl : n ≤ c) (hm : c ≤ maxLen) (hz : n ≤ zs.length) (hcell : ∀ i, i < zs.length → w.cell? (x.add i) = some (.int .u8 (zs.getD i 0))) (hwz : ∀ k ∈ zs, (Lit.int .u8 k).wf = true) :
    Bs w (some x) n c (zs.take n) := by
  refine ⟨by simp; omega, hl, hm, (fun h => by cases h), fun k hk => ?_, fun hn => ?_⟩
  · have := bounds_u8 (hwz k (List.mem_of_mem_take hk)); omega
  · obtain ⟨b, o, spot⟩ := x
    have h0 := hcell 0 (by omega)
    have hspot : spot = none := by simpa [Addr.add] using World.cell?_spot h0
    subst hspot
    refine ⟨b, o, rfl, fun i hi => ?_⟩
    have := hcell i (by omega)
    rw [Addr.add_lit] at this
    rw [this, List.getD_eq_getElem?_getD, List.getD_eq_getElem?_getD, List.getElem?_take, if_pos hi]
theorem bsS_of_trod {fuel : Nat} {cs : List Value} {x : DataW H × List MemPlace} (h : DataW.trod enc Try.prog w base spare held fuel 27 cs = some x) : ∃ (s : Sv) (l : List Int), cs = [.slice s.a s.n s.c] ∧ BsS w s l := by
  rcases open_ints (k := .u8) (e := 5) (by kernel_rfl) (by kernel_rfl) (by kernel_rfl) h with ⟨hcs, _⟩ | ⟨x, l, c, zs, hcs, _, hl, hm, hz, _, hcell, hwz⟩
  · exact ⟨Sv.nil, [], hcs, bsS_nil w⟩
  · exact ⟨⟨some x, l, c⟩, _, hcs, bs_open2 hl hm (by rw [hz]; show l ≤ _; split <;> omega) hcell hwz⟩
theorem one_of {cs : List Value} {i : Nat} {v : Value} (h : (cs.drop i).take 1 = [v]) : cs[i]? = some v := by
  have : ((cs.drop i).take 1)[0]? = some v := by rw [h]; rfl
  rw [List.getElem?_take, if_pos (by omega), List.getElem?_drop] at this
  simpa using this
set_option maxRecDepth 100000 in
theorem pt_of_trod {fuel : Nat} {cs : List Value} {x : DataW H × List MemPlace} (h : DataW.trod enc Try.prog w base spare held fuel 30 cs = some x) : ∃ (p : Pt) (d n : Sv), p.cs d n = cs ∧ p.wfp ∧ BsS w d p.data ∧ InsS w n p.needs := by
  obtain ⟨fs, hfs, hf0, hf1, hf2, hf3, hf4, hf5, hf6, hf7, hf8⟩ : ∃ fs : Array Field, Try.prog.underlying 30 = some (.struct fs) ∧ (fs[0]?.map fun f => (f.offset, f.type)) = some (0, 3) ∧ (fs[1]?.map fun f => (f.offset, f.type)) = some (1, 3) ∧ (fs[2]?.map fun f => (f.offset, f.type)) = some (2, 3) ∧ (fs[3]?.map fun f => (f.offset, f.type)) = some (3, 27) ∧ (fs[4]?.map fun f => (f.offset, f.type)) = some (4, 3) ∧ (fs[5]?.map fun f => (f.offset, f.type)) = some (5, 28) ∧ (fs[6]?.map fun f => (f.offset, f.type)) = some (6, 3) ∧ (fs[7]?.map fun f => (f.offset, f.type)) = some (7, 3) ∧ (fs[8]?.map fun f => (f.offset, f.type)) = some (8, 4) :=
    ⟨_, Try.underlying30, rfl, rfl, rfl, rfl, rfl, rfl, rfl, rfl, rfl⟩
  have hsz : fs.size = 9 := by
    have e := Try.underlying30
    rw [hfs] at e; injection e with e; injection e with e; subst e; rfl
  obtain ⟨xs, m, _, _, hl, hx, hi⟩ := DataW.trod_struct hfs h
  have hl' : cs.length = 9 := hl.trans (by kernel_rfl)
  have ci : Try.prog.cellsOf 3 = 1 := by kernel_rfl
  have cb : Try.prog.cellsOf 27 = 1 := by kernel_rfl
  have cl : Try.prog.cellsOf 28 = 1 := by kernel_rfl
  have co : Try.prog.cellsOf 4 = 1 := by kernel_rfl
  have get : ∀ i o t, (fs[i]?.map fun f => (f.offset, f.type)) = some (o, t) → i < 9 → ∃ y, DataW.trod enc Try.prog w base spare held m t ((cs.drop o).take (Try.prog.cellsOf t)) = some y := fun i o t e hi4 => by
    cases ef : fs[i]? with
    | none => rw [ef] at e; cases e
    | some f =>
      rw [ef] at e
      simp only [Option.map_some, Option.some.injEq, Prod.mk.injEq] at e
      have := hi i f ef
      rw [e.1, e.2, List.getElem?_eq_getElem (by omega)] at this
      exact ⟨_, this⟩
  obtain ⟨_, g0⟩ := get 0 0 _ hf0 (by omega)
  obtain ⟨_, g1⟩ := get 1 1 _ hf1 (by omega)
  obtain ⟨_, g2⟩ := get 2 2 _ hf2 (by omega)
  obtain ⟨_, g3⟩ := get 3 3 _ hf3 (by omega)
  obtain ⟨_, g4⟩ := get 4 4 _ hf4 (by omega)
  obtain ⟨_, g5⟩ := get 5 5 _ hf5 (by omega)
  obtain ⟨_, g6⟩ := get 6 6 _ hf6 (by omega)
  obtain ⟨_, g7⟩ := get 7 7 _ hf7 (by omega)
  obtain ⟨_, g8⟩ := get 8 8 _ hf8 (by omega)
  rw [ci] at g0 g1 g2 g4 g6 g7; rw [cb] at g3; rw [cl] at g5; rw [co] at g8
  obtain ⟨x0, e0, _, w0⟩ := DataW.trod_int u3 g0
  obtain ⟨x1, e1, _, w1⟩ := DataW.trod_int u3 g1
  obtain ⟨x2, e2, _, w2⟩ := DataW.trod_int u3 g2
  obtain ⟨x3, l3, e3, w3⟩ := bsS_of_trod g3
  obtain ⟨x4, e4, _, w4⟩ := DataW.trod_int u3 g4
  obtain ⟨x5, l5, e5, w5⟩ := insS_of_trod g5
  obtain ⟨x6, e6, _, w6⟩ := DataW.trod_int u3 g6
  obtain ⟨x7, e7, _, w7⟩ := DataW.trod_int u3 g7
  obtain ⟨x8, e8, _⟩ := DataW.trod_bool (by kernel_rfl) g8
  refine ⟨⟨x0, x1, x2, l3, x4, l5, x6, x7, x8⟩, x3, x5, ?_, ⟨w0, w1, w2, w4, w6, w7⟩, w3, w5⟩
  apply List.ext_getElem?
  intro i
  match i with
  | 0 => exact (one_of e0).symm
  | 1 => exact (one_of e1).symm
  | 2 => exact (one_of e2).symm
  | 3 => exact (one_of e3).symm
  | 4 => exact (one_of e4).symm
  | 5 => exact (one_of e5).symm
  | 6 => exact (one_of e6).symm
  | 7 => exact (one_of e7).symm
  | 8 => exact (one_of e8).symm
  | i + 9 => rw [List.getElem?_eq_none (by simp [Pt.cs]), List.getElem?_eq_none (by omega)]
set_option maxRecDepth 100000 in
theorem ac_of_trod {fuel : Nat} {cs : List Value} {x : DataW H × List MemPlace} (h : DataW.trod enc Try.prog w base spare held fuel 32 cs = some x) : ∃ a : Ac, a.cs = cs ∧ a.ok w := by
  obtain ⟨fs, hfs, hf0, hf1, hf2, hf3⟩ : ∃ fs : Array Field, Try.prog.underlying 32 = some (.struct fs) ∧ (fs[0]?.map fun f => (f.offset, f.type)) = some (0, 3) ∧ (fs[1]?.map fun f => (f.offset, f.type)) = some (1, 3) ∧ (fs[2]?.map fun f => (f.offset, f.type)) = some (2, 30) ∧ (fs[3]?.map fun f => (f.offset, f.type)) = some (11, 4) :=
    ⟨_, Try.underlying32, rfl, rfl, rfl, rfl⟩
  have hsz : fs.size = 4 := by
    have e := Try.underlying32
    rw [hfs] at e; injection e with e; injection e with e; subst e; rfl
  obtain ⟨xs, m, _, _, hl, hx, hi⟩ := DataW.trod_struct hfs h
  have hl' : cs.length = 12 := hl.trans (by kernel_rfl)
  have ci : Try.prog.cellsOf 3 = 1 := by kernel_rfl
  have cb : Try.prog.cellsOf 30 = 9 := by kernel_rfl
  have co : Try.prog.cellsOf 4 = 1 := by kernel_rfl
  have get : ∀ i o t, (fs[i]?.map fun f => (f.offset, f.type)) = some (o, t) → i < 4 → ∃ y, DataW.trod enc Try.prog w base spare held m t ((cs.drop o).take (Try.prog.cellsOf t)) = some y := fun i o t e hi4 => by
    cases ef : fs[i]? with
    | none => rw [ef] at e; cases e
    | some f =>
      rw [ef] at e
      simp only [Option.map_some, Option.some.injEq, Prod.mk.injEq] at e
      have := hi i f ef
      rw [e.1, e.2, List.getElem?_eq_getElem (by omega)] at this
      exact ⟨_, this⟩
  obtain ⟨_, g0⟩ := get 0 0 _ hf0 (by omega)
  obtain ⟨_, g1⟩ := get 1 1 _ hf1 (by omega)
  obtain ⟨_, g2⟩ := get 2 2 _ hf2 (by omega)
  obtain ⟨_, g3⟩ := get 3 11 _ hf3 (by omega)
  rw [ci] at g0 g1; rw [cb] at g2; rw [co] at g3
  obtain ⟨x0, e0, _, w0⟩ := DataW.trod_int u3 g0
  obtain ⟨x1, e1, _, w1⟩ := DataW.trod_int u3 g1
  obtain ⟨p, d, n, e2, w2, w3, w4⟩ := pt_of_trod g2
  obtain ⟨x3, e3, _⟩ := DataW.trod_bool (by kernel_rfl) g3
  refine ⟨⟨x0, x1, p, d, n, x3⟩, ?_, w0, w1, w2, w3, w4⟩
  have mid : ∀ j, j < 9 → cs[j + 2]? = (p.cs d n)[j]? := fun j hj => by
    rw [e2, List.getElem?_take, if_pos hj, List.getElem?_drop, Nat.add_comm]
  apply List.ext_getElem?
  intro i
  match i with
  | 0 => exact (one_of e0).symm
  | 1 => exact (one_of e1).symm
  | 2 => exact (mid 0 (by omega)).symm
  | 3 => exact (mid 1 (by omega)).symm
  | 4 => exact (mid 2 (by omega)).symm
  | 5 => exact (mid 3 (by omega)).symm
  | 6 => exact (mid 4 (by omega)).symm
  | 7 => exact (mid 5 (by omega)).symm
  | 8 => exact (mid 6 (by omega)).symm
  | 9 => exact (mid 7 (by omega)).symm
  | 10 => exact (mid 8 (by omega)).symm
  | 11 => exact (one_of e3).symm
  | i + 12 => rw [List.getElem?_eq_none (by rw [Ac.cs_len]; omega), List.getElem?_eq_none (by omega)]
theorem acs_of_trod {fuel : Nat} {cs : List Value} {x : DataW H × List MemPlace} (h : DataW.trod enc Try.prog w base spare held fuel 22 cs = some x) : ∃ a n c l, cs = [.slice a n c] ∧ Acs w a n c l := by
  rcases Deep.open_slice (e := 32) (by kernel_rfl) h with ⟨hcs, _⟩ | ⟨a, len, cap, m, n, D, Pl, hcs, _, hl, hm, hmm, _, hx⟩
  · exact ⟨_, _, _, [], hcs, rfl, Nat.le_refl _, by decide, fun h => absurd h (by omega)⟩
  · have c12 : Try.prog.cellsOf 32 = 12 := by kernel_rfl
    have hlm : len ≤ m := by rw [hmm]; split <;> omega
    have each : ∀ i, i < len → ∃ y : Ac, (∀ j v, y.cs[j]? = some v → w.cell? (a.add (i * 12 + j)) = some v) ∧ y.ok w := fun i hi => by
      obtain ⟨cs', h1, h2⟩ := hx i (by omega)
      rw [c12] at h1
      obtain ⟨y, e1, e2⟩ := ac_of_trod h2
      obtain ⟨_, hlen, hcell⟩ := World.cells?_some h1
      refine ⟨y, fun j v hv => ?_, e2⟩
      have hj : j < 12 := by have := (List.getElem?_eq_some_iff.1 hv).1; rw [y.cs_len] at this; exact this
      have := hcell j hj
      rw [Deep.add_add, ← e1, hv] at this
      exact this
    refine ⟨_, _, _, (List.range len).map fun i => if hi : i < len then Classical.choose (each i hi) else ⟨0, 0, Pt.zero, Sv.nil, Sv.nil, false⟩, hcs, by simp, hl, hm, fun hn => ?_⟩
    obtain ⟨b, o, spot⟩ := a
    have hspot : spot = none := by
      obtain ⟨y, hy, _⟩ := each 0 hn
      have := hy 0 (.int .i64 y.d) rfl
      simpa [Addr.add] using World.cell?_spot this
    subst hspot
    refine ⟨b, o, rfl, fun i hi => ⟨_, by rw [List.getElem?_map, List.getElem?_range hi]; rfl, ?_⟩⟩
    simp only [dif_pos hi]
    have hs := Classical.choose_spec (each i hi)
    refine ⟨fun j v hv => ?_, hs.2⟩
    have := hs.1 j v hv
    rw [Addr.add_mid] at this
    rw [show o + i * 12 + j = o + (i * 12 + j) by omega]; exact this
end
end Go.Proofs.Ytigchhogclofiaa
