/-
  What patch of the statements of layer 14 returns: no statement is proved here.
-/
import Derived.Test.YtigchhogclofiaaGreatGsA
import Derived.Test.YtigchhogclofiaaGreatBaseA
import Derived.Deep.RegionLaw
import Derived.Lib.Walk
namespace Go.Proofs.YtigchhogclofiaaGreat
open Go.ChangeShapes Go.WideShapes Go.ChangeAt Go.RowKit
set_option linter.unusedVariables false
set_option linter.unusedSimpArgs false

/-- An act that came in. -/
structure Ac where
  d : Int
  n : Int
  p : Pt
  dv : Sv
  nv : Sv
  near : Bool
def Ac.cs (x : Ac) : List Value := .int .i64 x.d :: .int .i64 x.n :: (x.p.cs x.dv x.nv ++ [.bool x.near])
theorem Ac.cs_len (x : Ac) : x.cs.length = 12 := rfl
theorem Ac.cs_one (x : Ac) : ∀ v ∈ x.cs, v.oneCell' = true := by
  intro v hv
  unfold Ac.cs at hv
  simp only [List.mem_cons, List.mem_append, List.not_mem_nil, or_false] at hv
  rcases hv with rfl | rfl | hv | rfl
  · rfl
  · rfl
  · exact x.p.cs_one x.dv x.nv v hv
  · rfl
structure Ac.ok (x : Ac) (w : World) : Prop where
  d : wfi x.d
  n : wfi x.n
  p : x.p.wfp
  b : BsS w x.dv x.p.data
  i : InsS w x.nv x.p.needs
theorem Ac.ok.later {x : Ac} {w w' : World} (h : x.ok w) (hb : Below w.heap.size w w') : x.ok w' := ⟨h.d, h.n, h.p, h.b.later hb, h.i.later hb⟩
/-- A slice of acts. -/
structure Acs (w : World) (a : Option Addr) (n c : Nat) (l : List Ac) : Prop where
  len : l.length = n
  le : n ≤ c
  cap : c ≤ maxLen
  cell : 0 < n → ∃ b o, a = some ⟨b, o, none⟩ ∧ ∀ i, i < n → ∃ x : Ac, l[i]? = some x ∧ w.rangeAt b (o + i * 12) x.cs ∧ x.ok w
theorem Acs.later {w w' : World} {a : Option Addr} {n c : Nat} {l : List Ac} (h : Acs w a n c l) (hb : Below w.heap.size w w') : Acs w' a n c l :=
  ⟨h.len, h.le, h.cap, fun hn => by
    obtain ⟨b, o, e, hc⟩ := h.cell hn
    refine ⟨b, o, e, fun i hi => ?_⟩
    obtain ⟨x, e1, e2, e3⟩ := hc i hi
    exact ⟨x, e1, (Stp.of_below hb (fun _ => False)).range e2 id, e3.later hb⟩⟩
section
variable {H : Type} {enc : TypeId × Value → H} {w : World} {base : Nat} {spare : Nat → Bool} {held : Bool}
theorem insS_of_trod {fuel : Nat} {cs : List Value} {x : DataW H × List MemPlace} (h : DataW.trod enc Tryz.prog w base spare held fuel 28 cs = some x) : ∃ (s : Sv) (l : List Int), cs = [.slice s.a s.n s.c] ∧ InsS w s l := by
  rcases open_ints (k := .i64) (e := 3) (by kernel_rfl) u3 (by kernel_rfl) h with ⟨hcs, _⟩ | ⟨a, l, c, zs, hcs, _, hl, hm, hz, _, hcell, hwz⟩
  · exact ⟨Sv.nil, [], hcs, InsS.nil w⟩
  · exact ⟨⟨some a, l, c⟩, _, hcs, ins_open hl hm (by rw [hz]; show l ≤ _; split <;> omega) hcell hwz, fun e => by cases e⟩
theorem bs_open2 {w : World} {x : Addr} {n c : Nat} {zs : List Int} (hl : n ≤ c) (hm : c ≤ maxLen) (hz : n ≤ zs.length) (hcell : ∀ i, i < zs.length → w.cell? (x.add i) = some (.int .u8 (zs.getD i 0))) (hwz : ∀ k ∈ zs, (Lit.int .u8 k).wf = true) :
    Bs w (some x) n c (zs.take n) := by
  refine ⟨by simp; omega, hl, hm, (fun h => by cases h), fun k hk => ?_, fun hn => ?_⟩
  · have := bounds_u8 (hwz k (List.mem_of_mem_take hk)); omega
  · obtain ⟨b, o, spot⟩ := x
    have h0 := hcell 0 (by omega)
    have hspot : spot = none := by simpa [Addr.add] using World.cell?_spot h0
    subst hspot
    refine ⟨b, o, rfl, fun i hi => ?_⟩
    have := hcell i (by omega)
    rw [Addr.add_lit] at this
    rw [this, List.getD_eq_getElem?_getD, List.getD_eq_getElem?_getD, List.getElem?_take, if_pos hi]
theorem bsS_of_trod {fuel : Nat} {cs : List Value} {x : DataW H × List MemPlace} (h : DataW.trod enc Tryz.prog w base spare held fuel 27 cs = some x) : ∃ (s : Sv) (l : List Int), cs = [.slice s.a s.n s.c] ∧ BsS w s l := by
  rcases open_ints (k := .u8) (e := 5) (by kernel_rfl) (by kernel_rfl) (by kernel_rfl) h with ⟨hcs, _⟩ | ⟨x, l, c, zs, hcs, _, hl, hm, hz, _, hcell, hwz⟩
  · exact ⟨Sv.nil, [], hcs, bsS_nil w⟩
  · exact ⟨⟨some x, l, c⟩, _, hcs, bs_open2 hl hm (by rw [hz]; show l ≤ _; split <;> omega) hcell hwz⟩
theorem one_of {cs : List Value} {i : Nat} {v : Value} (h : (cs.drop i).take 1 = [v]) : cs[i]? = some v := by
  have : ((cs.drop i).take 1)[0]? = some v := by rw [h]; rfl
  rw [List.getElem?_take, if_pos (by omega), List.getElem?_drop] at this
  simpa using this
set_option maxRecDepth 100000 in
theorem pt_of_trod {fuel : Nat} {cs : List Value} {x : DataW H × List MemPlace} (h : DataW.trod enc Tryz.prog w base spare held fuel 30 cs = some x) : ∃ (p : Pt) (d n : Sv), p.cs d n = cs ∧ p.wfp ∧ BsS w d p.data ∧ InsS w n p.needs := by
  obtain ⟨fs, hfs, hf0, hf1, hf2, hf3, hf4, hf5, hf6, hf7, hf8⟩ : ∃ fs : Array Field, Tryz.prog.underlying 30 = some (.struct fs) ∧ (fs[0]?.map fun f => (f.offset, f.type)) = some (0, 3) ∧ (fs[1]?.map fun f => (f.offset, f.type)) = some (1, 3) ∧ (fs[2]?.map fun f => (f.offset, f.type)) = some (2, 3) ∧ (fs[3]?.map fun f => (f.offset, f.type)) = some (3, 27) ∧ (fs[4]?.map fun f => (f.offset, f.type)) = some (4, 3) ∧ (fs[5]?.map fun f => (f.offset, f.type)) = some (5, 28) ∧ (fs[6]?.map fun f => (f.offset, f.type)) = some (6, 3) ∧ (fs[7]?.map fun f => (f.offset, f.type)) = some (7, 3) ∧ (fs[8]?.map fun f => (f.offset, f.type)) = some (8, 4) :=
    ⟨_, Tryz.underlying30, rfl, rfl, rfl, rfl, rfl, rfl, rfl, rfl, rfl⟩
  have hsz : fs.size = 9 := by
    have e := Tryz.underlying30
    rw [hfs] at e; injection e with e; injection e with e; subst e; rfl
  obtain ⟨xs, m, _, _, hl, hx, hi⟩ := DataW.trod_struct hfs h
  have hl' : cs.length = 9 := hl.trans (by kernel_rfl)
  have ci : Tryz.prog.cellsOf 3 = 1 := by kernel_rfl
  have cb : Tryz.prog.cellsOf 27 = 1 := by kernel_rfl
  have cl : Tryz.prog.cellsOf 28 = 1 := by kernel_rfl
  have co : Tryz.prog.cellsOf 4 = 1 := by kernel_rfl
  have get : ∀ i o t, (fs[i]?.map fun f => (f.offset, f.type)) = some (o, t) → i < 9 → ∃ y, DataW.trod enc Tryz.prog w base spare held m t ((cs.drop o).take (Tryz.prog.cellsOf t)) = some y := fun i o t e hi4 => by
    cases ef : fs[i]? with
    | none => rw [ef] at e; cases e
    | some f =>
      rw [ef] at e
      simp only [Option.map_some, Option.some.injEq, Prod.mk.injEq] at e
      have := hi i f ef
      rw [e.1, e.2, List.getElem?_eq_getElem (by omega)] at this
      exact ⟨_, this⟩
  obtain ⟨_, g0⟩ := get 0 0 _ hf0 (by omega)
  obtain ⟨_, g1⟩ := get 1 1 _ hf1 (by omega)
  obtain ⟨_, g2⟩ := get 2 2 _ hf2 (by omega)
  obtain ⟨_, g3⟩ := get 3 3 _ hf3 (by omega)
  obtain ⟨_, g4⟩ := get 4 4 _ hf4 (by omega)
  obtain ⟨_, g5⟩ := get 5 5 _ hf5 (by omega)
  obtain ⟨_, g6⟩ := get 6 6 _ hf6 (by omega)
  obtain ⟨_, g7⟩ := get 7 7 _ hf7 (by omega)
  obtain ⟨_, g8⟩ := get 8 8 _ hf8 (by omega)
  rw [ci] at g0 g1 g2 g4 g6 g7; rw [cb] at g3; rw [cl] at g5; rw [co] at g8
  obtain ⟨x0, e0, _, w0⟩ := DataW.trod_int u3 g0
  obtain ⟨x1, e1, _, w1⟩ := DataW.trod_int u3 g1
  obtain ⟨x2, e2, _, w2⟩ := DataW.trod_int u3 g2
  obtain ⟨x3, l3, e3, w3⟩ := bsS_of_trod g3
  obtain ⟨x4, e4, _, w4⟩ := DataW.trod_int u3 g4
  obtain ⟨x5, l5, e5, w5⟩ := insS_of_trod g5
  obtain ⟨x6, e6, _, w6⟩ := DataW.trod_int u3 g6
  obtain ⟨x7, e7, _, w7⟩ := DataW.trod_int u3 g7
  obtain ⟨x8, e8, _⟩ := DataW.trod_bool (by kernel_rfl) g8
  refine ⟨⟨x0, x1, x2, l3, x4, l5, x6, x7, x8⟩, x3, x5, ?_, ⟨w0, w1, w2, w4, w6, w7⟩, w3, w5⟩
  apply List.ext_getElem?
  intro i
  match i with
  | 0 => exact (one_of e0).symm
  | 1 => exact (one_of e1).symm
  | 2 => exact (one_of e2).symm
  | 3 => exact (one_of e3).symm
  | 4 => exact (one_of e4).symm
  | 5 => exact (one_of e5).symm
  | 6 => exact (one_of e6).symm
  | 7 => exact (one_of e7).symm
  | 8 => exact (one_of e8).symm
  | i + 9 => rw [List.getElem?_eq_none (by simp [Pt.cs]), List.getElem?_eq_none (by omega)]
set_option maxRecDepth 100000 in
theorem ac_of_trod {fuel : Nat} {cs : List Value} {x : DataW H × List MemPlace} (h : DataW.trod enc Tryz.prog w base spare held fuel 32 cs = some x) : ∃ a : Ac, a.cs = cs ∧ a.ok w := by
  obtain ⟨fs, hfs, hf0, hf1, hf2, hf3⟩ : ∃ fs : Array Field, Tryz.prog.underlying 32 = some (.struct fs) ∧ (fs[0]?.map fun f => (f.offset, f.type)) = some (0, 3) ∧ (fs[1]?.map fun f => (f.offset, f.type)) = some (1, 3) ∧ (fs[2]?.map fun f => (f.offset, f.type)) = some (2, 30) ∧ (fs[3]?.map fun f => (f.offset, f.type)) = some (11, 4) :=
    ⟨_, Tryz.underlying32, rfl, rfl, rfl, rfl⟩
  have hsz : fs.size = 4 := by
    have e := Tryz.underlying32
    rw [hfs] at e; injection e with e; injection e with e; subst e; rfl
  obtain ⟨xs, m, _, _, hl, hx, hi⟩ := DataW.trod_struct hfs h
  have hl' : cs.length = 12 := hl.trans (by kernel_rfl)
  have ci : Tryz.prog.cellsOf 3 = 1 := by kernel_rfl
  have cb : Tryz.prog.cellsOf 30 = 9 := by kernel_rfl
  have co : Tryz.prog.cellsOf 4 = 1 := by kernel_rfl
  have get : ∀ i o t, (fs[i]?.map fun f => (f.offset, f.type)) = some (o, t) → i < 4 → ∃ y, DataW.trod enc Tryz.prog w base spare held m t ((cs.drop o).take (Tryz.prog.cellsOf t)) = some y := fun i o t e hi4 => by
    cases ef : fs[i]? with
    | none => rw [ef] at e; cases e
    | some f =>
      rw [ef] at e
      simp only [Option.map_some, Option.some.injEq, Prod.mk.injEq] at e
      have := hi i f ef
      rw [e.1, e.2, List.getElem?_eq_getElem (by omega)] at this
      exact ⟨_, this⟩
  obtain ⟨_, g0⟩ := get 0 0 _ hf0 (by omega)
  obtain ⟨_, g1⟩ := get 1 1 _ hf1 (by omega)
  obtain ⟨_, g2⟩ := get 2 2 _ hf2 (by omega)
  obtain ⟨_, g3⟩ := get 3 11 _ hf3 (by omega)
  rw [ci] at g0 g1; rw [cb] at g2; rw [co] at g3
  obtain ⟨x0, e0, _, w0⟩ := DataW.trod_int u3 g0
  obtain ⟨x1, e1, _, w1⟩ := DataW.trod_int u3 g1
  obtain ⟨p, d, n, e2, w2, w3, w4⟩ := pt_of_trod g2
  obtain ⟨x3, e3, _⟩ := DataW.trod_bool (by kernel_rfl) g3
  refine ⟨⟨x0, x1, p, d, n, x3⟩, ?_, w0, w1, w2, w3, w4⟩
  have mid : ∀ j, j < 9 → cs[j + 2]? = (p.cs d n)[j]? := fun j hj => by
    rw [e2, List.getElem?_take, if_pos hj, List.getElem?_drop, Nat.add_comm]
  apply List.ext_getElem?
  intro i
  match i with
  | 0 => exact (one_of e0).symm
  | 1 => exact (one_of e1).symm
  | 2 => exact (mid 0 (by omega)).symm
  | 3 => exact (mid 1 (by omega)).symm
  | 4 => exact (mid 2 (by omega)).symm
  | 5 => exact (mid 3 (by omega)).symm
  | 6 => exact (mid 4 (by omega)).symm
  | 7 => exact (mid 5 (by omega)).symm
  | 8 => exact (mid 6 (by omega)).symm
  | 9 => exact (mid 7 (by omega)).symm
  | 10 => exact (mid 8 (by omega)).symm
  | 11 => exact (one_of e3).symm
  | i + 12 => rw [List.getElem?_eq_none (by rw [Ac.cs_len]; omega), List.getElem?_eq_none (by omega)]
theorem acs_of_trod {fuel : Nat} {cs : List Value} {x : DataW H × List MemPlace} (h : DataW.trod enc Tryz.prog w base spare held fuel 22 cs = some x) : ∃ a n c l, cs = [.slice a n c] ∧ Acs w a n c l := by
  rcases Deep.open_slice (e := 32) (by kernel_rfl) h with ⟨hcs, _⟩ | ⟨a, len, cap, m, n, D, Pl, hcs, _, hl, hm, hmm, _, hx⟩
  · exact ⟨_, _, _, [], hcs, rfl, Nat.le_refl _, by decide, fun h => absurd h (by omega)⟩
  · have c12 : Tryz.prog.cellsOf 32 = 12 := by kernel_rfl
    have hlm : len ≤ m := by rw [hmm]; split <;> omega
    have each : ∀ i, i < len → ∃ y : Ac, (∀ j v, y.cs[j]? = some v → w.cell? (a.add (i * 12 + j)) = some v) ∧ y.ok w := fun i hi => by
      obtain ⟨cs', h1, h2⟩ := hx i (by omega)
      rw [c12] at h1
      obtain ⟨y, e1, e2⟩ := ac_of_trod h2
      obtain ⟨_, hlen, hcell⟩ := World.cells?_some h1
      refine ⟨y, fun j v hv => ?_, e2⟩
      have hj : j < 12 := by have := (List.getElem?_eq_some_iff.1 hv).1; rw [y.cs_len] at this; exact this
      have := hcell j hj
      rw [Deep.add_add, ← e1, hv] at this
      exact this
    refine ⟨_, _, _, (List.range len).map fun i => if hi : i < len then Classical.choose (each i hi) else ⟨0, 0, Pt.zero, Sv.nil, Sv.nil, false⟩, hcs, by simp, hl, hm, fun hn => ?_⟩
    obtain ⟨b, o, spot⟩ := a
    have hspot : spot = none := by
      obtain ⟨y, hy, _⟩ := each 0 hn
      have := hy 0 (.int .i64 y.d) rfl
      simpa [Addr.add] using World.cell?_spot this
    subst hspot
    refine ⟨b, o, rfl, fun i hi => ⟨_, by rw [List.getElem?_map, List.getElem?_range hi]; rfl, ?_⟩⟩
    simp only [dif_pos hi]
    have hs := Classical.choose_spec (each i hi)
    refine ⟨fun j v hv => ?_, hs.2⟩
    have := hs.1 j v hv
    rw [Addr.add_mid] at this
    rw [show o + i * 12 + j = o + (i * 12 + j) by omega]; exact this
end
end Go.Proofs.YtigchhogclofiaaGreat
namespace Go.Proofs.YtigchhogclofiaaGreat
open Go.ChangeShapes Go.WideShapes Go.ChangeAt Go.RowKit
set_option linter.unusedVariables false
set_option linter.unusedSimpArgs false

/-- A patch with not too many bytes and needs. -/
def fewP (p : Pt) : Pt := { p with data := p.data.take 70, needs := p.needs.take 6 }
theorem take_cut (l : List Int) (k : Nat) : l.take (min l.length k) = l.take k := by
  by_cases h : l.length ≤ k
  · rw [Nat.min_eq_left h, List.take_length, List.take_of_length_le h]
  · rw [Nat.min_eq_right (by omega)]
theorem BsS.cut {w : World} {s : Sv} {l : List Int} (h : BsS w s l) (k : Nat) : BsS w ⟨s.a, min s.n k, s.c⟩ (l.take k) := by
  have := Bs.take h (min s.n k) (Nat.min_le_left _ _)
  have e := h.len
  rw [← e, take_cut] at this
  rw [← e]; exact this
theorem InsS.cut {w : World} {s : Sv} {l : List Int} (h : InsS w s l) (k : Nat) : InsS w ⟨s.a, min s.n k, s.c⟩ (l.take k) := by
  have hl := h.i.len
  refine ⟨⟨by simp only [List.length_take]; omega, Nat.le_trans (Nat.min_le_left _ _) h.i.le, h.i.cap, fun x hx => h.i.wf x (List.mem_of_mem_take hx), fun hn => ?_⟩, h.nl⟩
  simp only at hn
  obtain ⟨b, o, e, hc⟩ := h.i.cell (by omega)
  refine ⟨b, o, e, fun i hi => ?_⟩
  simp only at hi
  rw [hc i (by omega), List.getD_eq_getElem?_getD, List.getD_eq_getElem?_getD, List.getElem?_take, if_pos (by omega)]
set_option maxRecDepth 100000 in
set_option maxHeartbeats 2000000 in
theorem ints_own {w : World} {s : Sv} {l : List Int} (h : InsS w s l) (hl : l.length ≤ 100000) :
    Calls Tryz.prog 26 #[.slice s.a s.n s.c] w fun e w' => ∃ s' : Sv, e = .returned (.slice s'.a s'.n s'.c) ∧ InsS w' s' l ∧ InE (fun x => w.heap.size ≤ x ∧ x < w'.heap.size) s' ∧ Below w.heap.size w w' ∧ OwV w' (.slice s'.a s'.n s'.c) l ∧ New w.heap.size (.slice s'.a s'.n s'.c) := by
  have hlen : l.length = s.n := h.i.len
  have hcs := h.cells
  have qnB : ∀ (w : World) (a : Option Addr) (n c n' c' : Nat), (binOp .eql 27 (.slice a n c) (.slice none n' c')).run Tryz.prog w = .ok (.bool a.isNone) w := fun w a n c n' c' => Lib.run_eql_slice_nil w _ _ a n c n' c' elB.und
  have qnI : ∀ (w : World) (a : Option Addr) (n c n' c' : Nat), (binOp .eql 28 (.slice a n c) (.slice none n' c')).run Tryz.prog w = .ok (.bool a.isNone) w := fun w a n c n' c' => Lib.run_eql_slice_nil w _ _ a n c n' c' elI.und
  have hz := h.zero
  have hby := h.i.wf
  obtain ⟨sa, sn, sc⟩ := s
  simp only at hlen hcs hz ⊢
  subst hlen
  have fin : ∀ v' w', Apd (w.alloc (.cells #[] 3)) w.heap.size 3 1 (.slice (some ⟨w.heap.size, 0, none⟩) 0 0) 0 l.length ([] ++ l.map (Value.int .i64)) v' w' →
      ∃ s' : Sv, Ending.returned v' = .returned (.slice s'.a s'.n s'.c) ∧ InsS w' s' l ∧ InE (fun x => w.heap.size ≤ x ∧ x < w'.heap.size) s' ∧ Below w.heap.size w w' ∧ OwV w' (.slice s'.a s'.n s'.c) l ∧ New w.heap.size (.slice s'.a s'.n s'.c) := by
    intro v' w' hA
    obtain ⟨h1, h2, h3, h4, h5⟩ := hA
    rw [Nat.zero_add, List.nil_append] at h1
    obtain ⟨s', rfl, e2, e3, e4⟩ := ro_ins h1 hby h2
    refine ⟨s', rfl, e3, e4, ?_, h1, h2⟩
    have k0 : Stp (fun _ => False) w (w.alloc (.cells #[] 3)) := Stp.of_alloc _ _ _
    exact (k0.next h4 (F' := fun x => some w.heap.size = some x) (fun x e => .inr (by injection e with e; omega))).below (Nat.le_refl _) (fun x e => e.elim)
  have q0 : (w.alloc (.cells #[] 3)).ownsRow 0 3 1 (.slice (some ⟨w.heap.size, 0, none⟩) 0 0) 0 [] := World.ownsRow_made w #[] 0 (Nat.zero_le _) (Nat.zero_le _) rfl
  have hN : New w.heap.size (.slice (some ⟨w.heap.size, 0, none⟩) 0 0) := fun r e => by
    have : w.heap.size = r := by simpa [Value.ownBlock] using e
    omega
  have hcs' : ∀ ad, sa = some ad → ∀ j u, (l.map (Value.int .i64))[j]? = some u → (w.alloc (.cells #[] 3)).cell? (ad.add j) = some u := fun ad e j u hu => by
    have := hcs ad e j u hu
    rw [((Below.refl _ w).alloc (Nat.le_refl _) (.cells #[] 3)).cell (World.block_lt_of_cell? w _ this)]; exact this
  cases sa with
  | none =>
    obtain ⟨z1, z2, rfl⟩ := hz rfl
    subst z2
    simp only [List.length_nil] at fin hcs' ⊢
    go_enter Tryz.func26, Tryz.ntmps26
    go_wp2_with (first
      | (refine at_appR elI w.heap.size rfl _ _ (by rfl) (by rfl) q0 hN none 0 [] (by rfl) (by simp) (fun e => ⟨rfl, rfl⟩) (fun ad e => by cases e) (fun u hu => by cases hu) (by omega) (by simp) ?_; intro v' w' hA; obtain ⟨s', e1, e2⟩ := fin v' w' hA; injection e1 with e1; subst e1))
    go_returns
    exact ⟨s', rfl, e2⟩
  | some ad =>
    go_enter Tryz.func26, Tryz.ntmps26
    go_wp2_with (first
      | (refine at_appR elI w.heap.size rfl _ _ (by rfl) (by rfl) q0 hN (some ad) sc (l.map (Value.int .i64)) (by rfl) (by simp) (fun e => by cases e) hcs' (fun u hu => by obtain ⟨x, _, rfl⟩ := List.mem_map.1 hu; rfl) (by omega) (by simp) ?_; intro v' w' hA; obtain ⟨s', e1, e2⟩ := fin v' w' hA; injection e1 with e1; subst e1))
    go_returns
    exact ⟨s', rfl, e2⟩
set_option maxRecDepth 100000 in
set_option maxHeartbeats 4000000 in
theorem few_any {w : World} (p : Pt) (d n : Sv) (hb : BsS w d p.data) (hi : InsS w n p.needs) :
    Calls Tryz.prog 50 #[.agg (p.cs d n).toArray] w fun e w' => ∃ d' n' : Sv, e = .returned (.agg ((fewP p).cs d' n').toArray) ∧ PtM w' (Made w w') (fewP p) d' n' ∧ Below w.heap.size w w' ∧ OwV w' (.slice n'.a n'.n n'.c) (fewP p).needs ∧ New w.heap.size (.slice n'.a n'.n n'.c) ∧ (∀ r, (Value.slice n'.a n'.n n'.c).ownBlock = some r → InE (fun y => y ≠ r) d') := by
  have t1 : True := trivial
  have t2 : True := trivial
  have t3 : True := trivial
  have t4 : True := trivial
  have ld : d.n ≤ maxLen := Nat.le_trans hb.le hb.cap
  have ln : n.n ≤ maxLen := Nat.le_trans hi.i.le hi.i.cap
  have le1 := hb.le
  have le2 := hi.i.le
  have em1 : (min (d.n : Int) 70) = ((min d.n 70 : Nat) : Int) := by omega
  have em2 : (min (n.n : Int) 6) = ((min n.n 6 : Nat) : Int) := by omega
  go_enter Tryz.func50, Tryz.ntmps50
  go_wp2_with (first
    | (clear t1; refine at_boxP (by rfl) _ (by rfl) p d n (by rfl) ?_; intro g1 w1 a1 a2 r1 b1)
    | (clear t2; refine at_newP (by rfl) (by rfl) ?_; intro g2 w2 a3 a4 r2 b2
       have r12 := r1.later b2
       have c3 := (Pt.cells r12).2.2.2.1
       have B2 := bnext b1 b2 (Nat.le_refl _))
    | (go_at_call 72; refine (bytes_any ((hb.later B2).cut 70) (by simp; omega)).mono ?_; rintro e w3 ⟨d', rfl, q1, q2, q3⟩
       clear c3
       have r13 := r12.later q3
       have c3 := (Pt.cells r13).2.2.2.1
       have c5 := (Pt.cells r13).2.2.2.2.2.1
       have f3 := r13.frozen 3
       have r4 : Cs (w3.setCell ⟨g1, 3, none⟩ (.slice d'.a d'.n d'.c)) g1 (({ p with data := p.data.take 70 } : Pt).cs d' n) := r13.set 3 (.slice d'.a d'.n d'.c) rfl
       have s4 : Stp (fun x => x = g1) w3 (w3.setCell ⟨g1, 3, none⟩ (.slice d'.a d'.n d'.c)) := (Stp.refl (fun x => x = g1) w3).setCell (p := ⟨g1, 3, none⟩) (.inl rfl) _
       have B4 : Below w.heap.size w (w3.setCell ⟨g1, 3, none⟩ (.slice d'.a d'.n d'.c)) := ((Stp.of_below (bnext B2 q3 (Nat.le_refl _)) (fun _ => False)).next s4 (fun x e => .inr (by omega))).below (Nat.le_refl _) (fun x e => e.elim)
       have r24 := (r2.later q3).step s4 (by omega)
       have q14 := q1.step s4 q2 (fun x hx e => by have := hx.1; omega))
    | (go_at_call 26; refine (ints_own ((hi.later B4).cut 6) (by simp; omega)).mono ?_; rintro e w5 ⟨n', rfl, q5, q6, q7, q8, q9⟩
       clear c3 c5 f3
       have r15 := r4.later q7
       have c5 := (Pt.cells r15).2.2.2.2.2.1
       have f5 := r15.frozen 5
       have r6 : Cs (w5.setCell ⟨g1, 5, none⟩ (.slice n'.a n'.n n'.c)) g1 ((fewP p).cs d' n') := r15.set 5 (.slice n'.a n'.n n'.c) rfl
       have s6 : Stp (fun x => x = g1) w5 (w5.setCell ⟨g1, 5, none⟩ (.slice n'.a n'.n n'.c)) := (Stp.refl (fun x => x = g1) w5).setCell (p := ⟨g1, 5, none⟩) (.inl rfl) _
       have B6 : Below w.heap.size w (w5.setCell ⟨g1, 5, none⟩ (.slice n'.a n'.n n'.c)) := ((Stp.of_below (bnext B4 q7 (Nat.le_refl _)) (fun _ => False)).next s6 (fun x e => .inr (by omega))).below (Nat.le_refl _) (fun x e => e.elim)
       have e4 : (w3.setCell ⟨g1, 3, none⟩ (.slice d'.a d'.n d'.c)).heap.size = w3.heap.size := by simp
       have z3 := q3.size
       have r26 := (r24.later q7).step s6 (by omega)
       have q16 := (q14.later q7).step s6 q2 (fun x hx e => by have := hx.1; omega)
       have q56 := q5.step s6 q6 (fun x hx e => by have := hx.1; omega)
       have q86 := q8.step s6 (fun r hr e => by have := q9 r hr; omega))
    | (clear t3; refine at_getP0 (by rfl) _ (by rfl) g1 (by rfl) (fewP p) d' n' r6 ?_)
    | (clear t4; refine at_putP (by rfl) _ _ (by rfl) g2 (by rfl) (fewP p) d' n' (by rfl) _ r26 rfl ?_; intro w7 r7 s7))
  have z7 := s7.size
  have z6 : (w5.setCell ⟨g1, 5, none⟩ (.slice n'.a n'.n n'.c)).heap.size = w5.heap.size := by simp
  have zq := q7.size
  have zB := B2.size
  refine bodyPost_ret (retC srtP rfl rfl r7 rfl) rfl ⟨d', n', rfl, ⟨q16.step s7 q2 (fun x hx e => by have := hx.1; omega), q56.step s7 q6 (fun x hx e => by have := hx.1; omega), q2.mono (fun x hx => ⟨by omega, by omega⟩), q6.mono (fun x hx => ⟨by omega, by omega⟩)⟩, ?_, q86.step s7 (fun r hr e => by have := q9 r hr; omega), fun r hr => by have := q9 r hr; omega, fun r hr => q2.mono (fun y hy e => by have := q9 r hr; have := hy.2; omega)⟩
  exact ((Stp.of_below B6 (fun _ => False)).next s7 (fun x e => .inr (by have := b1.size; omega))).below (Nat.le_refl _) (fun x e => e.elim)
end Go.Proofs.YtigchhogclofiaaGreat
namespace Go.Proofs.YtigchhogclofiaaGreat
open Go.ChangeShapes Go.WideShapes Go.ChangeAt Go.RowKit
set_option linter.unusedVariables false
set_option linter.unusedSimpArgs false

/-- A need near the last number. -/
def nr (last : Nat) (x : Int) : Int := (last : Int) - (among x last : Nat)
/-- The first k needs are near. -/
def nrL (last : Nat) (l : List Int) (k : Nat) : List Int := (l.take k).map (nr last) ++ l.drop k
/-- The patch of an act. -/
def ptc (x : Ac) (last : Nat) : Pt := if x.near && decide (0 < last) then { fewP x.p with needs := (fewP x.p).needs.map (nr last) } else fewP x.p
theorem nrL_len (last : Nat) (l : List Int) (k : Nat) : (nrL last l k).length = l.length := by unfold nrL; simp; omega
theorem nrL_zero (last : Nat) (l : List Int) : nrL last l 0 = l := by unfold nrL; simp
theorem nrL_all (last : Nat) (l : List Int) : nrL last l l.length = l.map (nr last) := by unfold nrL; simp
theorem nrL_get {last : Nat} {l : List Int} {k : Nat} (h : k < l.length) : (nrL last l k).getD k 0 = l.getD k 0 := by
  unfold nrL
  rw [List.getD_eq_getElem?_getD, List.getElem?_append_right (by simp; omega), List.getElem?_drop, List.getD_eq_getElem?_getD]
  congr 2
  simp; omega
theorem nrL_set {last : Nat} {l : List Int} {k : Nat} (h : k < l.length) : (nrL last l k).set k (nr last (l.getD k 0)) = nrL last l (k + 1) := by
  unfold nrL
  rw [List.set_append_right _ _ (by simp; omega), List.take_add_one, List.getElem?_eq_getElem h, List.getD_eq_getElem?_getD, List.getElem?_eq_getElem h, List.drop_eq_getElem_cons h]
  have : k - ((l.take k).map (nr last)).length = 0 := by simp; omega
  rw [this]
  simp only [List.set_cons_zero, List.map_append, List.append_assoc, Option.toList_some, List.map_cons, List.map_nil, List.cons_append, List.nil_append, Option.getD_some]
theorem nr_wf {last : Nat} (h : 0 < last) (hl : last ≤ 100000) (x : Int) : wfi (nr last x) := by
  have := among_lt x last h
  unfold nr; exact wfi_of (by omega)
theorem nrL_wf {last : Nat} {l : List Int} {k : Nat} (h : 0 < last) (hl : last ≤ 100000) (hw : ∀ x ∈ l, wfi x) : ∀ x ∈ nrL last l k, wfi x := by
  intro x hx
  unfold nrL at hx
  rcases List.mem_append.1 hx with hx | hx
  · obtain ⟨y, _, rfl⟩ := List.mem_map.1 hx; exact nr_wf h hl y
  · exact hw x (List.mem_of_mem_drop hx)
/-- One number of a row of one's own, anew. -/
theorem OwV.set {w : World} {g n c : Nat} {l : List Int} (h : OwV w (.slice (some ⟨g, 0, none⟩) n c) l) (i : Nat) (hi : i < l.length) (y : Int) :
    w.cell? ⟨g, i, none⟩ = some (.int .i64 (l.getD i 0)) ∧ w.frozen? ⟨g, i, none⟩ = false ∧ OwV (w.setCell ⟨g, i, none⟩ (.int .i64 y)) (.slice (some ⟨g, 0, none⟩) n c) (l.set i y) := by
  rcases h.row with ⟨e, _⟩ | ⟨g', cap, cur, e, hw⟩
  · cases e
  · injection e with e1 e2 e3
    injection e1 with e1; injection e1 with e1
    subst e1; subst e2; subst e3
    refine ⟨hw.cell i hi, hw.frozen i, ?_⟩
    have hsz : i < cur.size := by have := hw.le; rw [hw.size]; omega
    have e4 : (w.setCell ⟨g, i, none⟩ (.int .i64 y)).heap[g]? = some (.cells (cur.setIfInBounds i (.int .i64 y)) 3 (0, 0)) := by
      rw [setCell_eq_setRow w g i _ _ (0, 0) _ hw.at', setRow_heap w g _ _ _ _ hw.at']
    have hl : (l.set i y).length = l.length := List.length_set
    rw [← hl]
    refine Rw1.own (cur := cur.setIfInBounds i (.int .i64 y)) ⟨e4, by rw [hl]; exact hw.le, hw.cm, by simp [hw.size], ?_⟩
    rw [hl, Array.toList_setIfInBounds, List.take_set, hw.take, List.map_set]
set_option maxRecDepth 100000 in
set_option maxHeartbeats 4000000 in
theorem patch_any {w : World} (x : Ac) (hx : x.ok w) (last : Nat) (hl : last ≤ 100000) :
    Calls Tryz.prog 20 #[.agg x.cs.toArray, .int .i64 (last : Int)] w fun e w' => ∃ d' n' : Sv, e = .returned (.agg ((ptc x last).cs d' n').toArray) ∧ PtM w' (Made w w') (ptc x last) d' n' ∧ Below w.heap.size w w' := by
  have t1 : True := trivial
  have t2 : True := trivial
  have t3 : True := trivial
  have t4 : True := trivial
  have t5 : True := trivial
  have hprow : ∃ d, Tryz.prog.underlying 30 = some d ∧ d.isRow = true := ⟨_, Tryz.underlying30, rfl⟩
  have hpsz : (Tryz.prog.info? 30).map (·.size) = some 9 := by kernel_rfl
  go_enter Tryz.func20, Tryz.ntmps20
  go_wp2_with (first
    | (clear t1; refine at_boxC 32 (by rfl) _ (by rfl) x.cs (by rfl) x.cs_one ?_; intro g1 w1 a1 a2 r1 b1)
    | (clear t2; refine at_newP (by rfl) (by rfl) ?_; intro g2 w2 a3 a4 r2 b2; have r12 := r1.later b2; have B2 := bnext b1 b2 (Nat.le_refl _))
    | (clear t3; refine at_getP 30 9 hprow hpsz (by rfl) _ (by rfl) g1 2 (by rfl) x.cs r12 (x.p.cs x.dv x.nv) (by rfl) rfl ?_)
    | (go_at_call 50; refine (few_any x.p x.dv x.nv (hx.b.later B2) (hx.i.later B2)).mono ?_; rintro e w3 ⟨d', n', rfl, m3, b3, o3, n3, ap3⟩; have r13 := r12.later b3; have r23 := r2.later b3)
    | (clear t4; refine at_newP (by rfl) (by rfl) ?_; intro g4 w4 a5 a6 r4 b4)
    | (clear t5; refine at_putP (by rfl) _ _ (by rfl) g4 (by rfl) (fewP x.p) d' n' (by rfl) _ r4 rfl ?_; intro w5 r5 s5))
  have r15 := (r13.later b4).step s5 (by have := r13.lt; omega)
  have r25 := (r23.later b4).step s5 (by have := r23.lt; omega)
  have m5 := (m3.later b4).step s5 (fun y hy e => by have := hy.2; omega)
  have o5 := (o3.later b4).step s5 (fun r hr e => by have := o3.lt hr; omega)
  have B5 : Below w.heap.size w w5 := ((Stp.of_below (bnext (bnext B2 b3 (Nat.le_refl _)) b4 (Nat.le_refl _)) (fun _ => False)).next s5 (fun y e => .inr (by have := B2.size; have := b3.size; omega))).below (Nat.le_refl _) (fun y e => e.elim)
  have cn : w5.cell? ⟨g1, 11, none⟩ = some (.bool x.near) := r15.cell 11 _ rfl
  have c5 := (Pt.cells r5).2.2.2.2.2.1
  have hnl : (fewP x.p).needs.length = n'.n := m5.is.i.len
  have h6 : (fewP x.p).needs.length ≤ 6 := by unfold fewP; simp; omega
  have hob : ∀ r, (Value.slice n'.a n'.n n'.c).ownBlock = some r → w2.heap.size ≤ r ∧ r < w3.heap.size := fun r hr => ⟨n3 r hr, o3.lt hr⟩
  have l13 := r15.lt
  have z3 := b3.size
  have z4 := b4.size
  have z5 := s5.size
  have zB := B2.size
  clear m3 o3 r4 r23 r13 r12 r1 r2 b4 s5 b3 b2 b1 B2
  have t6 : True := trivial
  have t7 : True := trivial
  by_cases hc : (x.near && decide (0 < last)) = true
  · have hc2 : x.near = true ∧ 0 < last := by simpa using hc
    rw [hc2.1] at cn
    have hl0 : (0 : Int) < (last : Int) := by omega
    have eP : ptc x last = { fewP x.p with needs := (fewP x.p).needs.map (nr last) } := by unfold ptc; rw [if_pos hc]
    have eP' : Hid (ptc x last = { fewP x.p with needs := (fewP x.p).needs.map (nr last) }) := eP
    have hwf := m5.is.i.wf
    clear eP hc
    obtain ⟨na, nn, nc⟩ := n'
    simp only at hnl c5 o5 n3
    subst hnl
    simp only at hob ap3
    have fin : ∀ wr w7, OwV wr (.slice na (fewP x.p).needs.length nc) (nrL last (fewP x.p).needs (fewP x.p).needs.length) → Stp (fun y => (Value.slice na (fewP x.p).needs.length nc).ownBlock = some y) w5 wr → Cs w7 g2 (({ fewP x.p with needs := (fewP x.p).needs.map (nr last) } : Pt).cs d' ⟨na, (fewP x.p).needs.length, nc⟩) → Stp (fun y => y = g2) wr w7 → ∃ d'' n'' : Sv, Ending.returned (Value.agg (({ fewP x.p with needs := (fewP x.p).needs.map (nr last) } : Pt).cs d' ⟨na, (fewP x.p).needs.length, nc⟩).toArray) = .returned (.agg ((ptc x last).cs d'' n'').toArray) ∧ PtM w7 (Made w w7) (ptc x last) d'' n'' ∧ Below w.heap.size w w7 := fun wr w7 hO hst r7 s7 => by
      rw [eP'.out]
      have z7 := s7.size
      have z8 := hst.size
      rw [nrL_all] at hO
      have hO7 := hO.step s7 (fun r hr e => by have := hob r hr; omega)
      obtain ⟨sv, e1, e2, e3, e4⟩ := hO7.ins (B := w2.heap.size) (fun y hy => by obtain ⟨z, _, rfl⟩ := List.mem_map.1 hy; exact nr_wf hc2.2 hl z) (fun r hr => (hob r hr).1)
      have e5 : (⟨na, (fewP x.p).needs.length, nc⟩ : Sv) = sv := by
        obtain ⟨sa, sn, sc⟩ := sv
        injection e1 with f1 f2 f3
        subst f1; subst f2; subst f3; rfl
      subst e5
      have hds : Stp (fun y => (Value.slice na (fewP x.p).needs.length nc).ownBlock = some y ∨ y = g2) w5 w7 := (hst.mono (fun y e => .inl (.inl e))).next s7 (fun y e => .inl (.inr e))
      refine ⟨d', _, rfl, ⟨?_, e3, ?_, e4.mono (fun y hy => ⟨by have := hy.1; omega, hy.2⟩)⟩, (Stp.of_below B5 (fun _ => False)).next hds (fun y e => .inr ?_) |>.below (Nat.le_refl _) (fun y e => e.elim)⟩
      · refine (m5.bs.step (E := fun y => Made w2 w3 y ∧ (Value.slice na (fewP x.p).needs.length nc).ownBlock ≠ some y) hds (fun ad h1 h2 => ⟨m5.ed ad h1 h2, fun e => ap3 _ e ad h1 h2 rfl⟩) (fun y hy e => ?_))
        rcases e with e | e
        · exact hy.2 e
        · have := hy.1.1; omega
      · exact m5.ed.mono (fun y hy => ⟨by have := hy.1; omega, by have := hy.2; omega⟩)
      · rcases e with e | e
        · have := (hob y e).1; omega
        · omega
    have hA := fun (y : Int) (u : World) => among_any y last u hc2.2 (by omega)
    have eC : ({ fewP x.p with needs := (fewP x.p).needs.map (nr last) } : Pt).cs d' ⟨na, (fewP x.p).needs.length, nc⟩ = (fewP x.p).cs d' ⟨na, (fewP x.p).needs.length, nc⟩ := rfl
    rw [eC] at fin
    have hC5 : Hid (w5.cell? ⟨g4, 5, none⟩ = some (.slice na (fewP x.p).needs.length nc)) := c5
    clear c5 eC
    have hnl6 : ((fewP x.p).needs.length : Int) ≤ 6 := by omega
    go_loopw [6] (fun v wr => ∃ k : Nat, k ≤ (fewP x.p).needs.length ∧ v = .int .i64 (k : Int) ∧ Stp (fun y => (Value.slice na (fewP x.p).needs.length nc).ownBlock = some y) w5 wr ∧ OwV wr (.slice na (fewP x.p).needs.length nc) (nrL last (fewP x.p).needs k)) (fun v _ => (fewP x.p).needs.length - (intOf v).toNat)
    case atStart => exact ⟨0, Nat.zero_le _, rfl, Stp.refl _ _, by rw [nrL_zero]; exact o5⟩
    case round =>
      obtain ⟨k, hk, rfl, st, ow⟩ := hrel
      have hob4 : (Value.slice na (fewP x.p).needs.length nc).ownBlock ≠ some g4 := fun e => by have := hob g4 e; omega
      have hob1 : (Value.slice na (fewP x.p).needs.length nc).ownBlock ≠ some g1 := fun e => by have := hob g1 e; omega
      have hob2 : (Value.slice na (fewP x.p).needs.length nc).ownBlock ≠ some g2 := fun e => by have := hob g2 e; omega
      have c5 := st.cell hC5.out hob4
      have cnr := st.cell cn hob1
      have r5r := r5.step st hob4
      have r25r := r25.step st hob2
      by_cases hkl : k < (fewP x.p).needs.length
      · obtain ⟨rb, cap, cur, e1, _⟩ := ow.row1 (fun e => by have := nrL_len last (fewP x.p).needs k; rw [e, List.length_nil] at this; omega)
        rw [nrL_len] at e1
        injection e1 with e1 e2 e3
        subst e1; subst e3; clear e2
        have hset := ow.set k (by rw [nrL_len]; exact hkl) (nr last ((fewP x.p).needs.getD k 0))
        rw [nrL_get hkl, nrL_set hkl] at hset
        obtain ⟨ck, fk, ow2⟩ := hset
        have hnr : nr last ((fewP x.p).needs.getD k 0) = (last : Int) - (among ((fewP x.p).needs.getD k 0) last : Nat) := rfl
        have hal := among_lt ((fewP x.p).needs.getD k 0) last hc2.2
        have hwr : IntKind.i64.wrap ((last : Int) - (among ((fewP x.p).needs.getD k 0) last : Nat)) = nr last ((fewP x.p).needs.getD k 0) := by rw [hnr, IntKind.wrap_i64]; omega
        have hA2 := hA ((fewP x.p).needs.getD k 0)
        have ow2' : Hid (OwV (wr.setCell ⟨rb, k, none⟩ (.int .i64 (nr last ((fewP x.p).needs.getD k 0)))) (.slice (some ⟨rb, 0, none⟩) (fewP x.p).needs.length nc) (nrL last (fewP x.p).needs (k + 1))) := ow2
        have a9 : (k : Int) < ((fewP x.p).needs.length : Int) := by omega
        clear ow2 hA hnr hal
        generalize nr last ((fewP x.p).needs.getD k 0) = y at *
        generalize (fewP x.p).needs.getD k 0 = y0 at *
        go_wp2_with fail
        have a8 : (0 : Int) ≤ (k : Int) := by omega
        refine wp_region_last (S := fun u => Below wr.heap.size wr u) _ _ (by simp only [List.pop_toArray, List.dropLast_cons_cons, List.dropLast_singleton]; rfl) (by simp only [List.back?_toArray, List.getLast?_cons_cons, List.getLast?_singleton]; rfl) (by kernel_rfl) (by kernel_rfl) (Below.refl _ _).drew (fun hHeld => ?_)
        refine wpAnyH_take (i := 0) (oi := { dst := some 25, op := Op.fieldAddr 30 (Operand.tmp 5) 5, type := 0, pos := _, after := #[], guard := none }) (v := .pointer (some ⟨g4, 5, none⟩)) rfl (by kernel_rfl) (by kernel_rfl) (by kernel_rfl) (fun _ _ _ h => h) (Or.inl ⟨by rfl, ?_⟩) hHeld ?_
        · intro u hu
          go_simp
        try simp only [Act.put, List.setIfInBounds_toArray, List.set_cons_zero, List.set_cons_succ]
        refine wpAnyH_take (i := 1) (oi := { dst := some 26, op := Op.load 28 (Operand.tmp 25), type := 28, pos := _, after := #[{ on := 0, ground := Ground.data }], guard := none }) (v := .slice (some ⟨rb, 0, none⟩) (fewP x.p).needs.length nc) rfl (by kernel_rfl) (by kernel_rfl) (by kernel_rfl) (fun _ _ _ h => h) (Or.inl ⟨by rfl, ?_⟩) hHeld ?_
        · intro u hu
          have x1 := (Stp.of_below hu (fun _ => False)).cell c5 id; go_simp
        try simp only [Act.put, List.setIfInBounds_toArray, List.set_cons_zero, List.set_cons_succ]
        refine wpAnyH_take (i := 2) (oi := { dst := some 27, op := Op.move (Operand.tmp 6), type := 3, pos := _, after := #[], guard := none }) (v := .int .i64 (k : Int)) rfl (by kernel_rfl) (by kernel_rfl) (by kernel_rfl) (fun _ _ _ h => h) (Or.inl ⟨by rfl, ?_⟩) hHeld ?_
        · intro u hu
          go_simp
        try simp only [Act.put, List.setIfInBounds_toArray, List.set_cons_zero, List.set_cons_succ]
        refine wpAnyH_take (i := 3) (oi := { dst := some 28, op := Op.move (Operand.tmp 1), type := 3, pos := _, after := #[], guard := none }) (v := .int .i64 (last : Int)) rfl (by kernel_rfl) (by kernel_rfl) (by kernel_rfl) (fun _ _ _ h => h) (Or.inl ⟨by rfl, ?_⟩) hHeld ?_
        · intro u hu
          go_simp
        try simp only [Act.put, List.setIfInBounds_toArray, List.set_cons_zero, List.set_cons_succ]
        refine wpAnyH_take (i := 4) (oi := { dst := some 29, op := Op.fieldAddr 30 (Operand.tmp 5) 5, type := 0, pos := _, after := #[], guard := none }) (v := .pointer (some ⟨g4, 5, none⟩)) rfl (by kernel_rfl) (by kernel_rfl) (by kernel_rfl) (fun _ _ _ h => h) (Or.inl ⟨by rfl, ?_⟩) hHeld ?_
        · intro u hu
          go_simp
        try simp only [Act.put, List.setIfInBounds_toArray, List.set_cons_zero, List.set_cons_succ]
        refine wpAnyH_take (i := 5) (oi := { dst := some 30, op := Op.load 28 (Operand.tmp 29), type := 28, pos := _, after := #[{ on := 4, ground := Ground.data }], guard := none }) (v := .slice (some ⟨rb, 0, none⟩) (fewP x.p).needs.length nc) rfl (by kernel_rfl) (by kernel_rfl) (by kernel_rfl) (fun _ _ _ h => h) (Or.inl ⟨by rfl, ?_⟩) hHeld ?_
        · intro u hu
          have x1 := (Stp.of_below hu (fun _ => False)).cell c5 id; go_simp
        try simp only [Act.put, List.setIfInBounds_toArray, List.set_cons_zero, List.set_cons_succ]
        refine wpAnyH_take (i := 6) (oi := { dst := some 31, op := Op.move (Operand.tmp 6), type := 3, pos := _, after := #[], guard := none }) (v := .int .i64 (k : Int)) rfl (by kernel_rfl) (by kernel_rfl) (by kernel_rfl) (fun _ _ _ h => h) (Or.inl ⟨by rfl, ?_⟩) hHeld ?_
        · intro u hu
          go_simp
        try simp only [Act.put, List.setIfInBounds_toArray, List.set_cons_zero, List.set_cons_succ]
        refine wpAnyH_take (i := 7) (oi := { dst := some 32, op := Op.indexAddr 28 (Operand.tmp 30) (Operand.tmp 31), type := 0, pos := _, after := #[{ on := 5, ground := Ground.data }, { on := 6, ground := Ground.data }], guard := none }) (v := .pointer (some ⟨rb, k, none⟩)) rfl (by kernel_rfl) (by kernel_rfl) (by kernel_rfl) (fun _ _ _ h => h) (Or.inl ⟨by rfl, ?_⟩) hHeld ?_
        · intro u hu
          go_simp
        try simp only [Act.put, List.setIfInBounds_toArray, List.set_cons_zero, List.set_cons_succ]
        refine wpAnyH_take (i := 8) (oi := { dst := some 33, op := Op.load 3 (Operand.tmp 32), type := 3, pos := _, after := #[{ on := 7, ground := Ground.data }], guard := none }) (v := .int .i64 y0) rfl (by kernel_rfl) (by kernel_rfl) (by kernel_rfl) (fun _ _ _ h => h) (Or.inl ⟨by rfl, ?_⟩) hHeld ?_
        · intro u hu
          have x1 := (Stp.of_below hu (fun _ => False)).cell ck id; go_simp
        try simp only [Act.put, List.setIfInBounds_toArray, List.set_cons_zero, List.set_cons_succ]
        refine wpAnyH_take (i := 9) (oi := { dst := some 34, op := Op.move (Operand.tmp 1), type := 3, pos := _, after := #[], guard := none }) (v := .int .i64 (last : Int)) rfl (by kernel_rfl) (by kernel_rfl) (by kernel_rfl) (fun _ _ _ h => h) (Or.inl ⟨by rfl, ?_⟩) hHeld ?_
        · intro u hu
          go_simp
        try simp only [Act.put, List.setIfInBounds_toArray, List.set_cons_zero, List.set_cons_succ]
        refine wpAnyH_ready (rs := [10]) (by kernel_rfl) (by simp) ?_
        refine (AllReadyH.cons (o := { dst := some 35, op := Op.call { callee := Callee.value (Operand.func 6), args := #[Operand.tmp 33, Operand.tmp 34], argTypes := #[3, 3] }, type := 3, pos := _, after := #[{ on := 8, ground := Ground.data }, { on := 9, ground := Ground.data }], guard := none }) rfl (fun K hK => ?_) AllReadyH.nil)
        go_simp
        refine (hA2 _).mono ?_
        rintro e w6 ⟨rfl, rfl⟩
        try go_wp2_with fail
        refine hK.out _ _ (hHeld) (fun hHeld => ?_)
        clear hK K
        try simp only [Act.put, List.setIfInBounds_toArray, List.set_cons_zero, List.set_cons_succ]
        refine wpAnyH_take (i := 11) (oi := { dst := some 36, op := Op.binOp BinOp.sub 3 (Operand.tmp 28) (Operand.tmp 35) 3, type := 3, pos := _, after := #[{ on := 3, ground := Ground.data }, { on := 10, ground := Ground.data }], guard := none }) (v := .int .i64 y) rfl (by kernel_rfl) (by kernel_rfl) (by kernel_rfl) (fun _ _ _ h => h) (Or.inl ⟨by rfl, ?_⟩) hHeld ?_
        · intro u hu
          go_simp
        try simp only [Act.put, List.setIfInBounds_toArray, List.set_cons_zero, List.set_cons_succ]
        refine wpAnyH_take (i := 12) (oi := { dst := some 37, op := Op.indexAddr 28 (Operand.tmp 26) (Operand.tmp 27), type := 0, pos := _, after := #[{ on := 1, ground := Ground.data }, { on := 2, ground := Ground.data }, { on := 0, ground := Ground.phase }, { on := 1, ground := Ground.phase }, { on := 2, ground := Ground.phase }, { on := 3, ground := Ground.phase }, { on := 4, ground := Ground.phase }, { on := 5, ground := Ground.phase }, { on := 6, ground := Ground.phase }, { on := 7, ground := Ground.phase }, { on := 8, ground := Ground.phase }, { on := 9, ground := Ground.phase }, { on := 10, ground := Ground.phase }, { on := 11, ground := Ground.phase }], guard := none }) (v := .pointer (some ⟨rb, k, none⟩)) rfl (by kernel_rfl) (by kernel_rfl) (by kernel_rfl) (fun _ _ _ h => h) (Or.inl ⟨by rfl, ?_⟩) hHeld ?_
        · intro u hu
          go_simp
        try simp only [Act.put, List.setIfInBounds_toArray, List.set_cons_zero, List.set_cons_succ]
        refine wpAnyH_done (by kernel_rfl) ?_ _
        have ow3 : OwV (wr.drew.setCell ⟨rb, k, none⟩ (.int .i64 y)) (.slice (some ⟨rb, 0, none⟩) (fewP x.p).needs.length nc) (nrL last (fewP x.p).needs (k + 1)) := ow2'.out
        have ckd : wr.drew.cell? ⟨rb, k, none⟩ = some (.int .i64 y0) := ck
        have fkd : wr.drew.frozen? ⟨rb, k, none⟩ = false := fk
        have s9 : Stp (fun y => (Value.slice (some ⟨rb, 0, none⟩) (fewP x.p).needs.length nc).ownBlock = some y) w5 (wr.drew.setCell ⟨rb, k, none⟩ (.int .i64 y)) := (st.drew).setCell (p := ⟨rb, k, none⟩) (.inl rfl) _
        show wpList _ _ _ [_] _ _
        refine op_unit (by rfl) (wr.drew.setCell ⟨rb, k, none⟩ (.int .i64 y)) (by simp [execOp, Instr.storeAt, Instr.sureAddr]; go_simp) ?_
        clear hHeld c5 cnr ck fk ckd fkd
        go_wp2_with fail
        go_roundw
        case rel => exact ⟨k + 1, by omega, by go_num, s9, ow3⟩
        case measure => simp [intOf]; omega
      · have hk' : k = (fewP x.p).needs.length := by omega
        subst hk'
        go_wp2_with (first
          | (clear t6; refine at_getP0 (by rfl) _ (by rfl) g4 (by rfl) (fewP x.p) d' ⟨na, (fewP x.p).needs.length, nc⟩ r5r ?_)
          | (clear t7; refine at_putP (by rfl) _ _ (by rfl) g2 (by rfl) (fewP x.p) d' ⟨na, (fewP x.p).needs.length, nc⟩ (by rfl) _ r25r rfl ?_; intro w7 r7 s7))
        exact bodyPost_ret (retC srtP rfl rfl r7 rfl) rfl (fin wr w7 ow st r7 s7)
  · have eP : ptc x last = fewP x.p := by unfold ptc; rw [if_neg hc]
    have eP' : Hid (ptc x last = fewP x.p) := eP
    clear eP
    refine wp_loop_rounds 1 ?_
    rw [rounds_succ]
    have fin : ∀ w7, Cs w7 g2 ((fewP x.p).cs d' n') → Stp (fun y => y = g2) w5 w7 → ∃ d'' n'' : Sv, Ending.returned (Value.agg ((fewP x.p).cs d' n').toArray) = .returned (.agg ((ptc x last).cs d'' n'').toArray) ∧ PtM w7 (Made w w7) (ptc x last) d'' n'' ∧ Below w.heap.size w w7 := fun w7 r7 s7 => by
      rw [eP'.out]
      have z7 := s7.size
      exact ⟨d', n', rfl, (m5.step s7 (fun y hy e => by have := hy.1; omega)).mono (fun y hy => ⟨by have := hy.1; omega, by have := hy.2; omega⟩), ((Stp.of_below B5 (fun _ => False)).next s7 (fun y e => .inr (by omega))).below (Nat.le_refl _) (fun y e => e.elim)⟩
    cases hn : x.near with
    | false =>
      rw [hn] at cn
      go_wp2_with (first
        | (clear t6; refine at_getP0 (by rfl) _ (by rfl) g4 (by rfl) (fewP x.p) d' n' r5 ?_)
        | (clear t7; refine at_putP (by rfl) _ _ (by rfl) g2 (by rfl) (fewP x.p) d' n' (by rfl) _ r25 rfl ?_; intro w7 r7 s7))
      all_goals exact bodyPost_ret (retC srtP rfl rfl r7 rfl) rfl (fin w7 r7 s7)
    | true =>
      rw [hn] at cn
      have hl0 : ¬ (0 : Int) < (last : Int) := fun h => hc (by rw [hn]; simp; omega)
      have hl1 : (last : Int) = 0 := by omega
      go_wp2_with (first
        | (clear t6; refine at_getP0 (by rfl) _ (by rfl) g4 (by rfl) (fewP x.p) d' n' r5 ?_)
        | (clear t7; refine at_putP (by rfl) _ _ (by rfl) g2 (by rfl) (fewP x.p) d' n' (by rfl) _ r25 rfl ?_; intro w7 r7 s7))
      all_goals exact bodyPost_ret (retC srtP rfl rfl r7 rfl) rfl (fin w7 r7 s7)
end Go.Proofs.YtigchhogclofiaaGreat
