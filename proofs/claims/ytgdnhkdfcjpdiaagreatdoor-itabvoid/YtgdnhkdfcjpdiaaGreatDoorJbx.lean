/-
  Texts of my own, joined: no statement is proved here.
-/
import Derived.Deep.DeepHandedRow
import Derived.Lib.LaidTab
import Derived.OpenShut
import Derived.Test.YtgdnhkdfcjpdiaaGreatDoorJbq
set_option linter.unusedSimpArgs false
set_option linter.unusedVariables false
namespace Go.Proofs.YtgdnhkdfcjpdiaaGreatDoor
open Go.ChangeShapes Go.WideShapes Go.ChangeAt Go.RowKit
set_option maxRecDepth 100000
section
variable {H : Type} {enc : TypeId × Value → H} {w : World} {base : Nat} {spare : Nat → Bool} {held : Bool}
theorem u8_in {a : Int} (h : (Lit.int .u8 a).wf = true) : ((UInt8.ofNat a.toNat).toNat : Int) = a := by
  have := bounds_u8 h
  rw [UInt8.toNat_ofNat']; omega
theorem u16_in {a : Int} (h : (Lit.int .u16 a).wf = true) : ((UInt16.ofNat a.toNat).toNat : Int) = a := by
  have := bounds_u16 h
  rw [UInt16.toNat_ofNat']; omega
theorem u32_in {a : Int} (h : (Lit.int .u32 a).wf = true) : ((UInt32.ofNat a.toNat).toNat : Int) = a := by
  have := bounds_u32 h
  rw [UInt32.toNat_ofNat']; omega
theorem int_of_trod {T : TypeId} {k : IntKind} {fuel : Nat} {cs : List Value} {o : Option (DataW H × List MemPlace)} (hu : Tryz.prog.underlying T = some (.int k)) (h : DataW.trod enc Tryz.prog w base spare held fuel T cs = o) (ho : o.isSome = true) : ∃ a, cs = [.int k a] ∧ (Lit.int k a).wf = true := by
  obtain ⟨x, rfl⟩ := Option.isSome_iff_exists.1 ho
  obtain ⟨a, e, _, hw⟩ := DataW.trod_int hu h
  exact ⟨a, e, hw⟩
theorem inoOfTrod {fuel : Nat} {cs : List Value} {x : DataW H × List MemPlace} (h : DataW.trod enc Tryz.prog w base spare held fuel 26 cs = some x) : ∃ i : Ino, i.cs = cs := by
  obtain ⟨xs, n, _, _, hl, hlen, hf⟩ := DataW.trod_struct Tryz.underlying26 h
  have c0 : Tryz.prog.cellsOf 26 = 9 := by kernel_rfl
  have c1 : Tryz.prog.cellsOf 5 = 1 := by kernel_rfl
  have c2 : Tryz.prog.cellsOf 22 = 1 := by kernel_rfl
  have c3 : Tryz.prog.cellsOf 23 = 1 := by kernel_rfl
  have c4 : Tryz.prog.cellsOf 24 = 4 := by kernel_rfl
  rw [c0] at hl
  have hx : ∀ i, i < 6 → (xs[i]?).isSome = true := fun i hi => by
    have : xs.length = 6 := hlen
    rw [List.getElem?_eq_getElem (by omega)]; rfl
  match cs, hl with
  | [v0, v1, v2, v3, v4, v5, v6, v7, v8], _ =>
    obtain ⟨a0, e0, w0⟩ := int_of_trod Tryz.underlying5 (hf 0 _ rfl) (hx 0 (by omega))
    obtain ⟨a1, e1, w1⟩ := int_of_trod Tryz.underlying5 (hf 1 _ rfl) (hx 1 (by omega))
    obtain ⟨a2, e2, w2⟩ := int_of_trod Tryz.underlying22 (hf 2 _ rfl) (hx 2 (by omega))
    obtain ⟨a7, e7, w7⟩ := int_of_trod Tryz.underlying23 (hf 4 _ rfl) (hx 4 (by omega))
    obtain ⟨a8, e8, w8⟩ := int_of_trod Tryz.underlying23 (hf 5 _ rfl) (hx 5 (by omega))
    have h3 := hf 3 _ rfl
    obtain ⟨y3, hy3⟩ := Option.isSome_iff_exists.1 (hx 3 (by omega))
    rw [hy3] at h3
    obtain ⟨zs, m, _, _, _, hzl, hz⟩ := DataW.trod_array Tryz.underlying24 h3
    have hzx : ∀ i, i < 4 → (zs[i]?).isSome = true := fun i hi => by
      rw [List.getElem?_eq_getElem (by omega)]; rfl
    obtain ⟨a3, e3, w3⟩ := int_of_trod Tryz.underlying23 (hz 0 (by omega)) (hzx 0 (by omega))
    obtain ⟨a4, e4, w4⟩ := int_of_trod Tryz.underlying23 (hz 1 (by omega)) (hzx 1 (by omega))
    obtain ⟨a5, e5, w5⟩ := int_of_trod Tryz.underlying23 (hz 2 (by omega)) (hzx 2 (by omega))
    obtain ⟨a6, e6, w6⟩ := int_of_trod Tryz.underlying23 (hz 3 (by omega)) (hzx 3 (by omega))
    simp [c1, c2, c3, c4] at e0 e1 e2 e3 e4 e5 e6 e7 e8
    subst e0; subst e1; subst e2; subst e3; subst e4; subst e5; subst e6; subst e7; subst e8
    refine ⟨⟨UInt8.ofNat a0.toNat, UInt8.ofNat a1.toNat, UInt32.ofNat a2.toNat, UInt16.ofNat a3.toNat, UInt16.ofNat a4.toNat, UInt16.ofNat a5.toNat, UInt16.ofNat a6.toNat, UInt16.ofNat a7.toNat, UInt16.ofNat a8.toNat⟩, ?_⟩
    unfold Ino.cs
    simp only [u8_in w0, u8_in w1, u32_in w2, u16_in w3, u16_in w4, u16_in w5, u16_in w6, u16_in w7, u16_in w8]
end
def tabL : List (Nat × Nat) := [(0, 18), (1, 1), (2, 4), (6, 2), (8, 2), (10, 2), (12, 2), (14, 2), (16, 2), (2, 16)]
theorem tabL_at (f : Nat) (hf : f ≤ 9) : tabL[f]? = some (fAt f, fSz f) := by
  have : f = 0 ∨ f = 1 ∨ f = 2 ∨ f = 3 ∨ f = 4 ∨ f = 5 ∨ f = 6 ∨ f = 7 ∨ f = 8 ∨ f = 9 := by omega
  rcases this with rfl | rfl | rfl | rfl | rfl | rfl | rfl | rfl | rfl | rfl <;> rfl
theorem tabL_is {H : Type} : (Rows.laid_scupper_inode_spans : DataW H) = .agg (tabL.map fun z => .agg [.lit (.int .i64 (z.1 : Int)), .lit (.int .i64 (z.2 : Int))]) := rfl
theorem tab_of_laid {W : World} {nm : String} {rest : List (String × DataW Unit)} (hn : Tryz.prog.globalNamed nm = some 0) (h : laidMet Tryz.prog ((nm, Rows.laid_scupper_inode_spans) :: rest) W) : Tb W := by
  obtain ⟨ps, ⟨g', t', cs, fuel, p, q, hg', ht', hvar, hd, _, _⟩, _⟩ := h
  obtain rfl := Option.some.inj (hn.symm.trans hg')
  obtain rfl := Option.some.inj ((show (Tryz.prog.globals[0]?).map (·.type) = some 161 by kernel_rfl).symm.trans ht')
  rw [tabL_is] at hd
  obtain ⟨xs, m, _, hx, hl, hlen, hi⟩ := DataW.trod_array Tryz.underlying161 hd
  have c1 : Tryz.prog.cellsOf 160 = 2 := by kernel_rfl
  have c2 : Tryz.prog.cellsOf 3 = 1 := by kernel_rfl
  intro f hf
  have hq := hi f (by omega)
  rw [c1, List.getElem?_eq_getElem (by omega)] at hq
  obtain ⟨y0, y1, n, e, _, h0, h1⟩ := trod_struct2 Tryz.underlying160 hq
  obtain ⟨a0, z0, d0, _⟩ := DataW.trod_int Tryz.underlying3 h0
  obtain ⟨a1, z1, d1, _⟩ := DataW.trod_int Tryz.underlying3 h1
  have hfst : (xs.map (·.1))[f]? = some (DataW.agg [.lit (.int .i64 a0), .lit (.int .i64 a1)]) := by
    rw [List.getElem?_map, List.getElem?_eq_getElem (by omega), Option.map_some, e, d0, d1]
  have hx' : xs.map (·.1) = tabL.map fun z => DataW.agg [.lit (.int .i64 (z.1 : Int)), .lit (.int .i64 (z.2 : Int))] := by
    have := congrArg Prod.fst hx
    simp only at this
    injection this with this
    exact this.symm
  rw [hx', List.getElem?_map, tabL_at f hf, Option.map_some] at hfst
  injection hfst with hfst
  injection hfst with hfst
  injection hfst with f0 f1
  injection f1 with f1 _
  injection f0 with f0
  injection f0 with _ f0
  injection f1 with f1
  injection f1 with _ f1
  subst f0; subst f1
  rw [c2] at z0 z1
  refine ⟨?_, ?_⟩
  · rw [World.var?_cell hn hvar]
    have := congrArg (·[0]?) z0
    simpa [List.getElem?_take, List.getElem?_drop] using this
  · rw [World.var?_cell hn hvar]
    have := congrArg (·[0]?) z1
    simpa [List.getElem?_take, List.getElem?_drop] using this
end Go.Proofs.YtgdnhkdfcjpdiaaGreatDoor
