/-
  Loads and sectors that come in at a statement: no statement is proved here.
-/
import Derived.Test.YteceapdkgidenaaSealA
import Derived.OpenShut
namespace Go.Proofs.Yteceapdkgidenaa
open Go.ChangeShapes Go.WideShapes Go.ChangeAt Go.RowKit
set_option linter.unusedVariables false

theorem okWide_row {P : Program} {w : World} {r : Reach} {base : Nat} {t e : TypeId} {v : Value} {n : Nat} (ht : P.underlying t = some (.array n e)) (h : Value.okWide P w r base t v) : ∃ cs, v = .agg cs ∧ cs.size = P.cellsOf t := by
  simp only [Value.okWide, ht] at h
  obtain ⟨cs, h1, h2, _⟩ := h
  exact ⟨cs, h1, h2⟩
theorem bytes_of_cells {cs : List Value} {n : Nat} (hl : cs.length = n) (h : ∀ i, i < n → ∃ a, cs[i]? = some (.int .u8 a) ∧ (Lit.int .u8 a).wf = true) : ∃ l : List UInt8, l.length = n ∧ cells l = cs := by
  refine ⟨cs.map fun v => match v with | .int _ a => UInt8.ofNat a.toNat | _ => 0, by simp [hl], ?_⟩
  apply List.ext_getElem?
  intro i
  by_cases hi : i < n
  · obtain ⟨a, e, hw⟩ := h i hi
    have := bounds_u8 hw
    simp only [List.getElem?_map, e, Option.map_some, Extern.Stop.cell]
    congr 2
    have h1 : a.toNat < 256 := by omega
    rw [show (UInt8.ofNat a.toNat).toNat = a.toNat by simp; omega]
    show ((a.toNat : Nat) : Int) = a
    omega
  · rw [List.getElem?_eq_none (by simp; omega), List.getElem?_eq_none (by omega)]
section
variable {H : Type} {enc : TypeId × Value → H} {w : World} {base : Nat} {spare : Nat → Bool} {held : Bool}
theorem bytes_of_trod {T n fuel : Nat} {cs : List Value} {x : DataW H × List MemPlace} (hT : Arr T n) (hn : Try.prog.cellsOf T = n) (h : DataW.trod enc Try.prog w base spare held fuel T cs = some x) : ∃ l : List UInt8, l.length = n ∧ cells l = cs := by
  obtain ⟨xs, m, _, _, hl, hx, hi⟩ := DataW.trod_array hT.und h
  have hl' : cs.length = n := hl.trans hn
  have h1 : Try.prog.cellsOf 5 = 1 := by kernel_rfl
  refine bytes_of_cells hl' fun i hi' => ?_
  have hq := hi i hi'
  rw [h1, Nat.mul_one] at hq
  have hlx : i < xs.length := by omega
  rw [List.getElem?_eq_getElem hlx] at hq
  obtain ⟨a, e, _, hw⟩ := DataW.trod_int (k := .u8) (by kernel_rfl) hq
  refine ⟨a, ?_, hw⟩
  have : ((cs.drop i).take 1)[0]? = cs[i]? := by rw [List.getElem?_take, if_pos (by omega), List.getElem?_drop]; simp
  rw [← this, e]; rfl
theorem blkOfTrod {fuel : Nat} {cs : List Value} {x : DataW H × List MemPlace} (h : DataW.trod enc Try.prog w base spare held fuel 23 cs = some x) : ∃ b : Blk, b.cs = cs := by
  obtain ⟨l, hl, e⟩ := bytes_of_trod arrB (by kernel_rfl) h
  exact ⟨⟨l, hl⟩, e⟩
theorem ldOfTrod {fuel : Nat} {cs : List Value} {x : DataW H × List MemPlace} (h : DataW.trod enc Try.prog w base spare held fuel 35 cs = some x) : ∃ b : Ld, b.cs = cs := by
  obtain ⟨l, hl, e⟩ := bytes_of_trod arrL (by kernel_rfl) h
  exact ⟨⟨l, hl⟩, e⟩
end
end Go.Proofs.Yteceapdkgidenaa
