/-
  What layer 7's statements begin with, and what comes in at them: no statement is proved here.
-/
import Derived.Test.YtjbgcbokffaemaaSealJ
import Derived.OpenShut
namespace Go.Proofs.Ytjbgcbokffaemaa
open Go.ChangeShapes Go.WideShapes Go.ChangeAt Go.RowKit
set_option linter.unusedVariables false

theorem okWide_row {P : Program} {w : World} {r : Reach} {base : Nat} {t e : TypeId} {v : Value} {n : Nat} (ht : P.underlying t = some (.array n e)) (h : Value.okWide P w r base t v) : ∃ cs, v = .agg cs ∧ cs.size = P.cellsOf t := by
  simp only [Value.okWide, ht] at h
  obtain ⟨cs, h1, h2, _⟩ := h
  exact ⟨cs, h1, h2⟩
theorem bytes_of_cells {cs : List Value} {n : Nat} (hl : cs.length = n) (h : ∀ i, i < n → ∃ a, cs[i]? = some (.int .u8 a) ∧ (Lit.int .u8 a).wf = true) : ∃ l : List UInt8, l.length = n ∧ cells l = cs := by
  refine ⟨cs.map fun v => match v with | .int _ a => UInt8.ofNat a.toNat | _ => 0, by simp [hl], ?_⟩
  apply List.ext_getElem?
  intro i
  by_cases hi : i < n
  · obtain ⟨a, e, hw⟩ := h i hi
    have := bounds_u8 hw
    simp only [List.getElem?_map, e, Option.map_some, Extern.Stop.cell]
    congr 2
    have h1 : a.toNat < 256 := by omega
    rw [show (UInt8.ofNat a.toNat).toNat = a.toNat by simp; omega]
    show ((a.toNat : Nat) : Int) = a
    omega
  · rw [List.getElem?_eq_none (by simp; omega), List.getElem?_eq_none (by omega)]
section
variable {H : Type} {enc : TypeId × Value → H} {w : World} {base : Nat} {spare : Nat → Bool} {held : Bool}
theorem bytes_of_trod {T n fuel : Nat} {cs : List Value} {x : DataW H × List MemPlace} (hT : Arr T n) (hn : Try.prog.cellsOf T = n) (h : DataW.trod enc Try.prog w base spare held fuel T cs = some x) : ∃ l : List UInt8, l.length = n ∧ cells l = cs := by
  obtain ⟨xs, m, _, _, hl, hx, hi⟩ := DataW.trod_array hT.und h
  have hl' : cs.length = n := hl.trans hn
  have h1 : Try.prog.cellsOf 5 = 1 := by kernel_rfl
  refine bytes_of_cells hl' fun i hi' => ?_
  have hq := hi i hi'
  rw [h1, Nat.mul_one] at hq
  have hlx : i < xs.length := by omega
  rw [List.getElem?_eq_getElem hlx] at hq
  obtain ⟨a, e, _, hw⟩ := DataW.trod_int (k := .u8) (by kernel_rfl) hq
  refine ⟨a, ?_, hw⟩
  have : ((cs.drop i).take 1)[0]? = cs[i]? := by rw [List.getElem?_take, if_pos (by omega), List.getElem?_drop]; simp
  rw [← this, e]; rfl
theorem blkOfTrod {fuel : Nat} {cs : List Value} {x : DataW H × List MemPlace} (h : DataW.trod enc Try.prog w base spare held fuel 32 cs = some x) : ∃ b : Blk, b.cs = cs := by
  obtain ⟨l, hl, e⟩ := bytes_of_trod arrB (by kernel_rfl) h
  exact ⟨⟨l, hl⟩, e⟩
theorem ldOfTrod {fuel : Nat} {cs : List Value} {x : DataW H × List MemPlace} (h : DataW.trod enc Try.prog w base spare held fuel 25 cs = some x) : ∃ b : Ld, b.cs = cs := by
  obtain ⟨l, hl, e⟩ := bytes_of_trod arrL (by kernel_rfl) h
  exact ⟨⟨l, hl⟩, e⟩
end
/-- The chapter's example. -/
def exB : Blk := sealK 4 1 Ld.zero
theorem exB_kind : oK exB = 4 := seal_kind 4 1 _ (by omega) (by omega) (by omega)
theorem exB_facts : byt exB 54 = 4 ∧ byt exB 55 = 251 ∧ gT 4 exB = 1 ∧ gE 4 exB = 0 := by
  have h := (right_is exB 4 (by omega) (by omega)).2 exB_kind
  have he : gE 4 exB = 0 := gE_yes (k := 4) (by omega) (by omega) exB_kind
  refine ⟨h.1, h.2.1, ?_, he⟩
  have h3 := gT_own (b := exB) (by rw [exB_kind]; omega)
  rw [exB_kind] at h3
  have h4 : oT exB = 1 := seal_turn 4 1 _ (by omega) (by omega) (by omega)
  rw [h4] at h3
  exact h3
theorem put_ex (w : World) : Calls Try.prog 27 #[.int .i64 4, .int .u32 1, .agg Ld.zero.cs.toArray] w fun e w' => e = .returned (.tuple #[.agg exB.cs.toArray, .int .i64 0]) ∧ Below w.heap.size w w' := put_any 4 1 Ld.zero w (by omega)
theorem get_ex (w : World) : Calls Try.prog 45 #[.int .i64 4, .agg exB.cs.toArray] w fun e w' => e = .returned (.tuple #[.agg (gP 4 exB).cs.toArray, .int .u32 1, .int .i64 0]) ∧ Below w.heap.size w w' := by
  refine (get_any 4 exB w).mono ?_
  rintro e w' ⟨rfl, b⟩
  obtain ⟨_, _, h3, h4⟩ := exB_facts
  rw [h3, h4]; exact ⟨rfl, b⟩
end Go.Proofs.Ytjbgcbokffaemaa
