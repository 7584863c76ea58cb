/-
  Entries and texts that come in at a statement: no statement is proved here.
-/
import Derived.Test.YtbmfoefapbakmaaDirA
import Derived.Test.YtbmfoefapbakmaaLdIn
import Derived.Deep.DeepHandedRow
import Derived.ChangeMaps5
namespace Go.Proofs.Ytbmfoefapbakmaa
open Go.ChangeShapes Go.WideShapes Go.ChangeAt Go.RowKit
set_option linter.unusedVariables false

section
variable {H : Type} {enc : TypeId × Value → H} {w : World} {base : Nat} {spare : Nat → Bool} {held : Bool}
theorem entOfTrod {fuel : Nat} {cs : List Value} {x : DataW H × List MemPlace} (h : DataW.trod enc Try.prog w base spare held fuel 23 cs = some x) : ∃ e : Ent, e.cs = cs := by
  obtain ⟨xs, n, _, _, hl, hlen, hf⟩ := DataW.trod_struct Try.underlying23 h
  have c0 : Try.prog.cellsOf 23 = 2 := by kernel_rfl
  rw [c0] at hl
  have hx : ∀ i, i < 2 → ∃ y, xs[i]? = some y := fun i hi => by
    have : xs.length = 2 := hlen
    exact ⟨_, List.getElem?_eq_getElem (by omega)⟩
  match cs, hl with
  | [v0, v1], _ =>
    have h0 := hf 0 _ rfl
    have h1 := hf 1 _ rfl
    obtain ⟨y0, e0⟩ := hx 0 (by omega)
    obtain ⟨y1, e1⟩ := hx 1 (by omega)
    rw [e0] at h0
    rw [e1] at h1
    obtain ⟨a, ea, _, _⟩ := DataW.trod_int Try.underlying3 h0
    obtain ⟨s, es, _, _⟩ := DataW.trod_string Try.underlying9 h1
    have ka : [v0] = [Value.int .i64 a] := ea
    have ks : [v1] = [Value.string s] := es
    injection ka with ka _
    injection ks with ks _
    subst ka
    subst ks
    refine ⟨⟨a, s.data.toList⟩, ?_⟩
    show [Value.int .i64 a, Value.string (str s.data.toList)] = _
    rw [← str_of s]
end
/-- A text cut to its first 100 bytes. -/
theorem cut_min (l : List UInt8) : (if 100 < (l.length : Int) then 100 else (l.length : Int)) = ((min l.length 100 : Nat) : Int) := by split <;> omega
end Go.Proofs.Ytbmfoefapbakmaa
