/-
  Texts of my own, joined: no statement is proved here.
-/
import Derived.Shelf.SlIterI.Sorted
import Derived.Shelf.SlIterI.Keys
import Derived.Deep.DeepCutAuto
import Derived.Lib.Walk
import Derived.Deep.RegionLaw
import Derived.Test.YtgdnhkdfcjpdiaaGreatDoorRows
import Derived.OpenShut
import Derived.Test.YtgdnhkdfcjpdiaaGreatDoorJbf
set_option linter.unusedSimpArgs false
set_option linter.unusedVariables false
namespace Go.Proofs.YtgdnhkdfcjpdiaaGreatDoor
open Go.ChangeShapes Go.WideShapes Go.ChangeAt Go.RowKit
theorem Gh.ok {w : World} {g : Nat} {Z : GZ} {E F : Nat → Prop} (H : Gh w g Z E F) : Z.ok 2000 := by obtain ⟨_, _, _, _, H⟩ := H; exact H.ok
theorem Gh.lt {w : World} {g : Nat} {Z : GZ} {E F : Nat → Prop} (H : Gh w g Z E F) : (∀ x, F x → x < w.heap.size) ∧ (∀ x, E x → x < w.heap.size) ∧ ∀ x, E x → ¬ F x := by obtain ⟨_, _, _, _, H⟩ := H; exact ⟨H.lt, H.el, H.ef⟩
theorem add_n6 {Z : GZ} (h : ∀ p ∈ Z.l, p.needs.length ≤ 6) (p : Pt) (hp : p.needs.length ≤ 6) : ∀ q ∈ (Z.add p).l, q.needs.length ≤ 6 := by
  unfold GZ.add
  split
  · intro q hq
    rcases List.mem_append.1 hq with hq | hq
    · exact h q hq
    · rw [List.mem_singleton.1 hq]; exact hp
  · exact h
theorem add_la {Z : GZ} {k : Nat} (h : Z.last ≤ (k : Int)) (p : Pt) : (Z.add p).last ≤ ((k + 1 : Nat) : Int) := by
  unfold GZ.add
  split
  · simp only; omega
  · omega
end Go.Proofs.YtgdnhkdfcjpdiaaGreatDoor
