/-
  What Inodes, Head, Maps and Data of layer 6, and the document's Total, Inodes, Head, Maps and Data, return, for every input: no statement is proved here.
-/
import Derived.Test.YthanenbjfcndbaaGeoB
namespace Go.Proofs.Ythanenbjfcndbaa
open Go.ChangeShapes Go.WideShapes Go.ChangeAt Go.RowKit
set_option linter.unusedVariables false

/-- The block of a shape that was handed in, and may be written. -/
structure Gown (w : World) (b : Nat) (s : Gm) : Prop where
  at' : Gat w b s
  f0 : w.frozen? ⟨b, 0, none⟩ = false
  f1 : w.frozen? ⟨b, 1, none⟩ = false
  f2 : w.frozen? ⟨b, 2, none⟩ = false
theorem frozen_later {w w' : World} {b i : Nat} (k : Below w.heap.size w w') (hb : b < w.heap.size) (h : w.frozen? ⟨b, i, none⟩ = false) : w'.frozen? ⟨b, i, none⟩ = false := by
  have e := k.block b hb
  unfold World.frozen? at h ⊢
  simp only at h ⊢
  rw [e]; exact h
end Go.Proofs.Ythanenbjfcndbaa
