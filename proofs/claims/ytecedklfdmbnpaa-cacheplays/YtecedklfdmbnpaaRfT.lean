/-
  What an act leaves that loads the image and a block more: no statement is proved here.
-/
import Derived.Test.YtecedklfdmbnpaaRfS
namespace Go.Proofs.Ytecedklfdmbnpaa
open Go.ChangeShapes Go.WideShapes Go.ChangeAt Go.RowKit
set_option linter.unusedVariables false

theorem built (W : World) (b : Blk) : Stp (fun _ => False) W (W.alloc (.cells b.cs.toArray 42)) ∧ W.heap.size < (W.alloc (.cells b.cs.toArray 42)).heap.size ∧ ∀ j v, b.cs[j]? = some v → (W.alloc (.cells b.cs.toArray 42)).cell? ((⟨W.heap.size, 0, none⟩ : Addr).add j) = some v :=
  ⟨Stp.of_alloc _ _ _, by simp, fun j v hv => World.news_of_block (w := W.alloc (.cells b.cs.toArray 42)) (cs := b.cs.toArray) (t := 42) (fr := (0, 0)) (heap_alloc_new W _) j v (by simpa using hv)⟩
theorem owned {wA w1 w3 : World} {g3 gg cap n : Nat} {l : List Blk} (b1 : Below wA.heap.size wA w1) (l1 : wA.heap.size ≤ g3) (l2 : g3 < w1.heap.size) (o1 : w1.ownsRow 0 42 64 (.slice (some ⟨g3, 0, none⟩) n n) n (flat l))
    (o3 : w3.ownsRow 0 42 64 (.slice (some ⟨gg, 0, none⟩) (0 + n) cap) (0 + n) ([] ++ flat l)) (gr : (w1.alloc (.cells #[] 42)).grownBy w3 (Value.slice (some ⟨w1.heap.size, 0, none⟩) 0 0).ownBlock) (at3 : (Value.slice (some ⟨w1.heap.size, 0, none⟩) 0 0).ownBlock = some gg ∨ gg = w1.heap.size + 1) :
    w3.ownsRow 0 42 64 (.slice (some ⟨g3, 0, none⟩) n n) n (flat l) ∧ w3.ownsRow 0 42 64 (.slice (some ⟨gg, 0, none⟩) n cap) n (flat l) ∧ g3 ≠ gg ∧ wA.heap.size ≤ gg ∧ g3 < w3.heap.size := by
  have hz := b1.size
  have sg : Stp (fun x => x = w1.heap.size) w1 w3 := (Stp.of_alloc w1 _ _).trans (Stp.of_grown gr (fun x hx => .inl (by simp [Value.ownBlock] at hx; exact hx.symm)))
  have hs := sg.size
  rw [Nat.zero_add, List.nil_append] at o3
  have hg : w1.heap.size ≤ gg := by
    rcases at3 with e | e
    · simp [Value.ownBlock] at e; omega
    · omega
  refine ⟨own_stepV o1 sg (fun r hr e => ?_), o3, by omega, by omega, by omega⟩
  simp [Value.ownBlock] at hr; omega
theorem ended {wA w3 Vb V9 : World} {g3 gg gl capl gm capm cap n H4 H9 : Nat} {l : List Blk} {b : Blk} (hl : l.length = n) (s3 : Stp (fun _ => False) wA w3) (l1 : wA.heap.size ≤ g3) (lg : wA.heap.size ≤ gg) (lt3 : gg < w3.heap.size) (hne : g3 ≠ gg) (k9 : Stp (fun x => x = g3 ∨ x = gg) w3 V9) (zz4 : w3.heap.size ≤ H4) (zz9 : w3.heap.size ≤ H9) (s9 : Stp (fun x => x = gg) Vb V9)
    (o4 : Vb.ownsRow 0 42 64 (.slice (some ⟨gl, 0, none⟩) (n + 1) capl) (n + 1) (flat l ++ b.cs)) (at4 : (Value.slice (some ⟨g3, 0, none⟩) n n).ownBlock = some gl ∨ gl = H4)
    (o9 : V9.ownsRow 0 42 64 (.slice (some ⟨gm, 0, none⟩) (n + 1) capm) (n + 1) (flat l ++ b.cs)) (at9 : (Value.slice (some ⟨gg, 0, none⟩) n cap).ownBlock = some gm ∨ gm = H9) :
    Stp (fun _ => False) wA V9 ∧ Bls V9 (some ⟨gl, 0, none⟩) (n + 1) capl (l ++ [b]) ∧ Bls V9 (some ⟨gm, 0, none⟩) (n + 1) capm (l ++ [b]) ∧ wA.heap.size ≤ gl ∧ wA.heap.size ≤ gm := by
  have hz := s3.size
  have h4 : gl = g3 ∨ gl = H4 := at4.imp (fun e => by simp [Value.ownBlock] at e; exact e.symm) id
  have h9 : gm = gg ∨ gm = H9 := at9.imp (fun e => by simp [Value.ownBlock] at e; exact e.symm) id
  rw [← flat_snoc] at o4 o9
  refine ⟨s3.next k9 (fun x hx => .inr (by omega)), Bls.own (own_stepV o4 s9 (fun r hr e => ?_)) (by simp [hl]), Bls.own o9 (by simp [hl]), by omega, by omega⟩
  simp [Value.ownBlock] at hr; omega

end Go.Proofs.Ytecedklfdmbnpaa
