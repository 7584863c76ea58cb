/-
  How long the numbers are that an act brings: no statement is proved here.
-/
import Derived.Test.YtecedklfdmbnpaaRfU
import Derived.SizedLaws
namespace Go.Proofs.Ytecedklfdmbnpaa
open Go.ChangeShapes Go.WideShapes Go.ChangeAt Go.RowKit
set_option linter.unusedVariables false

section
variable {H : Type} {enc : TypeId × Value → H} {w : World} {base : Nat} {spare : Nat → Bool} {held : Bool}
theorem ins_sized {fuel : Nat} {a : Option Addr} {n c : Nat} {x : DataW H × List MemPlace} (h : DataW.trod enc Try.prog w base spare held fuel 51 [.slice a n c] = some x) : n = 0 ∨ ∃ k ∈ x.1.weights Try.prog 51, n * 8 ≤ k := by
  rcases Deep.open_slice (e := 3) (by kernel_rfl) h with ⟨hcs, _⟩ | ⟨b, len, cap, m, _, D, Pl, hcs, _, hl, hm, hmm, hx, _⟩
  · left; injection hcs with hcs _; injection hcs
  · right
    injection hcs with hcs _
    injection hcs with _ hn _
    subst hn
    have hb : Try.prog.bytesOf 3 = 8 := by kernel_rfl
    have hu : Try.prog.underlying 51 = some (.slice 3) := by kernel_rfl
    refine ⟨_, by rw [hx]; simp only [DataW.weights, hu]; exact List.mem_cons_self .., ?_⟩
    rw [hb]; simp; omega
theorem weights_mem_all {P : Program} {e : TypeId} : ∀ {ds : List (DataW H)} {d : DataW H}, d ∈ ds → ∀ k ∈ d.weights P e, k ∈ DataW.weightsAll P e ds
  | d0 :: ds, d, hd, k, hk => by
    simp only [DataW.weightsAll, List.mem_append]
    rcases List.mem_cons.1 hd with rfl | h
    · exact .inl hk
    · exact .inr (weights_mem_all h k hk)
end
end Go.Proofs.Ytecedklfdmbnpaa
