/-
  Plain words of my own on slices of ints: no statement is proved here. (Seats with a disk have these in DskF and DskH.)
-/
import Derived.Test.YtddglkejegmmmaaRows
import Derived.Test.YtddglkejegmmmaaPlain5
import Derived.OpenShut
namespace Go.Proofs.Ytddglkejegmmmaa
open Go.ChangeShapes Go.WideShapes Go.ChangeAt Go.RowKit
set_option linter.unusedVariables false

/-- The slice 'a, n, c' reads as the ints l in the world w. -/
structure Ins (w : World) (a : Option Addr) (n c : Nat) (l : List Int) : Prop where
  len : l.length = n
  le : n ≤ c
  cap : c ≤ maxLen
  wf : ∀ x ∈ l, (Lit.int .i64 x).wf = true
  cell : 0 < n → ∃ b o, a = some ⟨b, o, none⟩ ∧ ∀ i, i < n → w.cell? ⟨b, o + i, none⟩ = some (.int .i64 (l.getD i 0))
theorem Ins.nilSlice (w : World) : Ins w none 0 0 [] := ⟨rfl, Nat.le_refl _, by decide, (fun _ h => by cases h), fun h => absurd h (by omega)⟩
theorem Ins.step {F : Nat → Prop} {w w' : World} {a : Option Addr} {n c : Nat} {l : List Int} (h : Ins w a n c l) (k : Stp F w w') (hF : ∀ x : Addr, 0 < n → a = some x → ¬ F x.block) : Ins w' a n c l :=
  ⟨h.len, h.le, h.cap, h.wf, fun hn => by obtain ⟨b, o, rfl, hc⟩ := h.cell hn; exact ⟨b, o, rfl, fun i hi => k.cell (hc i hi) (hF ⟨b, o, none⟩ hn rfl)⟩⟩
theorem Ins.lt {w : World} {a : Option Addr} {n c : Nat} {l : List Int} (h : Ins w a n c l) {x : Addr} (hn : 0 < n) (e : a = some x) : x.block < w.heap.size := by
  obtain ⟨b, o, e1, hc⟩ := h.cell hn
  rw [e1] at e; injection e with e; subst e
  exact World.block_lt_of_cell? w _ (hc 0 hn)
theorem ins_open {w : World} {x : Addr} {n c : Nat} {zs : List Int} (hl : n ≤ c) (hm : c ≤ maxLen) (hz : n ≤ zs.length) (hcell : ∀ i, i < zs.length → w.cell? (x.add i) = some (.int .i64 (zs.getD i 0))) (hwz : ∀ k ∈ zs, (Lit.int .i64 k).wf = true) :
    Ins w (some x) n c (zs.take n) := by
  refine ⟨by simp; omega, hl, hm, fun k hk => hwz k (List.mem_of_mem_take hk), fun hn => ?_⟩
  obtain ⟨b, o, spot⟩ := x
  have h0 := hcell 0 (by omega)
  have hspot : spot = none := by simpa [Addr.add] using World.cell?_spot h0
  subst hspot
  refine ⟨b, o, rfl, fun i hi => ?_⟩
  have := hcell i (by omega)
  rw [Addr.add_lit] at this
  rw [this, List.getD_eq_getElem?_getD, List.getD_eq_getElem?_getD, List.getElem?_take, if_pos hi]
section
variable {H : Type} {enc : TypeId × Value → H} {w : World} {base : Nat} {spare : Nat → Bool} {held : Bool}
theorem ins_of_trod {fuel : Nat} {cs : List Value} {x : DataW H × List MemPlace} (h : DataW.trod enc Try.prog w base spare held fuel 43 cs = some x) : ∃ a n c l, cs = [.slice a n c] ∧ Ins w a n c l := by
  rcases open_ints (k := .i64) (e := 3) (by kernel_rfl) (by kernel_rfl) (by kernel_rfl) h with ⟨hcs, _⟩ | ⟨a, l, c, zs, hcs, _, hl, hm, hz, _, hcell, hwz⟩
  · exact ⟨_, _, _, _, hcs, Ins.nilSlice w⟩
  · exact ⟨_, _, _, _, hcs, ins_open hl hm (by rw [hz]; split <;> omega) hcell hwz⟩
end
end Go.Proofs.Ytddglkejegmmmaa
