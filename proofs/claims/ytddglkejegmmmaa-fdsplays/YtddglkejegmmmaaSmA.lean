/-
  What SameInts of the helpers, and sameIs and Same of the statements of layer 14, return of what reads the same: no statement is proved here.
-/
import Derived.Test.YtddglkejegmmmaaMadeA
namespace Go.Proofs.Ytddglkejegmmmaa
open Go.ChangeShapes Go.WideShapes Go.ChangeAt Go.RowKit
set_option linter.unusedVariables false
set_option linter.unusedSimpArgs false

set_option maxRecDepth 100000 in
set_option maxHeartbeats 2000000 in
theorem same_any {w : World} {a b : Sv} {l : List Int} (ha : InsS w a l) (hb : InsS w b l) (hl : l.length ≤ 100000) :
    Calls Try.prog 20 #[.slice a.a a.n a.c, .slice b.a b.n b.c] w fun e w' => e = .returned (.bool true) ∧ Below w.heap.size w w' := by
  have h1 := ha.i.len
  have h2 := hb.i.len
  have ca := ha.i.cell
  have cb := hb.i.cell
  obtain ⟨aa, an, ac⟩ := a
  obtain ⟨ba, bn, bc⟩ := b
  simp only at h1 h2 ca cb ⊢
  subst h1; subst h2
  clear ha hb
  go_enter Try.func20, Try.ntmps20
  go_wp2
  go_loopw [5] (fun x wr => ∃ k : Nat, k ≤ l.length ∧ x = .int .i64 (k : Int) ∧ Below w.heap.size w wr) (fun x _ => l.length - (intOf x).toNat)
  case atStart => exact ⟨0, Nat.zero_le _, rfl, Below.refl _ _⟩
  case round =>
    obtain ⟨k, hk, rfl, hB⟩ := hrel
    by_cases hlt : k < l.length
    · obtain ⟨b1, o1, rfl, c1⟩ := ca (by omega)
      obtain ⟨b2, o2, rfl, c2⟩ := cb (by omega)
      have ck1 : wr.cell? ⟨b1, o1 + k, none⟩ = some (.int .i64 (l.getD k 0)) := (Stp.of_below hB (fun _ => False)).cell (c1 k hlt) id
      have ck2 : wr.cell? ⟨b2, o2 + k, none⟩ = some (.int .i64 (l.getD k 0)) := (Stp.of_below hB (fun _ => False)).cell (c2 k hlt) id
      clear c1 c2 ca cb
      generalize l.getD k 0 = y at *
      have a9 : (k : Int) < (l.length : Int) := by omega
      have a8 : (0 : Int) ≤ (k : Int) := by omega
      go_wp2
      go_region
      go_wp2
      go_roundw
      case rel => exact ⟨k + 1, by omega, by go_num, hB.drew⟩
      case measure => simp [intOf]; omega
    · have hk' : k = l.length := by omega
      subst hk'
      go_wp2
      go_returns
      exact ⟨rfl, hB⟩
end Go.Proofs.Ytddglkejegmmmaa
