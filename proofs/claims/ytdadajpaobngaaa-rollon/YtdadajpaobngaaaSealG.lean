/-
  What the document's Put of layer 7 returns, for every input: no statement is proved here.
-/
import Derived.Test.YtdadajpaobngaaaSealF
namespace Go.Proofs.Ytdadajpaobngaaa
open Go.ChangeShapes Go.WideShapes Go.ChangeAt Go.RowKit
set_option linter.unusedVariables false

theorem cells_kk {n : Nat} (h : n ≤ 6) : cells [UInt8.ofNat n, UInt8.ofNat (255 - n)] = [.int .u8 (n : Int), .int .u8 (255 - (n : Int))] := by
  unfold cells
  simp only [List.map_cons, List.map_nil, Extern.Stop.cell]
  rw [u8_to (by omega), u8_to (by omega), show Int.ofNat (255 - n) = 255 - (n : Int) from by have : Int.ofNat (255 - n) = ((255 - n : Nat) : Int) := rfl; omega]
  rfl
theorem news_row (w : World) (l : List UInt8) (t : TypeId) (cs : List Value) (h : cells l = cs) : ∀ j u, (cells l)[j]? = some u → (w.alloc (.cells cs.toArray t)).cell? ((⟨w.heap.size, 0, none⟩ : Addr).add j) = some u := by
  subst h
  intro j u hj
  rw [Addr.add_mid]
  exact (Row.made w l t).range j u hj
end Go.Proofs.Ytdadajpaobngaaa
