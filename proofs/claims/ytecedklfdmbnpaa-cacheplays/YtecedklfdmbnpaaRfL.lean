/-
  What scupperbase.Ints returns: a copy: no statement is proved here.
-/
import Derived.Test.YtecedklfdmbnpaaRfK
namespace Go.Proofs.Ytecedklfdmbnpaa
open Go.ChangeShapes Go.WideShapes Go.ChangeAt Go.RowKit
set_option linter.unusedVariables false

theorem infoI : (Try.prog.info? 3).map (fun i => (i.zero, i.size, i.bytes)) = some (some (.int .i64 0), 1, 8) := by kernel_rfl
theorem buildI (u : World) : (Instr.buildSlice 51 0 #[]).run Try.prog u = .ok (.slice (some ⟨u.heap.size, 0, none⟩) 0 0) (u.alloc (.cells #[] 3)) := by
  obtain ⟨ie, hie, hz, hs, hb⟩ := info_parts infoI
  simp [Instr.buildSlice, run_underlying (show Try.prog.underlying 51 = some (.slice 3) by kernel_rfl), sizeOf, typeInfo, hie, Instr.fill, newRow]
  rw [show Array.range 0 = #[] from rfl]
  simp
theorem ownI (u : World) : (u.alloc (.cells #[] 3)).ownsRow 0 3 1 (.slice (some ⟨u.heap.size, 0, none⟩) 0 0) 0 [] :=
  ⟨rfl, .inr ⟨_, 0, #[], rfl, Nat.zero_le _, heap_alloc_new u _, Nat.le_refl _, by decide, by simp, by simp⟩⟩
theorem own_ins {w : World} {v : Value} {n : Nat} {l : List Int} (h : w.ownsRow 0 3 1 v n (l.map (Value.int .i64))) (hw : ∀ x ∈ l, (Lit.int .i64 x).wf = true) : ∃ a c, v = .slice a n c ∧ Ins w a n c l ∧ (0 < n → a.map (·.block) = v.ownBlock) := by
  obtain ⟨h1, h2⟩ := h
  have hlen : l.length = n := by simpa using h1
  rcases h2 with ⟨rfl, rfl⟩ | ⟨g, cap, cur, rfl, hb, hg, hle, hm, hs, ht⟩
  · exact ⟨none, 0, rfl, ⟨hlen, Nat.le_refl _, by decide, hw, fun h => absurd h (by omega)⟩, fun h => absurd h (by omega)⟩
  · refine ⟨_, cap, rfl, ⟨hlen, hle, hm, hw, fun hn => ⟨g, 0, rfl, fun i hi => ?_⟩⟩, fun _ => rfl⟩
    rw [Nat.zero_add, cell_of_row w g i cur _ (0, 0) hg]
    have e1 : (cur.toList.take (n * 1))[i]? = (l.map (Value.int .i64))[i]? := by rw [ht]
    rw [List.getElem?_take, if_pos (by omega)] at e1
    rw [← Array.getElem?_toList, e1, List.getElem?_map, List.getElem?_eq_getElem (by omega)]
    simp [List.getD_eq_getElem?_getD, List.getElem?_eq_getElem (show i < l.length by omega)]
end Go.Proofs.Ytecedklfdmbnpaa
