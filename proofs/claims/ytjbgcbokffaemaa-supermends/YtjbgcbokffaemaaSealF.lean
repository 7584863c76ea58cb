/-
  Slices of bytes that a call itself made, and 'append': no statement is proved here.
-/
import Derived.Test.YtjbgcbokffaemaaSealD
import Derived.Maps.AppendAt
namespace Go.Proofs.Ytjbgcbokffaemaa
open Go.ChangeShapes Go.WideShapes Go.ChangeAt Go.RowKit
set_option linter.unusedVariables false

theorem infoB1 : (Try.prog.info? 5).map (fun i => (i.zero, i.size, i.bytes)) = some (some (.int .u8 0), 1, 1) := by kernel_rfl
/-- The slice at the head of block g is the call's own (g lies behind B), and holds the bytes l. -/
def Own (B : Nat) (w : World) (g cap : Nat) (l : List UInt8) : Prop := w.ownsRow B 5 1 (.slice (some ⟨g, 0, none⟩) l.length cap) l.length (cells l)
section
variable {B : Nat} {w w' : World} {g cap : Nat} {l : List UInt8}
theorem Own.lt (h : Own B w g cap l) : B ≤ g ∧ g < w.heap.size := own_lt h
theorem Own.later (h : Own B w g cap l) (k : Below w.heap.size w w') : Own B w' g cap l := own_keep h (keep_below k []) (by simp)
theorem Own.range (h : Own B w g cap l) : w.rangeAt g 0 (cells l) := fun j v hv => by
  have hcs := World.ownsRow.cells h (g := g) rfl
  have := hcs j v hv
  rw [Addr.add_mid] at this; exact this
theorem cells_ints (l : List UInt8) : cells l = (ints l).map (Value.int .u8) := by unfold cells ints; rw [List.map_map]; rfl
theorem Own.bs (h : Own B w g cap l) : Bs w (some ⟨g, 0, none⟩) l.length cap (ints l) := by
  unfold Own at h
  rw [cells_ints] at h
  exact own_bs' h (ints_byte l)
theorem Own.made (w : World) (hB : B ≤ w.heap.size) : Own B (w.alloc (.cells #[] 5)) w.heap.size 0 [] := World.ownsRow_made w #[] 0 hB (Nat.zero_le _) rfl
/-- 'append(own, x...)'. -/
theorem at_app {ops : Array Oper} {rest : List Oper} {o : Oper} {a : Act} {Q : Exit → Act → World → Prop} (hgd : o.guard = none) (s x : Operand)
    (ho : o.op = .call { callee := .builtin .append, args := #[s, x], argTypes := #[58, 58] }) (n : Nat) (hs : a.eval s = .slice (some ⟨g, 0, none⟩) n cap) (h0 : Own B w g cap l) (hn : l.length = n)
    (ad : Addr) (m c : Nat) (l2 : List UInt8) (hx : a.eval x = .slice (some ad) m c) (hm : l2.length = m) (N : Nat) (hN : n + m = N) (hnews : ∀ j u, (cells l2)[j]? = some u → w.cell? (ad.add j) = some u) (hbig : l.length + l2.length ≤ 1000000) (hB : B ≤ w.heap.size)
    (h : ∀ g' cap' w', Own B w' g' cap' (l ++ l2) → Stp (fun x => B ≤ x) w w' → wpList Try.prog ops Q rest (a.put o.dst (.slice (some ⟨g', 0, none⟩) N cap')) w') : wpList Try.prog ops Q (o :: rest) a w := by
  obtain ⟨i0, hi, hz0, hz1, hz2⟩ := info_parts infoB1
  subst hn
  subst hN
  have hle : (l ++ l2).length = l.length + m := by rw [List.length_append, hm]
  refine wpList_append_own_at w hgd s x 58 ho B 5 i0 (.int .u8 0) 1 1 (by kernel_rfl) hi hz0 hz1 hz2 rfl (by decide) _ l.length (cells l) hs h0 ad m c (cells l2) hx (by simp [hm]) hnews (cells_one l2) (by unfold maxLen; omega) (by omega) hB ?_
  intro v' w' h1 h2 h3 h4
  obtain ⟨g', cap', rfl, _⟩ := own_some h1 (fun e => by have := (h3.1 e).1; cases this)
  refine h g' cap' w' ?_ (Stp.of_grown h2 (fun x e => .inl ?_))
  · unfold Own; rw [hle]; simpa [cells] using h1
  · have e' : some g = some x := e; injection e' with e'; subst e'; exact h0.lt.1
end
/-- A load of a whole array out of the head of a block. -/
theorem at_getR {ops : Array Oper} {rest : List Oper} {o : Oper} {a : Act} {w : World} {Q : Exit → Act → World → Prop} (T n : Nat) (hT : Arr T n) (hw : Region.wanted o (yielded ops a.tmps) = true) (x : Operand) (ho : o.op = .load T x) (g : Nat) (hx : a.eval x = .pointer (some ⟨g, 0, none⟩)) (l : List UInt8) (hR : w.rangeAt g 0 (cells l)) (hl : l.length = n)
    (h : wpList Try.prog ops Q rest (a.put o.dst (.agg (cells l).toArray)) w) : wpList Try.prog ops Q (o :: rest) a w := by
  refine op_val hw _ _ ?_ h
  have : (loadVar T ⟨g, 0, none⟩).run Try.prog w = .ok (.agg (cells l).toArray) w := run_loadVar_mid w g 0 _ (cells l) _ hR hT.und rfl (by rw [hT.size]; simp [hl])
  simp [execOp, ho, hx, Instr.loadAt, Instr.sureAddr, this]
end Go.Proofs.Ytjbgcbokffaemaa
