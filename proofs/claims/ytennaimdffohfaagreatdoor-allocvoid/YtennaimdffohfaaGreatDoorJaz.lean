/-
  Texts of my own, joined: no statement is proved here.
-/
import Derived.Test.YtennaimdffohfaaGreatDoorJai
set_option linter.unusedSimpArgs false
set_option linter.unusedVariables false
namespace Go.Proofs.YtennaimdffohfaaGreatDoor
open Go.ChangeShapes Go.WideShapes Go.ChangeAt Go.RowKit
set_option maxRecDepth 100000
theorem lenA {T n : Nat} (hT : Arr T n) : Tryz.prog.arrayLen T = n := by unfold Program.arrayLen; rw [hT.und]
theorem elemA {T n : Nat} (hT : Arr T n) : Tryz.prog.elem T = 5 := by unfold Program.elem; rw [hT.und]
theorem undA {T n : Nat} (hT : Arr T n) : Tryz.prog.underlying T = some (.array (Tryz.prog.arrayLen T) (Tryz.prog.elem T)) := by rw [lenA hT, elemA hT]; exact hT.und
theorem sizeU8 (w : World) : (sizeOf 5).run Tryz.prog w = .ok 1 w := by kernel_rfl
theorem run_subA {T n : Nat} (hT : Arr T n) (w : World) (g l m : Nat) (h2 : l + m ≤ n) (h3 : l < n) (h : Int) (hh : h = (l : Int) + m) :
    (Instr.sliceAt T (.pointer (some ⟨g, 0, none⟩)) (some (.int .i64 l)) (some (.int .i64 h)) none).run Tryz.prog w = .ok (.slice (some ⟨g, l, none⟩) m (n - l)) w := by
  subst hh
  rw [run_sliceAt_array_lh w T ⟨g, 0, none⟩ (undA hT) .i64 .i64 (l : Int) ((l : Int) + m) (by omega) (by omega) (by rw [lenA hT]; omega), elemA hT, sizeU8, lenA hT]
  simp only [Result.andThen, slicedAt, Int.toNat_natCast]
  rw [if_neg (by omega), show ((l : Int) + m).toNat - l = m by omega, Addr.add_mid, Nat.mul_one, Nat.zero_add]
theorem run_subL {T n : Nat} (hT : Arr T n) (w : World) (g l : Nat) (h3 : l < n) :
    (Instr.sliceAt T (.pointer (some ⟨g, 0, none⟩)) (some (.int .i64 l)) none none).run Tryz.prog w = .ok (.slice (some ⟨g, l, none⟩) (n - l) (n - l)) w := by
  rw [run_sliceAt_array_l w T ⟨g, 0, none⟩ (undA hT) .i64 (l : Int) (by omega) (by rw [lenA hT]; omega), elemA hT, sizeU8, lenA hT]
  simp only [Result.andThen, slicedAt, Int.toNat_natCast]
  rw [if_neg (by omega), Addr.add_mid, Nat.mul_one, Nat.zero_add]
section
variable {ops : Array Oper} {rest : List Oper} {o : Oper} {a : Act} {w : World} {Q : Exit → Act → World → Prop}
theorem at_subA (T n : Nat) (hT : Arr T n) (hw : Region.wanted o (yielded ops a.tmps) = true) (x lo hi : Operand) (ho : o.op = .slice T x (some lo) (some hi) none) (g l m : Nat) (h : Int) (hx : a.eval x = .pointer (some ⟨g, 0, none⟩)) (hlo : a.eval lo = .int .i64 l) (hhi : a.eval hi = .int .i64 h) (hh : h = (l : Int) + m) (h2 : l + m ≤ n) (h3 : l < n)
    (hK : wpList Tryz.prog ops Q rest (a.put o.dst (.slice (some ⟨g, l, none⟩) m (n - l))) w) : wpList Tryz.prog ops Q (o :: rest) a w := by
  refine op_val hw _ _ ?_ hK
  simp [execOp, ho, hx, hlo, hhi, run_subA hT w g l m h2 h3 h hh]
theorem at_copyB (hgd : o.guard = none) (d s : Operand)
    (ho : o.op = .call { callee := .builtin .copy, args := #[d, s], argTypes := #[119, 119] }) (g off dLen dCap : Nat) (x : Option Addr) (sLen sCap : Nat)
    (hd : a.eval d = .slice (some ⟨g, off, none⟩) dLen dCap) (hs : a.eval s = .slice x sLen sCap) (l l2 : List UInt8) (hR : Row w g l) (hB : Bs w x sLen sCap (ints l2)) (h0 : 0 < sLen) (h1 : sLen ≤ dLen) (h2 : off + sLen ≤ l.length)
    (h : ∀ w', Row w' g (splice l off l2) → Stp (fun x => x = g) w w' → wpList Tryz.prog ops Q rest (a.put o.dst (goInt sLen)) w') : wpList Tryz.prog ops Q (o :: rest) a w := by
  refine wpList_plain hgd fun K hK => ?_
  obtain ⟨b, off2, rfl, hc⟩ := hB.cell h0
  have hlen : l2.length = sLen := by have := hB.len; rwa [ints_len] at this
  obtain ⟨t, hg⟩ := hR
  have hrun := run_copy_row (P := Tryz.prog) w 119 119 o.type 5 g off dLen dCap ⟨b, off2, none⟩ sLen sCap (cells l).toArray t (cells l2) (by kernel_rfl) (by kernel_rfl) hg
    (by rw [List.length_map, hlen]; exact (Nat.min_eq_left h1).symm) (fun j v hv => by
      have hj := (List.getElem?_eq_some_iff.1 hv).1
      rw [List.length_map, hlen] at hj
      rw [Addr.add_mid, hc j hj, ints_getD, ← hv, List.getElem?_map, List.getElem?_eq_getElem (by omega), List.getD_eq_getElem?_getD, List.getElem?_eq_getElem (by omega)]
      rfl) (by rw [List.length_map, hlen]; simpa using h2) (cells_one _)
  have e : (List.take off (cells l).toArray.toList ++ cells l2 ++ List.drop (off + (cells l2).length) (cells l).toArray.toList) = cells (splice l off l2) := by
    unfold splice; simp [cells]
  rw [e, List.length_map, hlen] at hrun
  unfold Oper.wp
  simp only [execOp, ho, resolve, invoke, builtin]
  simp [hd, hs, hrun, Result.andThen]
  exact hK _ _ (h _ (Row.setRow ⟨t, hg⟩ _) (stp_setRow _ _ _))
end
end Go.Proofs.YtennaimdffohfaaGreatDoor
