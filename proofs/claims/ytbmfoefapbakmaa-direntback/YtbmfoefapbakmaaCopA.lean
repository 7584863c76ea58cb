/-
  'copy' of bytes out of the middle of a row into the middle of another: no statement is proved here.
-/
import Derived.Test.YtbmfoefapbakmaaSealA
namespace Go.Proofs.Ytbmfoefapbakmaa
open Go.ChangeShapes Go.WideShapes Go.ChangeAt Go.RowKit
set_option linter.unusedVariables false

/-- 'copy' of n bytes out of the middle of a row into the middle of another. -/
theorem run_copyP (w : World) (tp : TypeId) (g off dLen dCap g2 o2 sLen sCap n : Nat) (l l2 : List UInt8) (hR : Row w g l) (hR2 : Row w g2 l2) (hn : n = Nat.min sLen dLen) (h2 : off + n ≤ l.length) (h3 : o2 + n ≤ l2.length) :
    (Builtin.copy_ #[28, 28] tp #[.slice (some ⟨g, off, none⟩) dLen dCap, .slice (some ⟨g2, o2, none⟩) sLen sCap]).run Try.prog w = .ok (goInt n) (w.setRow g (cells (splice l off ((l2.drop o2).take n))).toArray) := by
  have hlen : (cells ((l2.drop o2).take n)).length = n := by simp; omega
  obtain ⟨t, hg⟩ := hR
  have hrun := run_copy_row (P := Try.prog) w 28 28 tp 5 g off dLen dCap ⟨g2, o2, none⟩ sLen sCap (cells l).toArray t (cells ((l2.drop o2).take n)) (by kernel_rfl) (by kernel_rfl) hg
    (by rw [hlen]; exact hn) (fun j v hv => by
      have hj := (List.getElem?_eq_some_iff.1 hv).1
      rw [hlen] at hj
      have := hR2.range (o2 + j) v (by
        rw [List.getElem?_map, List.getElem?_take, if_pos hj, List.getElem?_drop] at hv
        rw [List.getElem?_map]; exact hv)
      rw [Addr.add_mid]; rwa [Nat.zero_add] at this) (by rw [hlen]; simpa using h2) (cells_one _)
  rw [hlen] at hrun
  have e : (List.take off (cells l).toArray.toList ++ cells ((l2.drop o2).take n) ++ List.drop (off + n) (cells l).toArray.toList) = cells (splice l off ((l2.drop o2).take n)) := by
    unfold splice
    have : ((l2.drop o2).take n).length = n := by simp; omega
    rw [this]; simp [cells]
  rw [e] at hrun
  exact hrun
theorem step_copyP {ops : Array Oper} {o : Oper} {a : Act} {w : World} {K : Act → World → Prop} {Q : Exit → Act → World → Prop} {E : Prop} (hgd : o.guard = none) (d s : Operand)
    (ho : o.op = .call { callee := .builtin .copy, args := #[d, s], argTypes := #[28, 28] }) (g off dLen dCap g2 o2 sLen sCap n : Nat)
    (hd : a.eval d = .slice (some ⟨g, off, none⟩) dLen dCap) (hs : a.eval s = .slice (some ⟨g2, o2, none⟩) sLen sCap) (l l2 : List UInt8) (hR : Row w g l) (hR2 : Row w g2 l2) (hn : n = Nat.min sLen dLen) (h2 : off + n ≤ l.length) (h3 : o2 + n ≤ l2.length)
    (h : ∀ w', Row w' g (splice l off ((l2.drop o2).take n)) → Stp (fun x => x = g) w w' → K (a.put o.dst (goInt n)) w') :
    if Region.wanted o (yielded ops a.tmps) = true then Oper.wp Try.prog o a w K Q else E := by
  have hw : Region.wanted o (yielded ops a.tmps) = true := by simp [Region.wanted, hgd]
  rw [if_pos hw]
  have hrun := run_copyP w o.type g off dLen dCap g2 o2 sLen sCap n l l2 hR hR2 hn h2 h3
  unfold Oper.wp
  simp only [execOp, ho, resolve, invoke, builtin]
  simp [hd, hs, hrun, Result.andThen]
  exact h _ (hR.setRow _) (stp_setRow _ _ _)
theorem at_copyP {ops : Array Oper} {rest : List Oper} {o : Oper} {a : Act} {w : World} {Q : Exit → Act → World → Prop} (hgd : o.guard = none) (d s : Operand)
    (ho : o.op = .call { callee := .builtin .copy, args := #[d, s], argTypes := #[28, 28] }) (g off dLen dCap g2 o2 sLen sCap n : Nat)
    (hd : a.eval d = .slice (some ⟨g, off, none⟩) dLen dCap) (hs : a.eval s = .slice (some ⟨g2, o2, none⟩) sLen sCap) (l l2 : List UInt8) (hR : Row w g l) (hR2 : Row w g2 l2) (hn : n = Nat.min sLen dLen) (h2 : off + n ≤ l.length) (h3 : o2 + n ≤ l2.length)
    (h : ∀ w', Row w' g (splice l off ((l2.drop o2).take n)) → Stp (fun x => x = g) w w' → wpList Try.prog ops Q rest (a.put o.dst (goInt n)) w') : wpList Try.prog ops Q (o :: rest) a w := by
  refine wpList_plain hgd fun K hK => ?_
  have hrun := run_copyP w o.type g off dLen dCap g2 o2 sLen sCap n l l2 hR hR2 hn h2 h3
  unfold Oper.wp
  simp only [execOp, ho, resolve, invoke, builtin]
  simp [hd, hs, hrun, Result.andThen]
  exact hK _ _ (h _ (hR.setRow _) (stp_setRow _ _ _))
theorem splice_all (l c : List UInt8) (h : c.length = l.length) : splice l 0 c = c := by
  unfold splice; rw [List.take_zero, List.nil_append, Nat.zero_add, h, List.drop_of_length_le (Nat.le_refl _), List.append_nil]
end Go.Proofs.Ytbmfoefapbakmaa
