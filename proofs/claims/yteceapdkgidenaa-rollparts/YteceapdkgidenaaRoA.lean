/-
  Copies of a patch's bytes into the midst of a row; what fits, Load and Turn of layer 15 return: no statement is proved here.
-/
import Derived.Test.YteceapdkgidenaaRoM
import Derived.Test.YteceapdkgidenaaSubA
import Derived.Test.YteceapdkgidenaaPeA
namespace Go.Proofs.Yteceapdkgidenaa
open Go.ChangeShapes Go.WideShapes Go.ChangeAt Go.RowKit
set_option linter.unusedVariables false
set_option linter.unusedSimpArgs false

/-- 'b[o:]', also where nothing is left. -/
def atEnd (n o : Nat) : Nat := if n = o then 0 else o
theorem run_subE {T n : Nat} (hT : Arr T n) (w : World) (g l : Nat) (h3 : l ≤ n) :
    (Instr.sliceAt T (.pointer (some ⟨g, 0, none⟩)) (some (.int .i64 (l : Int))) none none).run Try.prog w = .ok (.slice (some ⟨g, atEnd n l, none⟩) (n - l) (n - l)) w := by
  rw [run_sliceAt_array_l w T ⟨g, 0, none⟩ (undA hT) .i64 (l : Int) (by omega) (by rw [lenA hT]; omega), elemA hT, sizeU8, lenA hT]
  simp only [Result.andThen, slicedAt, Int.toNat_natCast]
  unfold atEnd
  split
  · rfl
  · rw [Addr.add_mid, Nat.mul_one, Nat.zero_add]
theorem run_copyS (w : World) (tp : TypeId) (g off dLen dCap o : Nat) (sv : Sv) (l l2 : List UInt8) (hR : Row w g l) (hB : BsS w sv (ints l2)) (h1 : sv.n ≤ dLen) (h2 : o + sv.n ≤ l.length) (ho : 0 < sv.n → off = o) :
    ∃ w', (Builtin.copy_ #[24, 24] tp #[.slice (some ⟨g, off, none⟩) dLen dCap, .slice sv.a sv.n sv.c]).run Try.prog w = .ok (goInt sv.n) w' ∧ Row w' g (splice l o l2) ∧ Stp (fun x => x = g) w w' := by
  have hlen : l2.length = sv.n := by have := hB.len; rwa [ints_len] at this
  rcases Nat.eq_zero_or_pos sv.n with h0 | h0
  · obtain rfl : l2 = [] := List.eq_nil_of_length_eq_zero (by omega)
    refine ⟨w, ?_, by rw [splice_none]; exact hR, Stp.refl _ _⟩
    rw [h0]
    exact run_copy_none (P := Try.prog) w _ _ tp 5 _ sv.a dLen dCap 0 sv.c (by kernel_rfl) (by kernel_rfl) (by simp)
  · obtain rfl := ho h0
    obtain ⟨b, off2, e, hc⟩ := hB.cell h0
    obtain ⟨t, hg⟩ := hR
    have hrun := run_copy_row (P := Try.prog) w 24 24 tp 5 g off dLen dCap ⟨b, off2, none⟩ sv.n sv.c (cells l).toArray t (cells l2) (by kernel_rfl) (by kernel_rfl) hg
      (by rw [List.length_map, hlen]; exact (Nat.min_eq_left h1).symm) (fun j v hv => by
        have hj := (List.getElem?_eq_some_iff.1 hv).1
        rw [List.length_map, hlen] at hj
        rw [Addr.add_mid, hc j hj, ints_getD, ← hv, List.getElem?_map, List.getElem?_eq_getElem (by omega), List.getD_eq_getElem?_getD, List.getElem?_eq_getElem (by omega)]
        rfl) (by rw [List.length_map, hlen]; simpa using h2) (cells_one _)
    have e2 : (List.take off (cells l).toArray.toList ++ cells l2 ++ List.drop (off + (cells l2).length) (cells l).toArray.toList) = cells (splice l off l2) := by
      unfold splice; simp [cells]
    rw [e2, List.length_map, hlen] at hrun
    refine ⟨_, by rw [e]; exact hrun, Row.setRow ⟨t, hg⟩ _, stp_setRow _ _ _⟩
theorem step_copyS {ops : Array Oper} {o : Oper} {a : Act} {w : World} {K : Act → World → Prop} {Q : Exit → Act → World → Prop} {E : Prop} (hgd : o.guard = none) (d s : Operand)
    (ho : o.op = .call { callee := .builtin .copy, args := #[d, s], argTypes := #[24, 24] }) (g off dLen dCap k : Nat) (sv : Sv)
    (hd : a.eval d = .slice (some ⟨g, off, none⟩) dLen dCap) (hs : a.eval s = .slice sv.a sv.n sv.c) (l l2 : List UInt8) (hR : Row w g l) (hB : BsS w sv (ints l2)) (h1 : sv.n ≤ dLen) (h2 : k + sv.n ≤ l.length) (hk : 0 < sv.n → off = k)
    (h : ∀ w', Row w' g (splice l k l2) → Stp (fun x => x = g) w w' → K (a.put o.dst (goInt sv.n)) w') :
    if Region.wanted o (yielded ops a.tmps) = true then Oper.wp Try.prog o a w K Q else E := by
  have hw : Region.wanted o (yielded ops a.tmps) = true := by simp [Region.wanted, hgd]
  rw [if_pos hw]
  obtain ⟨w', hrun, r1, r2⟩ := run_copyS w o.type g off dLen dCap k sv l l2 hR hB h1 h2 hk
  unfold Oper.wp
  simp only [execOp, ho, resolve, invoke, builtin]
  simp [hd, hs, hrun, Result.andThen]
  exact h _ r1 r2
set_option maxRecDepth 100000 in
set_option maxHeartbeats 2000000 in
theorem rfits_any (p : Pt) (d n : Sv) (w : World) (hp : p.wfp) (hd : BsS w d p.data) :
    Calls Try.prog 30 #[.agg (p.cs d n).toArray] w fun e w' => e = .returned (.bool (rfit p)) ∧ Below w.heap.size w w' := by
  have h2 := wfi_to hp.o
  have h3 := wfi_to hp.k
  have hlen := hd.len
  have hl : (0 : Int) ≤ (d.n : Int) := by omega
  have hl2 : (d.n : Int) ≤ 9223372036854775807 := by have := hd.le; have := hd.cap; unfold maxLen at this; omega
  have hE : Hid (rfit p = (decide (0 ≤ p.kind) && decide (p.kind ≤ 6) && decide (0 ≤ p.off) && decide (p.off ≤ (if p.kind = 0 then 64 else 54) - (d.n : Int)))) := by
    show _ = _; unfold rfit room; rw [hlen]
  clear hd hp hlen
  have tok : True := trivial
  go_enter Try.func30, Try.ntmps30
  go_wp2_with (first
    | (clear tok; refine at_boxP (by rfl) _ (by rfl) p d n (by rfl) ?_; intro g1 w1 a1 a2 r1 b1; obtain ⟨c0, c1, c2, c3, c4, c5, c6, c7, c8⟩ := Pt.cells r1; clear c0 c1 c5 c6 c7 c8))
  all_goals
    go_returns
    refine ⟨ret_bool ?_, b1⟩
    rw [hE.out]
    clear hE c2 c3 c4 r1 b1
    simp_all
    try omega
end Go.Proofs.Yteceapdkgidenaa
