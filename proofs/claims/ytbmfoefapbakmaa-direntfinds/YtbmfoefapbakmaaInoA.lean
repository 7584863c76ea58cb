/-
  Inodes in memory, and laws at operations on them: no statement is proved here.
-/
import Derived.Test.YtbmfoefapbakmaaCsA
import Derived.Test.YtbmfoefapbakmaaOwnA
import Derived.Test.YtbmfoefapbakmaaInoM
import Derived.DeepKeys
namespace Go.Proofs.Ytbmfoefapbakmaa
open Go.ChangeShapes Go.WideShapes Go.ChangeAt Go.RowKit
set_option linter.unusedVariables false

theorem ar2 : Arr 54 2 := ⟨by kernel_rfl, by kernel_rfl, fun w => (zero_of_info (v := .agg (cells (List.replicate 2 0)).toArray) (n := 2) (by kernel_rfl)).1 w⟩
/-- Whether two inodes are the same. -/
abbrev Ino.same (x y : Ino) : Prop := x.k.toNat = y.k.toNat ∧ x.n.toNat = y.n.toNat ∧ x.s.toNat = y.s.toNat ∧ x.d0.toNat = y.d0.toNat ∧ x.d1.toNat = y.d1.toNat ∧ x.d2.toNat = y.d2.toNat ∧ x.d3.toNat = y.d3.toNat ∧ x.p.toNat = y.p.toNat ∧ x.q.toNat = y.q.toNat
def Ino.sameB (x y : Ino) : Bool := decide (x.same y)
theorem same_self (x : Ino) : x.sameB x = true := decide_eq_true ⟨rfl, rfl, rfl, rfl, rfl, rfl, rfl, rfl, rfl⟩
def Ino.lits (x : Ino) : List Lit := [.int .u8 (x.k.toNat : Int), .int .u8 (x.n.toNat : Int), .int .u32 (x.s.toNat : Int), .int .u16 (x.d0.toNat : Int), .int .u16 (x.d1.toNat : Int), .int .u16 (x.d2.toNat : Int), .int .u16 (x.d3.toNat : Int), .int .u16 (x.p.toNat : Int), .int .u16 (x.q.toNat : Int)]
theorem wf8 (x : UInt8) : (Lit.int .u8 (x.toNat : Int)).wf = true := by
  have := x.toNat_lt; simp [Lit.wf, IntKind.min, IntKind.max, IntKind.bits, IntKind.signed]; omega
theorem wf16 (x : UInt16) : (Lit.int .u16 (x.toNat : Int)).wf = true := by
  have := x.toNat_lt; simp [Lit.wf, IntKind.min, IntKind.max, IntKind.bits, IntKind.signed]; omega
theorem wf32 (x : UInt32) : (Lit.int .u32 (x.toNat : Int)).wf = true := by
  have := x.toNat_lt; simp [Lit.wf, IntKind.min, IntKind.max, IntKind.bits, IntKind.signed]; omega
section
variable {w w' : World} {g : Nat} {cs : List Value}
theorem Cs.set (h : Cs w g cs) (i : Nat) (v : Value) (hv : v.oneCell' = true) : Cs (w.setCell ⟨g, i, none⟩ v) g (cs.set i v) := by
  obtain ⟨⟨t, h⟩, h1⟩ := h
  refine ⟨⟨t, ?_⟩, fun x hx => ?_⟩
  · rw [setCell_eq_setRow w g i _ t (0, 0) _ h, setRow_heap w g _ _ t _ h]
    simp
  · rcases List.mem_or_eq_of_mem_set hx with hx | rfl
    · exact h1 x hx
    · exact hv
end
section
variable {ops : Array Oper} {rest : List Oper} {o : Oper} {a : Act} {w : World} {Q : Exit → Act → World → Prop}
/-- 'x.f = v', of a number. -/
theorem at_setC (T : Nat) (k : IntKind) (hs : ∀ w, (sizeOf T).run Try.prog w = .ok 1 w) (hw : Region.wanted o (yielded ops a.tmps) = true) (x y : Operand) (ho : o.op = .store T x y) (g i : Nat) (hx : a.eval x = .pointer (some ⟨g, i, none⟩)) (n : Int) (hy : a.eval y = .int k n) (cs : List Value) (hR : Cs w g cs) (hi : i < cs.length)
    (h : ∀ w', Cs w' g (cs.set i (.int k n)) → Stp (fun x => x = g) w w' → wpList Try.prog ops Q rest (a.put o.dst undef) w') : wpList Try.prog ops Q (o :: rest) a w := by
  refine op_unit hw _ ?_ (h (w.setCell ⟨g, i, none⟩ (.int k n)) (hR.set i _ rfl) ((Stp.refl (fun x => x = g) w).setCell (p := ⟨g, i, none⟩) (.inl rfl) _))
  have hc := hR.cell i _ (List.getElem?_eq_getElem hi)
  have hf := hR.frozen i
  simp [execOp, ho, hx, hy, Instr.storeAt, Instr.sureAddr]
  go_simp
/-- A part of a struct, loaded: cells i to i + m - 1. -/
theorem at_getP (T m : Nat) (hT : ∃ d, Try.prog.underlying T = some d ∧ d.isRow = true) (hs : (Try.prog.info? T).map (·.size) = some m) (hw : Region.wanted o (yielded ops a.tmps) = true) (x : Operand) (ho : o.op = .load T x) (g i : Nat) (hx : a.eval x = .pointer (some ⟨g, i, none⟩)) (cs : List Value) (hR : Cs w g cs) (part : List Value) (hp : part = (cs.drop i).take m) (hl : part.length = m)
    (h : wpList Try.prog ops Q rest (a.put o.dst (.agg part.toArray)) w) : wpList Try.prog ops Q (o :: rest) a w := by
  refine op_val hw _ _ ?_ h
  obtain ⟨d, h1, h2⟩ := hT
  have hr : w.rangeAt g i part := fun j v hv => by
    subst hp
    have hj := (List.getElem?_eq_some_iff.1 hv).1
    rw [hl] at hj
    rw [List.getElem?_take, if_pos hj, List.getElem?_drop] at hv
    exact hR.cell (i + j) v hv
  have : (loadVar T ⟨g, i, none⟩).run Try.prog w = .ok (.agg part.toArray) w := run_loadVar_mid w g i _ part _ hr h1 h2 (by rw [hs]; simp [hl])
  simp [execOp, ho, hx, Instr.loadAt, Instr.sureAddr, this]
/-- Cells out of the midst of a block, loaded. -/
theorem at_getRg (T m : Nat) (hT : ∃ d, Try.prog.underlying T = some d ∧ d.isRow = true) (hs : (Try.prog.info? T).map (·.size) = some m) (hw : Region.wanted o (yielded ops a.tmps) = true) (x : Operand) (ho : o.op = .load T x) (g i : Nat) (hx : a.eval x = .pointer (some ⟨g, i, none⟩)) (part : List Value) (hr : w.rangeAt g i part) (hl : part.length = m)
    (h : wpList Try.prog ops Q rest (a.put o.dst (.agg part.toArray)) w) : wpList Try.prog ops Q (o :: rest) a w := by
  refine op_val hw _ _ ?_ h
  obtain ⟨d, h1, h2⟩ := hT
  have : (loadVar T ⟨g, i, none⟩).run Try.prog w = .ok (.agg part.toArray) w := run_loadVar_mid w g i _ part _ hr h1 h2 (by rw [hs]; simp [hl])
  simp [execOp, ho, hx, Instr.loadAt, Instr.sureAddr, this]
end
section
variable {ops : Array Oper} {o : Oper} {a : Act} {w : World} {S : World → Prop}
end
section
variable {ops : Array Oper} {o : Oper} {a : Act} {w : World} {K : Act → World → Prop} {Q : Exit → Act → World → Prop} {E : Prop}
/-- In a region that draws: an alloc and a store of a struct. -/
theorem step_newC (T n : Nat) (z : List Value) (hT : Srt T n z) (hgd : o.guard = none) (ho : o.op = .alloc T)
    (h : ∀ g w', w.heap.size ≤ g → g < w'.heap.size → Cs w' g z → Below w.heap.size w w' → K (a.put o.dst (.pointer (some ⟨g, 0, none⟩))) w') : if Region.wanted o (yielded ops a.tmps) = true then Oper.wp Try.prog o a w K Q else E := by
  have hw : Region.wanted o (yielded ops a.tmps) = true := by simp [Region.wanted, hgd]
  rw [if_pos hw]
  have hi : (Instr.alloc T true (.tuple #[])).run Try.prog w = .ok (.pointer (some ⟨w.heap.size, 0, none⟩)) (w.alloc (.cells z.toArray T)) := by
    unfold Instr.alloc; rw [Sem.run_bind, hT.zero]; rfl
  have hr : (execOp a.eval o).run Try.prog w = .ok (.value (.pointer (some ⟨w.heap.size, 0, none⟩))) (w.alloc (.cells z.toArray T)) := by
    simp only [execOp, ho, Sem.run_bind, hi]; rfl
  unfold Oper.wp
  rw [hr]
  exact h w.heap.size _ (Nat.le_refl _) (by simp) (Cs.made _ _ _ hT.one) ((Below.refl _ _).alloc (Nat.le_refl _) _)
theorem step_putC (T n : Nat) (z : List Value) (hT : Srt T n z) (hgd : o.guard = none) (x y : Operand) (ho : o.op = .store T x y) (g : Nat) (hx : a.eval x = .pointer (some ⟨g, 0, none⟩)) (cs' : List Value) (hy : a.eval y = .agg cs'.toArray) (hl' : cs'.length = n) (h1 : ∀ v ∈ cs', v.oneCell' = true) (cs : List Value) (hR : Cs w g cs) (hl : cs.length = n)
    (h : ∀ w', Cs w' g cs' → Stp (fun x => x = g) w w' → K (a.put o.dst undef) w') : if Region.wanted o (yielded ops a.tmps) = true then Oper.wp Try.prog o a w K Q else E := by
  have hw : Region.wanted o (yielded ops a.tmps) = true := by simp [Region.wanted, hgd]
  rw [if_pos hw]
  have hr : (execOp a.eval o).run Try.prog w = .ok .skip (w.setCells g 0 cs') := by
    simp only [execOp, ho, hx, hy, Instr.storeAt, Instr.sureAddr, Sem.run_bind, Sem.run_pure, Result.andThen_ok]
    rw [storeC hT hR hl cs' hl' h1]; rfl
  unfold Oper.wp
  rw [hr]
  exact h _ (hR.setCells cs' (by omega) h1) (stp_setCells _ _ _ _)
/-- In a region that draws: '[]byte{x, y}'. -/
theorem build_two (c d : UInt8) (w : World) : (Instr.buildSlice 28 2 #[(0, .int .u8 (c.toNat : Int)), (1, .int .u8 (d.toNat : Int))]).run Try.prog w = .ok (.slice (some ⟨w.heap.size, 0, none⟩) 2 2) (w.alloc (.cells (cells [c, d]).toArray 5)) := by kernel_rfl
theorem step_two {B : Nat} (hgd : o.guard = none) (x y : Operand) (ho : o.op = .buildSlice 28 2 #[(0, x), (1, y)]) (c d : UInt8) (hx : a.eval x = .int .u8 (c.toNat : Int)) (hy : a.eval y = .int .u8 (d.toNat : Int)) (hB : B ≤ w.heap.size)
    (h : ∀ g w', Own B w' g 2 [c, d] → Below w.heap.size w w' → K (a.put o.dst (.slice (some ⟨g, 0, none⟩) 2 2)) w') : if Region.wanted o (yielded ops a.tmps) = true then Oper.wp Try.prog o a w K Q else E := by
  have hw : Region.wanted o (yielded ops a.tmps) = true := by simp [Region.wanted, hgd]
  rw [if_pos hw]
  have hr : (execOp a.eval o).run Try.prog w = .ok (.value (.slice (some ⟨w.heap.size, 0, none⟩) 2 2)) (w.alloc (.cells (cells [c, d]).toArray 5)) := by
    simp [execOp, ho, hx, hy, build_two]
  unfold Oper.wp
  rw [hr]
  exact h w.heap.size _ (Own.of w [c, d] (cells [c, d]) rfl hB (by simp)) ((Below.refl _ _).alloc (Nat.le_refl _) _)
/-- In a region that draws: 'b[i] = x'. -/
theorem step_byte (hgd : o.guard = none) (x y : Operand) (ho : o.op = .store 5 x y) (g i : Nat) (hx : a.eval x = .pointer (some ⟨g, i, none⟩)) (z : UInt8) (hy : a.eval y = .int .u8 (z.toNat : Int)) (l : List UInt8) (hR : Row w g l) (hi : i < l.length)
    (h : ∀ w', Row w' g (l.set i z) → Stp (fun x => x = g) w w' → K (a.put o.dst undef) w') : if Region.wanted o (yielded ops a.tmps) = true then Oper.wp Try.prog o a w K Q else E := by
  have hw : Region.wanted o (yielded ops a.tmps) = true := by simp [Region.wanted, hgd]
  rw [if_pos hw]
  have hc := hR.cell i hi
  have hf := hR.frozen i
  have hs : (Try.prog.info? 5).map (·.size) = some 1 := by kernel_rfl
  have hu : Try.prog.underlying 5 = some (.int .u8) := by kernel_rfl
  have hr : (execOp a.eval o).run Try.prog w = .ok .skip (w.setCell ⟨g, i, none⟩ (.int .u8 (z.toNat : Int))) := by
    simp [execOp, ho, hx, hy, Instr.storeAt, Instr.sureAddr]
    go_simp
  unfold Oper.wp
  rw [hr]
  exact h _ (hR.set i z) ((Stp.refl (fun x => x = g) w).setCell (p := ⟨g, i, none⟩) (.inl rfl) _)
end
section
variable {fn : Func} {p u v : Tmp} {tmps : Array Value} {w : World} {g T n : Nat} {z cs : List Value} {x y : Value}
theorem retC (hT : Srt T n z) (h : fn.results = #[.cell p T]) (hp : tmps.getD p undef = .pointer (some ⟨g, 0, none⟩)) (hR : Cs w g cs) (hl : cs.length = n) : (results fn tmps).run Try.prog w = .ok (.agg cs.toArray) w := by
  have hp' : tmps[p]?.getD undef = .pointer (some ⟨g, 0, none⟩) := by simpa using hp
  simp [results, h, hp', asAddr, loadC hT hR hl]
end
theorem szU8 (w : World) : (sizeOf 5).run Try.prog w = .ok 1 w := by kernel_rfl
theorem szU16 (w : World) : (sizeOf 56).run Try.prog w = .ok 1 w := by kernel_rfl
theorem szU32 (w : World) : (sizeOf 69).run Try.prog w = .ok 1 w := by kernel_rfl
end Go.Proofs.Ytbmfoefapbakmaa
