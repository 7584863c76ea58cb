/-
  What pointers of layer 11, a function that one can range over, does: no statement is proved here.
-/
import Derived.RangeFuncNested
import Derived.RangeFuncBox
import Derived.RangeFuncBound
import Derived.RangeFuncCalls
import Derived.RangeFuncLeaves
import Derived.Shelf.Abstract
import Derived.Shelf.RegionOpen
import Derived.WalkKit
import Derived.OwnWalkIn
import Derived.TacticsInMore
import Derived.LoopNIn
import Derived.LoopIn
import Derived.Maps.AppendAt
import Derived.Test.YtaahljjmofjdmaaPtrA
namespace Go.Proofs.Ytaahljjmofjdmaa
open Go.ChangeShapes Go.WideShapes Go.ChangeAt Go.RowKit Go.Shelf
set_option linter.unusedVariables false
attribute [local go_sem] Oper.semAt_some

/-- Block g is a load, by its type. -/
def BxL (w : World) (g : Nat) (p : Ld) : Prop := w.heap[g]? = some (.cells p.cs.toArray 23 (0, 0))
theorem BxL.lt {w : World} {g : Nat} {p : Ld} (h : BxL w g p) : g < w.heap.size := (Array.getElem?_eq_some_iff.1 h).1
theorem BxL.row {w : World} {g : Nat} {p : Ld} (h : BxL w g p) : Row w g p.l := ⟨_, h⟩
theorem BxL.later {w w' : World} {g : Nat} {p : Ld} (h : BxL w g p) (k : Below w.heap.size w w') : BxL w' g p := (k.block g h.lt).trans h
/-- What a round keeps: the block g. -/
def Kg (g : Nat) (w w' : World) : Prop := w.heap.size ≤ w'.heap.size ∧ w'.heap[g]? = w.heap[g]?
theorem Kg.bx {w w' : World} {g : Nat} {p : Ld} (k : Kg g w w') (h : BxL w g p) : BxL w' g p := k.2.trans h
theorem Kg.trans {g : Nat} {a b c : World} (h : Kg g a b) (k : Kg g b c) : Kg g a c := ⟨Nat.le_trans h.1 k.1, k.2.trans h.2⟩
theorem grown_of {w w' : World} (b : Below w.heap.size w w') : w.grownBy w' none := ⟨b.os, b.tape, b.output, b.size, fun k hk _ => b.block k hk⟩
section
variable {F : Fence} {n : Nat} {ops : Array Oper} {rest : List Oper} {o : Oper} {a : Act} {w : World} {Q : Exit → Act → World → Prop}
theorem opI_val (hF : ∀ f, F.fn f) (hd : ∀ c, o.op ≠ .defer c) (hw : Region.wanted o (yielded ops a.tmps) = true) (v : Value) (w' : World) (hr : (execOp a.eval o).run Try.prog w = .ok (.value v) w') (h : wpListIn F n Try.prog ops Q rest (a.put o.dst v) w') : wpListIn F n Try.prog ops Q (o :: rest) a w := by
  refine wpListIn_step fun K hK => ?_
  rw [if_pos hw]
  refine ⟨fun f _ => hF f, ?_⟩
  rw [Oper.semAt_plain F _ _ hd, hr]
  exact hK _ _ h
theorem atI_boxL (hF : ∀ f, F.fn f) (hw : Region.wanted o (yielded ops a.tmps) = true) (x : Operand) (ho : o.op = .box 23 x) (p : Ld) (hx : a.eval x = .agg p.cs.toArray)
    (h : ∀ g w', w.heap.size ≤ g → BxL w' g p → Below w.heap.size w w' → wpListIn F n Try.prog ops Q rest (a.put o.dst (.pointer (some ⟨g, 0, none⟩))) w') : wpListIn F n Try.prog ops Q (o :: rest) a w := by
  refine opI_val hF (by rw [ho]; intro c hc; cases hc) hw _ _ ?_ (h w.heap.size (w.alloc (.cells p.cs.toArray 23)) (Nat.le_refl _) (heap_alloc_new w _) ((Below.refl _ _).alloc (Nat.le_refl _) _))
  have : (Instr.box 23 (.agg p.cs.toArray)).run Try.prog w = .ok (.pointer (some ⟨w.heap.size, 0, none⟩)) (w.alloc (.cells p.cs.toArray 23)) := by
    simp [Instr.box, newVar, Value.cells, go_sem]
  simp only [execOp, ho, hx, Sem.run_bind, this]; rfl
theorem atI_getL (hF : ∀ f, F.fn f) (hw : Region.wanted o (yielded ops a.tmps) = true) (x : Operand) (ho : o.op = .load 23 x) (g : Nat) (hx : a.eval x = .pointer (some ⟨g, 0, none⟩)) (p : Ld) (hR : BxL w g p)
    (h : wpListIn F n Try.prog ops Q rest (a.put o.dst (.agg p.cs.toArray)) w) : wpListIn F n Try.prog ops Q (o :: rest) a w := by
  refine opI_val hF (by rw [ho]; intro c hc; cases hc) hw _ _ ?_ h
  have : (loadVar 23 ⟨g, 0, none⟩).run Try.prog w = .ok (.agg p.cs.toArray) w := loadA arrL hR.row p.len
  simp [execOp, ho, hx, Instr.loadAt, Instr.sureAddr, this]
theorem at_boxT (hw : Region.wanted o (yielded ops a.tmps) = true) (x : Operand) (ho : o.op = .box 23 x) (p : Ld) (hx : a.eval x = .agg p.cs.toArray)
    (h : ∀ g w', w.heap.size ≤ g → BxL w' g p → Below w.heap.size w w' → wpList Try.prog ops Q rest (a.put o.dst (.pointer (some ⟨g, 0, none⟩))) w') : wpList Try.prog ops Q (o :: rest) a w := by
  refine op_val hw _ _ ?_ (h w.heap.size (w.alloc (.cells p.cs.toArray 23)) (Nat.le_refl _) (heap_alloc_new w _) ((Below.refl _ _).alloc (Nat.le_refl _) _))
  have : (Instr.box 23 (.agg p.cs.toArray)).run Try.prog w = .ok (.pointer (some ⟨w.heap.size, 0, none⟩)) (w.alloc (.cells p.cs.toArray 23)) := by
    simp [Instr.box, newVar, Value.cells, go_sem]
  simp only [execOp, ho, hx, Sem.run_bind, this]; rfl
end
theorem pointers_any (p : Ld) (w : World) : Calls Try.prog 27 #[.agg p.cs.toArray] w fun e w' => ∃ g, e = .returned (.func (.func 31) #[] #[.pointer (some ⟨g, 0, none⟩)]) ∧ w.heap.size ≤ g ∧ BxL w' g p ∧ Below w.heap.size w w' := by
  go_enter Try.func27, Try.ntmps27
  go_wp2_with (first
    | (refine at_boxT (by rfl) _ (by rfl) p (by rfl) ?_; intro g1 w1 a1 r1 b1))
  go_returns
  exact ⟨_, rfl, a1, r1, b1⟩
theorem wide_fn (f : FuncId) : Fence.wide.fn f := trivial
/-- The pointers of a load. -/
def allP (p : Ld) (k : Nat) : List UInt16 := uptoP (fun j => pt p.l (2 * j)) k
set_option maxRecDepth 100000 in
set_option maxHeartbeats 2000000 in
theorem pointers_stops (p : Ld) (g n : Nat) (hn : 1 ≤ n) (w : World) (hB : BxL w g p) :
    SeqStopsK Fence.wide n Try.prog 31 #[.pointer (some ⟨g, 0, none⟩)] (fun x : UInt16 => #[Value.int .u16 (x.toNat : Int)]) (Kg g) (fun ys => ys = allP p 27) (fun pre => ∃ k, k ≤ 27 ∧ pre = allP p k) 27 w := fun l J Jx W hW hJ hJx hY h0 => by
  have hBW := hB.later hW
  have hfn : Fence.wide.fn 23 := trivial
  refine callsIn_of_wp Try.func31 rfl trivial ?_ rfl
  simp only [Try.ntmps31, List.size_toArray, List.length_cons, List.length_nil, Nat.reduceAdd, Nat.reduceSub, Array.replicate_succ, Array.replicate_zero, List.push_toArray, List.append_toArray, List.nil_append, List.cons_append]
  gi_wp2
  gi_loopw [4] (fun i wr => ∃ k : Nat, k ≤ 27 ∧ i = .int .i64 k ∧ J (allP p k) wr ∧ BxL wr g p) (fun i _ => 27 - (intOf i).toNat)
  case atStart => exact ⟨0, by omega, rfl, h0, hBW⟩
  case round =>
    obtain ⟨k, hk, rfl, hJs, hx⟩ := hrel
    by_cases hlt : k < 27
    · have hlt' : (k : Int) < 27 := by omega
      gi_wp2_with (first
        | (refine atI_getL wide_fn (by rfl) _ (by rfl) g (by rfl) p hx ?_)
        | (gi_at_call 23; refine (callsIn_wide.2 (pointer_any p k _ (by omega))).mono ?_; rintro e w2 ⟨rfl, b2⟩
           have hJ2 := hJ _ _ _ none hJs (grown_of b2) (fun r e => by cases e)
           obtain ⟨fn, tmps, assign, body, hy, hR⟩ := hY _ (pt p.l (2 * k)) w2 hJ2 (by rw [allP, uptoP_len]; exact hlt)
           have hx2 := hx.later b2))
      refine hR.mono ?_
      rintro e W3 (⟨rfl, hJ3, hk3⟩ | ⟨rfl, hJx3⟩)
      · have hx3 := hk3.bx hx2
        have e3 : allP p k ++ [pt p.l (2 * k)] = allP p (k + 1) := (uptoP_succ _ k).symm
        rw [e3] at hJ3
        gi_wp2
        go_roundw
        case rel => exact ⟨k + 1, by omega, by go_num, hJ3, hx3⟩
        case measure => simp [intOf]; omega
      · gi_wp2
        refine bodyPost_ret (results_none rfl _ _ _) rfl ?_
        exact ⟨⟨_, rfl⟩, .inr ⟨_, ⟨k + 1, by omega, (uptoP_succ _ k).symm⟩, hJx3⟩⟩
    · obtain rfl : k = 27 := by omega
      gi_wp2
      go_end0
      exact ⟨⟨_, rfl⟩, .inl ⟨_, rfl, hJs⟩⟩
end Go.Proofs.Ytaahljjmofjdmaa
