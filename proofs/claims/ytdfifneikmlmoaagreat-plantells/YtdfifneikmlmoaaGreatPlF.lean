/-
  What Carry of layer 16 does: no statement is proved here.
-/
import Derived.Test.YtdfifneikmlmoaaGreatGrT
import Derived.RangeFuncNested
import Derived.RangeFuncBound
import Derived.RangeFuncCalls
import Derived.RangeFuncLeaves
import Derived.RangeFuncWrites
import Derived.Shelf.Abstract
import Derived.Shelf.RegionOpen
import Derived.OwnWalkIn
import Derived.TacticsInMore
import Derived.LoopNIn
import Derived.LoopIn
import Derived.Test.YtdfifneikmlmoaaGreatRgL
import Derived.Test.YtdfifneikmlmoaaGreatGsE
import Derived.Test.YtdfifneikmlmoaaGreatRgD
import Derived.Test.YtdfifneikmlmoaaGreatGrQ
import Derived.Test.YtdfifneikmlmoaaGreatPlA
import Derived.Test.YtdfifneikmlmoaaGreatGrN
namespace Go.Proofs.YtdfifneikmlmoaaGreat
open Go.ChangeShapes Go.WideShapes Go.ChangeAt Go.RowKit
set_option linter.unusedVariables false
set_option linter.unusedSimpArgs false

def pA : Pt := ⟨0, 3, 0, [1], 0, [], 0, 0, false⟩
def pB : Pt := ⟨0, 4, 0, [1], 0, [1], 0, 0, false⟩
def zA : GZ := GZ.new.add pA
def zB : GZ := zA.add pB
def zC : GZ := zB.wr [1]
def zD : GZ := zC.stl fun _ => true
theorem bldA (s : Sv) (w : World) : (Instr.build 54 #[(1, .int .i64 3), (3, .slice s.a s.n s.c)]).run Tryz.prog w = .ok (.agg (pA.cs s Sv.nil).toArray) w := by kernel_rfl
theorem bldB (s t : Sv) (w : World) : (Instr.build 54 #[(1, .int .i64 4), (3, .slice s.a s.n s.c), (5, .slice t.a t.n t.c)]).run Tryz.prog w = .ok (.agg (pB.cs s t).toArray) w := by kernel_rfl
section
variable {ops : Array Oper} {rest : List Oper} {o : Oper} {a : Act} {w : World} {Q : Exit → Act → World → Prop}
theorem at_bldPA (hw : Region.wanted o (yielded ops a.tmps) = true) (x y : Operand) (ho : o.op = .build 54 #[(1, x), (3, y)]) (s : Sv) (hx : a.eval x = .int .i64 3) (hy : a.eval y = .slice s.a s.n s.c)
    (h : wpList Tryz.prog ops Q rest (a.put o.dst (.agg (pA.cs s Sv.nil).toArray)) w) : wpList Tryz.prog ops Q (o :: rest) a w := by
  refine op_val hw _ _ ?_ h
  simp [execOp, ho, hx, hy, bldA]
theorem at_bldPB (hw : Region.wanted o (yielded ops a.tmps) = true) (x y z : Operand) (ho : o.op = .build 54 #[(1, x), (3, y), (5, z)]) (s t : Sv) (hx : a.eval x = .int .i64 4) (hy : a.eval y = .slice s.a s.n s.c) (hz : a.eval z = .slice t.a t.n t.c)
    (h : wpList Tryz.prog ops Q rest (a.put o.dst (.agg (pB.cs s t).toArray)) w) : wpList Tryz.prog ops Q (o :: rest) a w := by
  refine op_val hw _ _ ?_ h
  simp [execOp, ho, hx, hy, hz, bldB]
end
/-- Slices of one number. -/
theorem one_b (w : World) (x : Int) (hx : 0 ≤ x ∧ x ≤ 255) : BsS (w.alloc (.cells #[.int .u8 x] 5)) ⟨some ⟨w.heap.size, 0, none⟩, 1, 1⟩ [x] :=
  ⟨rfl, Nat.le_refl _, by show (1 : Nat) ≤ maxLen; decide, (fun e => by cases e), (fun y hy => by simp at hy; subst hy; exact hx), fun _ => ⟨w.heap.size, 0, rfl, fun i hi => by
    have : i = 0 := by simp only at hi; omega
    subst this; simp⟩⟩
theorem one_i (w : World) (x : Int) (hx : wfi x) : InsS (w.alloc (.cells #[.int .i64 x] 3)) ⟨some ⟨w.heap.size, 0, none⟩, 1, 1⟩ [x] :=
  ⟨⟨rfl, Nat.le_refl _, by show (1 : Nat) ≤ maxLen; decide, (fun y hy => by simp at hy; subst hy; exact hx), fun _ => ⟨w.heap.size, 0, rfl, fun i hi => by
    have : i = 0 := by simp only at hi; omega
    subst this; simp⟩⟩, (fun e => by cases e)⟩
theorem inE_at {N : Nat} {b n c : Nat} (h : N ≤ b) : InE (fun x => N ≤ x) ⟨some ⟨b, 0, none⟩, n, c⟩ := fun ad e _ => by injection e with e; subst e; exact h
theorem wfA : pA.wfp := ⟨wfi_of (by decide), wfi_of (by decide), wfi_of (by decide), wfi_of (by decide), wfi_of (by decide), wfi_of (by decide)⟩
theorem wfB : pB.wfp := ⟨wfi_of (by decide), wfi_of (by decide), wfi_of (by decide), wfi_of (by decide), wfi_of (by decide), wfi_of (by decide)⟩
end Go.Proofs.YtdfifneikmlmoaaGreat
namespace Go.Proofs.YtdfifneikmlmoaaGreat
open Go.ChangeShapes Go.WideShapes Go.ChangeAt Go.RowKit
set_option linter.unusedVariables false
set_option linter.unusedSimpArgs false

set_option maxRecDepth 100000
set_option maxHeartbeats 1000000
theorem add_nil (p : Pt) (d n : Sv) (w : World) : Calls Tryz.prog 24 #[.pointer none, .agg (p.cs d n).toArray] w fun e w' => e = .returned (.tuple #[.int .i64 0, .int .i64 1]) ∧ Below w.heap.size w w' := by
  have t1 : True := trivial
  go_enter Tryz.func24, Tryz.ntmps24
  go_wp2_with (first | (clear t1; refine at_boxP (by rfl) _ (by rfl) p d n (by rfl) ?_; intro g1 w1 a1 a2 r1 b1))
  go_returns
  exact ⟨rfl, b1⟩
theorem bld0 (w : World) : (Instr.build 54 #[]).run Tryz.prog w = .ok (.agg (Pt.zero.cs Sv.nil Sv.nil).toArray) w := by kernel_rfl
theorem at_bldP0 {ops : Array Oper} {rest : List Oper} {o : Oper} {a : Act} {w : World} {Q : Exit → Act → World → Prop} (hw : Region.wanted o (yielded ops a.tmps) = true) (ho : o.op = .build 54 #[]) (h : wpList Tryz.prog ops Q rest (a.put o.dst (.agg (Pt.zero.cs Sv.nil Sv.nil).toArray)) w) : wpList Tryz.prog ops Q (o :: rest) a w := by
  refine op_val hw _ _ ?_ h
  simp only [execOp, ho, Sem.run_bind, List.map_toArray, List.map_nil, bld0]; rfl
theorem get_nil (i : Int) (w : World) : Calls Tryz.prog 66 #[.pointer none, .int .i64 i] w fun e w' => e = .returned (.tuple #[.agg (Pt.zero.cs Sv.nil Sv.nil).toArray, .int .i64 1]) ∧ Below w.heap.size w w' := by
  have t1 : True := trivial
  have t2 : True := trivial
  have t3 : True := trivial
  go_enter Tryz.func66, Tryz.ntmps66
  go_wp2_with (first
    | (clear t1; refine at_newP (by rfl) (by rfl) ?_; intro g1 w1 a1 a2 r1 b1)
    | (clear t2; refine at_bldP0 (by rfl) (by rfl) ?_)
    | (clear t3; refine at_putP (by rfl) _ _ (by rfl) g1 (by rfl) Pt.zero Sv.nil Sv.nil (by rfl) _ r1 rfl ?_; intro w2 r2 s2))
  refine bodyPost_ret (retCt srtP rfl rfl rfl r2 rfl) rfl ⟨rfl, ?_⟩
  exact ((Stp.of_below b1 (fun _ => False)).next s2 (fun x e => .inr (by omega))).below (Nat.le_refl _) (fun x e => e.elim)
theorem write_nil (v : Value) (w : World) : Calls Tryz.prog 26 #[.pointer none, v] w fun e w' => e = .returned (.int .i64 1) ∧ w = w' := by
  go_enter Tryz.func26, Tryz.ntmps26
  go_wp2
  go_returns
  exact ⟨rfl, rfl⟩
theorem those_nil (v : Value) (w : World) : Calls Tryz.prog 38 #[.pointer none, v] w fun e w' => e = .returned (.slice none 0 0) ∧ w = w' := by
  go_enter Tryz.func38, Tryz.ntmps38
  go_wp2
  go_returns
  exact ⟨rfl, rfl⟩
theorem all_nil (w : World) : Calls Tryz.prog 13 #[.pointer none] w fun e w' => e = .returned (.slice none 0 0) ∧ w = w' := by
  go_enter Tryz.func13, Tryz.ntmps13
  go_wp2_with (first | (go_at_call 38; refine (those_nil _ _).mono ?_; rintro e w1 ⟨rfl, rfl⟩))
  go_returns
  exact ⟨rfl, rfl⟩
theorem written_nil (w : World) : Calls Tryz.prog 14 #[.pointer none] w fun e w' => e = .returned (.slice none 0 0) ∧ w = w' := by
  go_enter Tryz.func14, Tryz.ntmps14
  go_wp2_with (first | (go_at_call 38; refine (those_nil _ _).mono ?_; rintro e w1 ⟨rfl, rfl⟩))
  go_returns
  exact ⟨rfl, rfl⟩
theorem settle_nil (v : Value) (w : World) : Calls Tryz.prog 70 #[.pointer none, v] w fun e w' => e = .returned (.int .i64 0) ∧ w = w' := by
  go_enter Tryz.func70, Tryz.ntmps70
  go_wp2_with (first | (go_at_call 14; refine (written_nil _).mono ?_; rintro e w1 ⟨rfl, rfl⟩))
  refine wp_loop_rounds 1 ?_
  rw [rounds_succ]
  go_wp2
  go_returns
  exact ⟨rfl, rfl⟩
theorem settleAll_nil (w : World) : Calls Tryz.prog 42 #[.pointer none] w fun e w' => e = .returned (.int .i64 0) ∧ w = w' := by
  go_enter Tryz.func42, Tryz.ntmps42
  go_wp2_with (first | (go_at_call 70; refine (settle_nil _ _).mono ?_; rintro e w1 ⟨rfl, rfl⟩))
  go_returns
  exact ⟨rfl, rfl⟩
theorem ready_nil (x : Int) (w : World) : Calls Tryz.prog 41 #[.pointer none, .int .i64 x] w fun e w' => e = .returned (.slice none 0 0) ∧ w = w' := by
  go_enter Tryz.func41, Tryz.ntmps41
  go_wp2
  go_returns
  exact ⟨rfl, rfl⟩
theorem copy_nil (w : World) : Calls Tryz.prog 28 #[.pointer none] w fun e w' => e = .returned (.pointer none) ∧ w = w' := by
  go_enter Tryz.func28, Tryz.ntmps28
  go_wp2
  go_returns
  exact ⟨rfl, rfl⟩
end Go.Proofs.YtdfifneikmlmoaaGreat
namespace Go.Proofs.YtdfifneikmlmoaaGreat
open Go.ChangeShapes Go.WideShapes Go.ChangeAt Go.RowKit Go.Shelf
set_option linter.unusedVariables false
set_option linter.unusedSimpArgs false

theorem uSm : Tryz.prog.underlying 87 = some (.map 3 93) := by kernel_rfl
/-- Numbers as a set. -/
def stF (S : Int → Bool) : Int → Option Value := fun x => if S x then some (.agg #[]) else none
/-- Block b is a map of just the numbers of S, at most n. -/
def MpS (w : World) (b : Nat) (S : Int → Bool) (n : Nat) : Prop := ∃ D, w.ownsMap Tryz.prog 3 heldElem b n D ∧ Reads D (stF S)
section
variable {w w' : World} {b n : Nat} {S : Int → Bool} {F : Nat → Prop}
theorem MpS.lt (h : MpS w b S n) : b < w.heap.size := by obtain ⟨D, h, _⟩ := h; exact h.lt
theorem MpS.step (h : MpS w b S n) (k : Stp F w w') (hb : ¬ F b) : MpS w' b S n := by
  have hl := h.lt
  obtain ⟨D, ⟨es, clock, hh, rest⟩, hR⟩ := h
  exact ⟨D, ⟨es, clock, (k.block b hl hb).trans hh, rest⟩, hR⟩
theorem MpS.later (h : MpS w b S n) (k : Below w.heap.size w w') : MpS w' b S n := h.step (Stp.of_below k (fun _ => False)) id
theorem MpS.mp (h : MpS w b S n) (hn : n ≤ 4096) : MpI Tryz.prog 3 w b (stF S) := by obtain ⟨D, h1, h2⟩ := h; exact ⟨D, h1.mono hn, h2⟩
theorem MpS.made (w : World) : MpS (w.alloc (.map #[] 0)) w.heap.size (fun _ => false) 0 := ⟨_, World.ownsMap_made w Tryz.prog 3 heldElem, reads_empty⟩
theorem stF_put (S : Int → Bool) (k : Int) : upd (stF S) k (some (.agg #[])) = stF (fun x => S x || decide (x = k)) := by
  funext x; unfold upd stF
  by_cases e : x = k
  · simp [e]
  · simp [e]
theorem MpS.store (h : MpS w b S n) (hn : n < 4000) {k : Int} (hw : wfi k) : ∃ w', (Instr.mapUpdate 87 (.map (some b)) (.int .i64 k) (.agg #[])).run Tryz.prog w = .ok () w' ∧ MpS w' b (fun x => S x || decide (x = k)) (n + 1) ∧ Stp (fun x => x = b) w w' := by
  obtain ⟨D, h1, hR⟩ := h
  obtain ⟨w', r1, r2, r3⟩ := h1.store (Maps.int_keyed u3) uSm (by unfold maxLen; omega) (wfI hw u3) (val := .agg #[]) (d := .held (.agg #[])) (ps := []) rfl
  refine ⟨w', r1, ⟨_, r2, ?_⟩, turned_stp r3⟩
  rw [← stF_put]; exact hR.put h1.isMap k _
end
section
variable {ops : Array Oper} {rest : List Oper} {o : Oper} {a : Act} {w : World} {Q : Exit → Act → World → Prop}
theorem at_updS (hw : Region.wanted o (yielded ops a.tmps) = true) (m x y : Operand) (ho : o.op = .mapUpdate 87 m x y) (b n : Nat) (S : Int → Bool) (hm : a.eval m = .map (some b)) (k : Int) (hx : a.eval x = .int .i64 k) (hy : a.eval y = .agg #[]) (hM : MpS w b S n) (hn : n < 4000) (hk : wfi k)
    (h : ∀ w', MpS w' b (fun x => S x || decide (x = k)) (n + 1) → Stp (fun x => x = b) w w' → wpList Tryz.prog ops Q rest (a.put o.dst undef) w') : wpList Tryz.prog ops Q (o :: rest) a w := by
  obtain ⟨w', r1, r2, r3⟩ := hM.store hn hk
  refine op_unit hw _ ?_ (h w' r2 r3)
  simp [execOp, ho, hm, hx, hy, r1]
theorem bldE (w : World) : (Instr.build 93 #[]).run Tryz.prog w = .ok (.agg #[]) w := by kernel_rfl
theorem at_bldE (hw : Region.wanted o (yielded ops a.tmps) = true) (ho : o.op = .build 93 #[]) (h : wpList Tryz.prog ops Q rest (a.put o.dst (.agg #[])) w) : wpList Tryz.prog ops Q (o :: rest) a w := by
  refine op_val hw _ _ ?_ h
  simp only [execOp, ho, Sem.run_bind, List.map_toArray, List.map_nil, bldE]; rfl
end
set_option maxRecDepth 100000 in
set_option maxHeartbeats 2000000 in
theorem want_any {w : World} {b n : Nat} {S : Int → Bool} {s : Sv} {l : List Int} (hM : MpS w b S n) (hs : InsS w s l) (hl : n + l.length ≤ 3900) :
    Calls Tryz.prog 55 #[.map (some b), .slice s.a s.n s.c] w fun e w' => e = .returned (.tuple #[]) ∧ MpS w' b (fun x => S x || l.contains x) (n + l.length) ∧ Stp (fun x => x = b) w w' := by
  have hln := hs.i.len
  have hwf := hs.i.wf
  have hcell := hs.i.cell
  obtain ⟨sa, sn, sc⟩ := s
  simp only at hln hcell ⊢
  subst hln
  have hnc : ∀ p v, w.cell? p = some v → p.block ≠ b := fun p v hv e => by
    obtain ⟨D, ⟨es, clock, hh, _⟩, _⟩ := hM
    unfold World.cell? at hv; rw [e, hh] at hv; simp at hv
  go_enter Tryz.func55, Tryz.ntmps55
  go_wp2
  go_loopw [8] (fun x wr => ∃ k : Nat, k ≤ l.length ∧ x = .int .i64 (k : Int) ∧ MpS wr b (fun x => S x || (l.take k).contains x) (n + k) ∧ Stp (fun x => x = b) w wr) (fun x _ => l.length - (intOf x).toNat)
  case atStart =>
    refine ⟨0, Nat.zero_le _, rfl, ?_, Stp.refl _ _⟩
    have e : (fun x => S x || (l.take 0).contains x) = S := by funext x; simp
    rw [e]; exact hM
  case round =>
    obtain ⟨k, hk, rfl, hM4, st⟩ := hrel
    by_cases hkl : k < l.length
    · obtain ⟨bb, o, rfl, hcs⟩ := hcell (by omega)
      have ck := st.cell (hcs k hkl) (hnc _ _ (hcs k hkl))
      have hw0 : wfi (l.getD k 0) := by
        rw [List.getD_eq_getElem?_getD, List.getElem?_eq_getElem hkl]; exact hwf _ (List.getElem_mem _)
      have hT : (fun x => (S x || (l.take k).contains x) || decide (x = l.getD k 0)) = fun x => S x || (l.take (k + 1)).contains x := by
        funext x
        rw [List.take_add_one, List.getElem?_eq_getElem hkl, List.getD_eq_getElem?_getD, List.getElem?_eq_getElem hkl, Bool.or_assoc]
        congr 1
        rw [Bool.eq_iff_iff]
        simp only [Option.getD_some, Option.toList_some, Bool.or_eq_true, List.contains_iff_mem, decide_eq_true_eq, List.mem_append, List.mem_singleton]
      have hT' : Hid ((fun x => (S x || (l.take k).contains x) || decide (x = l.getD k 0)) = fun x => S x || (l.take (k + 1)).contains x) := hT
      clear hT hcs hcell
      generalize l.getD k 0 = y at *
      have a9 : (k : Int) < (l.length : Int) := by omega
      have t1 : True := trivial
      have t2 : True := trivial
      go_wp2_with (first
        | (clear t1; refine at_bldE (by rfl) (by rfl) ?_)
        | (clear t2; refine at_updS (by rfl) _ _ _ (by rfl) b (n + k) _ (by rfl) y (by rfl) (by rfl) hM4 (by omega) hw0 ?_; intro w5 m5 s5))
      go_roundw
      case rel => exact ⟨k + 1, by omega, by go_num, by rw [← hT'.out]; exact m5, st.trans s5⟩
      case measure => simp [intOf]; omega
    · have hk' : k = l.length := by omega
      subst hk'
      rw [List.take_length] at hM4
      go_wp2
      first | go_end0 | refine bodyPost_ret (results_none rfl _ _ _) rfl ?_
      exact ⟨rfl, hM4, st⟩
end Go.Proofs.YtdfifneikmlmoaaGreat
namespace Go.Proofs.YtdfifneikmlmoaaGreat
open Go.ChangeShapes Go.WideShapes Go.ChangeAt Go.RowKit Go.Shelf
set_option linter.unusedVariables false
set_option linter.unusedSimpArgs false
attribute [local go_sem] Oper.semAt_some

/-- What has come when those from j on have. -/
def bk {α : Type} (el : Nat → α) (len j : Nat) : List α := (((List.range len).drop j).reverse).map el
theorem bk_end {α : Type} (el : Nat → α) (len : Nat) : bk el len len = [] := by unfold bk; rw [List.drop_eq_nil_of_le (by simp)]; rfl
theorem bk_step {α : Type} (el : Nat → α) {len j : Nat} (h : j < len) : bk el len j = bk el len (j + 1) ++ [el j] := by
  unfold bk
  rw [List.drop_eq_getElem_cons (by simpa using h), List.reverse_cons, List.map_append]
  simp
theorem bk_len {α : Type} (el : Nat → α) (len j : Nat) : (bk el len j).length = len - j := by unfold bk; simp
/-- Two blocks are as they were. -/
def Kb (b c : Nat) (W W' : World) : Prop := W'.heap[b]? = W.heap[b]? ∧ W'.heap[c]? = W.heap[c]?
theorem Kb.refl (b c : Nat) (W : World) : Kb b c W W := ⟨rfl, rfl⟩
theorem Kb.trans {b c : Nat} {A B C : World} (h : Kb b c A B) (k : Kb b c B C) : Kb b c A C := ⟨k.1.trans h.1, k.2.trans h.2⟩
set_option maxRecDepth 100000 in
set_option maxHeartbeats 2000000 in
theorem back1_in {α : Type} (encs : α → Array Value) (el : Nat → α) (Fe : Fence) (n : Nat) (h57 : Fe.fn 77) (hro : Fe.round = none) (hn : 1 ≤ n) (l bx b off len cap : Nat) (zs : List Int) (hlen : len ≤ 100000) (hel : ∀ j, j < len → encs (el j) = #[.int .i64 (j : Int), .int .i64 (zs.getD j 0)]) (J Jx : List α → World → Prop)
    (hY : ∀ pre x W, J pre W → pre.length < len → YieldAt Fe (n - 1) Tryz.prog l (encs x) W fun e W' =>
      (e = .returned (.bool true) ∧ J (pre ++ [x]) W' ∧ Kb b bx W W') ∨ (e = .returned (.bool false) ∧ Jx (pre ++ [x]) W'))
    (W : World) (hbx : W.cell? ⟨bx, 0, none⟩ = some (.slice (some ⟨b, off, none⟩) len cap)) (hc : ∀ j, j < len → W.cell? ⟨b, off + j, none⟩ = some (.int .i64 (zs.getD j 0))) (h0 : J [] W) :
    CallsIn Fe n Tryz.prog 77 #[.func (.yield l) #[] #[], .pointer (some ⟨bx, 0, none⟩)] W fun e W' => (∃ v, e = .returned v) ∧
      ((∃ ys, ys = bk el len 0 ∧ J ys W') ∨ (∃ pre, True ∧ Jx pre W')) := by
  refine callsIn_of_wp Tryz.func77 rfl h57 ?_ hro
  simp only [Tryz.ntmps77, List.size_toArray, List.length_cons, List.length_nil, Nat.reduceAdd, Nat.reduceSub, Array.replicate_succ, Array.replicate_zero, List.push_toArray, List.append_toArray, List.nil_append, List.cons_append]
  gi_wp2
  gi_loopw [3] (fun i wr => ∃ j : Nat, j ≤ len ∧ i = .int .i64 ((j : Int) - 1) ∧ J (bk el len j) wr ∧ Kb b bx W wr)
    (fun i _ => (intOf i + 1).toNat)
  case atStart => exact ⟨len, Nat.le_refl _, by go_num, by rw [bk_end]; exact h0, Kb.refl _ _ _⟩
  case round =>
    obtain ⟨j, hj, rfl, hJs, hk⟩ := hrel
    cases j with
    | zero =>
      gi_wp2
      go_end0
      exact ⟨⟨_, rfl⟩, .inl ⟨_, rfl, hJs⟩⟩
    | succ j =>
      have hjl : j < len := by omega
      obtain ⟨fn, tmps, assign, body, hy, hR⟩ := hY _ (el j) wr hJs (by rw [bk_len]; omega)
      rw [hel j hjl] at hy
      have hcx : wr.cell? ⟨b, off + j, none⟩ = some (.int .i64 (zs.getD j 0)) := by rw [World.cell?_of_block (w := W) hk.1]; exact hc j hjl
      have hbx' : wr.cell? ⟨bx, 0, none⟩ = some (.slice (some ⟨b, off, none⟩) len cap) := by rw [World.cell?_of_block (w := W) hk.2]; exact hbx
      generalize zs.getD j 0 = y at *
      have a4 : ((j + 1 : Nat) : Int) - 1 = (j : Int) := by omega
      rw [a4]
      have a1 : (j : Int) < (len : Int) := by omega
      gi_wp2
      refine hR.mono ?_
      rintro e W3 (⟨rfl, hJ3, hk3⟩ | ⟨rfl, hJx3⟩)
      · gi_wp2
        go_roundw
        case rel => exact ⟨j, by omega, by go_num, by rw [bk_step el hjl]; exact hJ3, hk.trans hk3⟩
        case measure => simp [intOf]
      · gi_wp2
        refine bodyPost_ret (results_none rfl _ _ _) rfl ?_
        exact ⟨⟨_, rfl⟩, .inr ⟨_, trivial, hJx3⟩⟩
end Go.Proofs.YtdfifneikmlmoaaGreat
namespace Go.Proofs.YtdfifneikmlmoaaGreat
set_option linter.unusedVariables false
set_option linter.unusedSimpArgs false

/-- What is wanted, where c were chosen. -/
def wS (is : List Int) (c : List Pt) (x : Int) : Bool := is.contains x || c.any fun q => q.needs.contains x
theorem wS_snoc (is : List Int) (c : List Pt) (p : Pt) : wS is (c ++ [p]) = fun x => wS is c x || p.needs.contains x := by
  funext x
  unfold wS
  rw [List.any_append]
  simp [Bool.or_assoc]
theorem wS_nil (is : List Int) : wS is [] = fun x => false || is.contains x := by funext x; simp [wS]
theorem meet_comm (a b : Pt) : meet a b = meet b a := by
  unfold meet
  rw [show (a.at' == b.at') = (b.at' == a.at') from Bool.beq_comm, show (a.kind != b.kind) = (b.kind != a.kind) from bne_comm, Bool.and_comm (decide (a.off < b.off + (b.data.length : Int)))]
theorem meet_at {a b : Pt} (h : meet a b = true) : a.at' = b.at' := by
  unfold meet at h
  simp only [Bool.and_eq_true, beq_iff_eq] at h
  exact h.1
theorem wnt_split (is : List Int) (c : List Pt) (p : Pt) : wnt is c p = (wS is c p.id || (!p.wr && (wtP c p.at').any fun q => meet q p)) := by
  unfold wnt wS
  rw [Bool.or_assoc]
  congr 1
  rw [Bool.eq_iff_iff]
  simp only [List.any_eq_true, Bool.or_eq_true, Bool.and_eq_true, Bool.not_eq_true']
  constructor
  · rintro ⟨q, hq, h | ⟨⟨h1, h2⟩, h3⟩⟩
    · exact .inl ⟨q, hq, h⟩
    · refine .inr ⟨h2, q, wtP_mem.2 ⟨hq, (meet_at h3).symm, h1⟩, ?_⟩
      rw [meet_comm]; exact h3
  · rintro (⟨q, hq, h⟩ | ⟨h2, q, hq, h3⟩)
    · exact ⟨q, hq, .inl h⟩
    · obtain ⟨h4, h5, h6⟩ := wtP_mem.1 hq
      refine ⟨q, h4, .inr ⟨⟨h6, h2⟩, ?_⟩⟩
      rw [meet_comm]; exact h3
theorem wnt_rev (is : List Int) (c : List Pt) (p : Pt) : wnt is c.reverse p = wnt is c p := by
  unfold wnt; rw [List.any_reverse]
/-- One more. -/
def chS (is : List Int) (l : List Pt) {m : Nat} (c : List Pt) (x : Fin m) : List Pt := match l[x.1]? with
  | some p => if wnt is c p then c ++ [p] else c
  | none => c
def chL (is : List Int) (l : List Pt) {m : Nat} (pre : List (Fin m)) : List Pt := pre.foldl (chS is l) []
theorem chL_nil (is : List Int) (l : List Pt) (m : Nat) : chL is l ([] : List (Fin m)) = [] := rfl
theorem chL_snoc (is : List Int) (l : List Pt) {m : Nat} (pre : List (Fin m)) (x : Fin m) : chL is l (pre ++ [x]) = chS is l (chL is l pre) x := by unfold chL; rw [List.foldl_append]; rfl
theorem chS_yes {is : List Int} {l : List Pt} {m : Nat} {c : List Pt} {x : Fin m} {p : Pt} (h : l[x.1]? = some p) (hw : wnt is c p = true) : chS is l c x = c ++ [p] := by unfold chS; rw [h]; simp [hw]
theorem chS_no {is : List Int} {l : List Pt} {m : Nat} {c : List Pt} {x : Fin m} {p : Pt} (h : l[x.1]? = some p) (hw : wnt is c p = false) : chS is l c x = c := by unfold chS; rw [h]; simp [hw]
theorem chS_sub {is : List Int} {l : List Pt} {m : Nat} {c : List Pt} (x : Fin m) (hc : ∀ q ∈ c, q ∈ l) : ∀ q ∈ chS is l c x, q ∈ l := by
  unfold chS
  cases h : l[x.1]? with
  | none => exact hc
  | some p =>
    simp only
    split
    · intro q hq
      rcases List.mem_append.1 hq with hq | hq
      · exact hc q hq
      · rw [List.mem_singleton.1 hq]; exact List.mem_of_getElem? h
    · exact hc
theorem chS_len {is : List Int} {l : List Pt} {m : Nat} {c : List Pt} (x : Fin m) : (chS is l c x).length ≤ c.length + 1 := by
  unfold chS
  cases h : l[x.1]? with
  | none => simp
  | some p =>
    simp only
    split
    · simp
    · omega
theorem chL_foldS {is : List Int} {l : List Pt} {m : Nat} : ∀ (pre : List (Fin m)) (c : List Pt), (∀ q ∈ c, q ∈ l) → (∀ q ∈ pre.foldl (chS is l) c, q ∈ l) ∧ (pre.foldl (chS is l) c).length ≤ c.length + pre.length
  | [], c, h => ⟨h, by simp⟩
  | x :: r, c, h => by
    have := chL_foldS (is := is) r (chS is l c x) (chS_sub x h)
    have h2 := chS_len (is := is) (l := l) (c := c) x
    refine ⟨this.1, ?_⟩
    have := this.2
    simp only [List.foldl_cons, List.length_cons]
    omega
theorem chL_sub {is : List Int} {l : List Pt} {m : Nat} (pre : List (Fin m)) : ∀ q ∈ chL is l pre, q ∈ l := (chL_foldS pre [] (fun q h => by cases h)).1
theorem chL_len {is : List Int} {l : List Pt} {m : Nat} (pre : List (Fin m)) : (chL is l pre).length ≤ pre.length := by
  have := (chL_foldS (is := is) (l := l) pre [] (fun q h => by cases h)).2
  rw [List.length_nil, Nat.zero_add] at this
  exact this
theorem chL_all {is : List Int} {l : List Pt} (el : Nat → Fin l.length) (hel : ∀ j, j < l.length → (el j).1 = j) : ∀ d j, d + j = l.length → chL is l (bk el l.length j) = (nd is (l.drop j)).reverse
  | 0, j, h => by
    obtain rfl : j = l.length := by omega
    rw [bk_end, List.drop_length]; rfl
  | d + 1, j, h => by
    have hj : j < l.length := by omega
    rw [bk_step el hj, chL_snoc, chL_all el hel d (j + 1) (by omega)]
    have hg : l[(el j).1]? = some l[j] := by rw [hel j hj]; exact List.getElem?_eq_getElem hj
    have hn := nd_drop (is := is) (List.getElem?_eq_getElem hj)
    rw [hn]
    cases hw : wnt is (nd is (l.drop (j + 1))) l[j] with
    | true =>
      rw [chS_yes hg (by rw [wnt_rev]; exact hw)]
      simp
    | false =>
      rw [chS_no hg (by rw [wnt_rev]; exact hw)]
      simp
/-- What is laid in the map of shades. -/
def shF (c : List Pt) (s : Int) : Option Value := if wtP c s = [] then none else some (.agg (shC (shB (wtP c s)) (shK (wtP c s))).toArray)
theorem shF_get (c : List Pt) (s : Int) : (shF c s).getD (.agg (shC 0 0).toArray) = .agg (shC (shB (wtP c s)) (shK (wtP c s))).toArray := by
  unfold shF
  split
  · rename_i h; rw [h]; rfl
  · rfl
theorem shF_nil : shF [] = fun _ => none := by funext s; simp [shF, wtP]
theorem shF_put (c : List Pt) (p : Pt) (hp : p.wr = false) : shF (c ++ [p]) = upd (shF c) p.at' (some (.agg (shC (shB (wtP c p.at' ++ [p])) (shK (wtP c p.at' ++ [p]))).toArray)) := by
  funext s
  unfold shF upd
  rw [wtP_snoc c p s hp]
  by_cases e : s = p.at'
  · subst e; simp
  · simp [e]
theorem shF_same (c : List Pt) (p : Pt) (hp : p.wr = true) : shF (c ++ [p]) = shF c := by
  funext s
  unfold shF
  have : wtP (c ++ [p]) s = wtP c s := by unfold wtP; rw [List.filter_append]; simp [inS, hp]
  rw [this]
theorem shF_keys (c : List Pt) (hc : ∀ q ∈ c, fit q = true) (s : Int) (h : (shF c s).isSome = true) : 0 ≤ s ∧ s < 2048 := by
  unfold shF at h
  split at h
  · cases h
  · rename_i hne
    obtain ⟨q, hq⟩ := List.exists_mem_of_ne_nil _ hne
    obtain ⟨h1, h2, _⟩ := wtP_mem.1 hq
    have := fit_to (hc q h1)
    omega
end Go.Proofs.YtdfifneikmlmoaaGreat
namespace Go.Proofs.YtdfifneikmlmoaaGreat
set_option linter.unusedVariables false
set_option linter.unusedSimpArgs false

/-- The sectors of the next batch. -/
def bsS (is : List Int) (l : List Pt) : List Int := (secs l).filter fun s => (rdy l s).any fun x => (ids (nd is l)).contains x
/-- Whether a batch of these sectors is forced. -/
def frS (L : List Int) (l : List Pt) : Bool := decide (L.length = 1) && (thP l (·.wr)).all fun p => decide (p.at' = L.headD 0)
/-- What the sectors write, one behind the other. -/
def GZ.cr (Z : GZ) : List Int → GZ
  | [] => Z
  | s :: r => (Z.wr (rdy Z.l s)).cr r
def GZ.crO (Z : GZ) : List Int → List Int
  | [] => []
  | s :: r => rdy Z.l s ++ (Z.wr (rdy Z.l s)).crO r
def GZ.car (Z : GZ) (L : List Int) : GZ := (Z.cr L).stl fun _ => true
/-- Behind so many batches. -/
def GZ.aft (is : List Int) (Z : GZ) : Nat → GZ
  | 0 => Z
  | k + 1 => (Z.aft is k).car (bsS is (Z.aft is k).l)
/-- There are n batches. -/
def Ends (is : List Int) (Z : GZ) (n : Nat) : Prop := nd is (Z.aft is n).l = [] ∧ ∀ k, k < n → nd is (Z.aft is k).l ≠ []
/-- One batch. -/
structure Bt where
  s : List Int
  f : Bool
def nxB (is : List Int) (l : List Pt) : Bt := ⟨bsS is l, frS (bsS is l) l⟩
def btL (is : List Int) (Z : GZ) (n : Nat) : List Bt := (List.range n).map fun k => nxB is (Z.aft is k).l
/-- What is written has nothing in the graph that it needs. -/
def Wh (l : List Pt) : Prop := ∀ q ∈ l, q.wr = true → held l q = false

/-- Written, all that O has. -/
def setO (l : List Pt) (O : List Int) : List Pt := l.map fun p => if O.contains p.id then { p with wr := true } else p
theorem setO_nil (l : List Pt) : setO l [] = l := by
  unfold setO
  conv => rhs; rw [← List.map_id l]
  exact List.map_congr_left fun p _ => by simp
theorem setO_app (l : List Pt) (A B : List Int) : setO (setO l A) B = setO l (A ++ B) := by
  unfold setO
  rw [List.map_map]
  refine List.map_congr_left fun p _ => ?_
  have : (A ++ B).contains p.id = (A.contains p.id || B.contains p.id) := by rw [Bool.eq_iff_iff]; simp [List.contains_iff_mem]
  rw [this]
  cases hA : A.contains p.id <;> cases hB : B.contains p.id <;> simp only [Function.comp_apply, hA, hB, Bool.or_false, Bool.or_true, Bool.false_eq_true, if_true, if_false]
theorem setO_one (l : List Pt) (i : Int) : setW l i = setO l [i] := by
  unfold setO setW
  exact List.map_congr_left fun p _ => by by_cases e : p.id = i <;> simp [e]
theorem setO_ids (l : List Pt) (O : List Int) : ids (setO l O) = ids l := by
  unfold ids setO
  rw [List.map_map]
  exact List.map_congr_left fun p _ => by simp only [Function.comp]; split <;> rfl
theorem setO_has (l : List Pt) (O : List Int) (i : Int) : has (setO l O) i = has l i := by rw [has_ids, setO_ids, ← has_ids]
theorem setO_held (l : List Pt) (O : List Int) (p : Pt) : held (setO l O) p = held l p := by
  unfold held; congr 1; funext i; exact setO_has l O i
theorem setO_mem {l : List Pt} {O : List Int} {q : Pt} : q ∈ setO l O ↔ ∃ p ∈ l, q = if O.contains p.id then { p with wr := true } else p := by
  unfold setO
  rw [List.mem_map]
  constructor
  · rintro ⟨p, h1, h2⟩; exact ⟨p, h1, h2.symm⟩
  · rintro ⟨p, h1, h2⟩; exact ⟨p, h1, h2.symm⟩
/-- What is not written still was there, and was not written. -/
theorem setO_un {l : List Pt} {O : List Int} {q : Pt} (h : q ∈ setO l O) (hw : q.wr = false) : q ∈ l ∧ O.contains q.id = false := by
  obtain ⟨p, h1, h2⟩ := setO_mem.1 h
  by_cases e : O.contains p.id = true
  · rw [if_pos e] at h2; rw [h2] at hw; cases hw
  · rw [if_neg e] at h2; subst h2; exact ⟨h1, by simpa using e⟩
theorem setO_in {l : List Pt} {O : List Int} {q : Pt} (h : q ∈ l) (hO : O.contains q.id = false) : q ∈ setO l O := setO_mem.2 ⟨q, h, by rw [if_neg (by rw [hO]; simp)]⟩
theorem setO_rise {l : List Pt} (h : Rise l) (O : List Int) : Rise (setO l O) := by
  unfold Rise setO
  rw [List.pairwise_map]
  refine h.imp fun {a b} hab => ?_
  split <;> split <;> exact hab
theorem wr_setO : ∀ (L : List Int) (Z : GZ), Z.wrE L = 0 → (Z.wr L).l = setO Z.l L ∧ (Z.wr L).last = Z.last
  | [], Z, _ => ⟨(setO_nil _).symm, rfl⟩
  | i :: r, Z, h => by
    have h1 : wE Z.l i = 0 := by
      refine Decidable.byContradiction fun e => ?_
      unfold GZ.wrE at h; rw [if_neg e] at h; exact e h
    unfold GZ.wrE at h; rw [if_pos h1] at h
    have e1 : (Z.wr1 i).l = setW Z.l i ∧ (Z.wr1 i).last = Z.last := by unfold GZ.wr1; rw [if_pos h1]; exact ⟨rfl, rfl⟩
    have ih := wr_setO r (Z.wr1 i) h
    unfold GZ.wr; rw [if_pos h1, ih.1, ih.2, e1.1, e1.2, setO_one, setO_app]
    exact ⟨rfl, rfl⟩
theorem wr_rdy {Z : GZ} (h : Rise Z.l) (s : Int) : (Z.wr (rdy Z.l s)).l = setO Z.l (rdy Z.l s) ∧ (Z.wr (rdy Z.l s)).last = Z.last := wr_setO _ _ (wr_ready Z h s)
theorem cr_setO : ∀ (L : List Int) (Z : GZ), Rise Z.l → (Z.cr L).l = setO Z.l (Z.crO L) ∧ (Z.cr L).last = Z.last
  | [], Z, _ => ⟨(setO_nil _).symm, rfl⟩
  | s :: r, Z, h => by
    have e := wr_rdy h s
    have ih := cr_setO r (Z.wr (rdy Z.l s)) (by rw [e.1]; exact setO_rise h _)
    unfold GZ.cr GZ.crO
    rw [ih.1, ih.2, e.2, e.1, setO_app]
    exact ⟨rfl, rfl⟩
/-- What is left. -/
def lft (O : List Int) (p : Pt) : Bool := !p.wr && !O.contains p.id
theorem car_is (Z : GZ) (h : Rise Z.l) (L : List Int) : (Z.car L).l = Z.l.filter (lft (Z.crO L)) ∧ (Z.car L).last = Z.last := by
  refine ⟨?_, (cr_setO L Z h).2⟩
  unfold GZ.car GZ.stl
  simp only
  rw [(cr_setO L Z h).1]
  generalize Z.crO L = O
  generalize Z.l = l
  induction l with
  | nil => rfl
  | cons a t ih =>
    have e : setO (a :: t) O = (if O.contains a.id then { a with wr := true } else a) :: setO t O := by unfold setO; rw [List.map_cons]
    rw [e, List.filter_cons, List.filter_cons, ih]
    unfold lft
    cases h1 : O.contains a.id <;> cases h2 : a.wr <;> simp [h1, h2]
/-- Of those that are ready. -/
theorem rdS_facts (l : List Pt) : ∀ (W late : List Pt), Rise W → ∀ p ∈ rdS l late W, held l p = false ∧ (∀ a ∈ late, meet a p = false) ∧ ∀ a ∈ W, a.id < p.id → meet a p = true → a ∈ rdS l late W
  | [], late, _, p, h => by cases h
  | b :: r, late, hR, p, h => by
    unfold Rise at hR
    rw [List.pairwise_cons] at hR
    unfold rdS at h ⊢
    split at h
    · rename_i hc
      rw [if_pos hc]
      obtain ⟨h1, h2, h3⟩ := rdS_facts l r (late ++ [b]) hR.2 p h
      refine ⟨h1, fun a ha => h2 a (by simp [ha]), fun a ha hlt hm => ?_⟩
      rcases List.mem_cons.1 ha with rfl | ha
      · have := h2 a (by simp); rw [hm] at this; cases this
      · exact h3 a ha hlt hm
    · rename_i hc
      rw [if_neg hc]
      have hc1 : held l b = false ∧ late.any (fun q => meet q b) = false := by simpa using hc
      rcases List.mem_cons.1 h with rfl | h
      · refine ⟨hc1.1, fun a ha => ?_, fun a ha hlt hm => ?_⟩
        · have := List.any_eq_false.1 hc1.2 a ha
          simpa using this
        · rcases List.mem_cons.1 ha with rfl | ha
          · omega
          · have := hR.1 a ha; omega
      · obtain ⟨h1, h2, h3⟩ := rdS_facts l r late hR.2 p h
        refine ⟨h1, h2, fun a ha hlt hm => ?_⟩
        rcases List.mem_cons.1 ha with rfl | ha
        · exact List.mem_cons_self
        · exact List.mem_cons_of_mem _ (h3 a ha hlt hm)
theorem ids_mem {l : List Pt} {x : Int} : x ∈ ids l ↔ ∃ p ∈ l, p.id = x := by unfold ids; exact List.mem_map
theorem rdy_facts {l : List Pt} (hs : Rise l) {s x : Int} (h : x ∈ rdy l s) : ∃ p ∈ l, p.id = x ∧ p.at' = s ∧ p.wr = false ∧ held l p = false ∧ ∀ a ∈ l, a.id < p.id → a.wr = false → meet a p = true → a.id ∈ rdy l s := by
  obtain ⟨p, hp, hx⟩ := ids_mem.1 h
  have hW : Rise (wtP l s) := hs.filter _
  obtain ⟨h1, _, h3⟩ := rdS_facts l (wtP l s) [] hW p hp
  obtain ⟨q1, q2, q3⟩ := wtP_mem.1 (rdS_sub l _ _ p hp)
  refine ⟨p, q1, hx, q2, q3, h1, fun a ha hlt hw hm => ?_⟩
  exact ids_mem.2 ⟨a, h3 a (wtP_mem.2 ⟨ha, (meet_at hm).trans q2, hw⟩) hlt hm, rfl⟩
/-- One that nothing stands in the way of is ready. -/
theorem rdS_in (l : List Pt) (p : Pt) (hh : held l p = false) : ∀ (W late : List Pt), p ∈ W → Rise W → (∀ a ∈ late, meet a p = false) → (∀ a ∈ W, a.id < p.id → meet a p = false) → p ∈ rdS l late W
  | [], _, h, _, _, _ => by cases h
  | b :: r, late, h, hR, h1, h2 => by
    unfold Rise at hR
    rw [List.pairwise_cons] at hR
    unfold rdS
    rcases List.mem_cons.1 h with rfl | h
    · have : late.any (fun q => meet q p) = false := List.any_eq_false.2 (fun a ha => by rw [h1 a ha]; simp)
      rw [if_neg (by rw [hh, this]; simp)]
      exact List.mem_cons_self
    · have hlt := hR.1 p h
      split
      · refine rdS_in l p hh r (late ++ [b]) h hR.2 (fun a ha => ?_) (fun a ha => h2 a (by simp [ha]))
        rcases List.mem_append.1 ha with ha | ha
        · exact h1 a ha
        · rw [List.mem_singleton.1 ha]; exact h2 b (by simp) hlt
      · exact List.mem_cons_of_mem _ (rdS_in l p hh r late h hR.2 h1 (fun a ha => h2 a (by simp [ha])))
theorem rdy_in {l : List Pt} (hs : Rise l) {p : Pt} (hp : p ∈ l) (hw : p.wr = false) (hh : held l p = false) (h : ∀ a ∈ l, a.id < p.id → a.wr = false → meet a p = false) : p.id ∈ rdy l p.at' := by
  refine ids_mem.2 ⟨p, rdS_in l p hh _ [] (wtP_mem.2 ⟨hp, rfl, hw⟩) (hs.filter _) (fun a ha => by cases ha) (fun a ha hlt => ?_), rfl⟩
  obtain ⟨q1, q2, q3⟩ := wtP_mem.1 ha
  exact h a q1 hlt q3
/-- Of all that the sectors write. -/
theorem crO_facts : ∀ (L : List Int) (Z : GZ), Rise Z.l → ∀ x ∈ Z.crO L, ∃ p ∈ Z.l, p.id = x ∧ p.wr = false ∧ held Z.l p = false ∧ ∀ a ∈ Z.l, a.id < p.id → a.wr = false → meet a p = true → a.id ∈ Z.crO L
  | [], Z, _, x, h => by cases h
  | s :: r, Z, hs, x, h => by
    unfold GZ.crO at h ⊢
    by_cases hx : x ∈ rdy Z.l s
    · obtain ⟨p, h1, h2, _, h3, h4, h5⟩ := rdy_facts hs hx
      exact ⟨p, h1, h2, h3, h4, fun a ha hlt hw hm => List.mem_append.2 (.inl (h5 a ha hlt hw hm))⟩
    · rcases List.mem_append.1 h with h | h
      · exact absurd h hx
      · have e := (wr_rdy hs s).1
        have ih := crO_facts r (Z.wr (rdy Z.l s)) (by rw [e]; exact setO_rise hs _) x h
        rw [e] at ih
        obtain ⟨p, h1, h2, h3, h4, h5⟩ := ih
        obtain ⟨q1, q2⟩ := setO_un h1 h3
        refine ⟨p, q1, h2, h3, by rw [setO_held] at h4; exact h4, fun a ha hlt hw hm => ?_⟩
        by_cases ha' : a.id ∈ rdy Z.l s
        · exact List.mem_append.2 (.inl ha')
        · exact List.mem_append.2 (.inr (h5 a (setO_in ha (by simpa [List.contains_iff_mem] using ha')) hlt hw hm))
theorem crO_has (L : List Int) (Z : GZ) (h : Rise Z.l) : ∀ x ∈ Z.crO L, has Z.l x = true := by
  intro x hx
  obtain ⟨p, h1, h2, _⟩ := crO_facts L Z h x hx
  unfold has
  exact List.any_eq_true.2 ⟨p, h1, by simpa using h2⟩
/-- One that nothing stands in the way of is written, where its sector has a turn. -/
theorem crO_in : ∀ (L : List Int) (Z : GZ), Rise Z.l → ∀ p ∈ Z.l, p.wr = false → held Z.l p = false → (∀ a ∈ Z.l, a.id < p.id → a.wr = false → meet a p = false) → p.at' ∈ L → p.id ∈ Z.crO L
  | [], Z, _, p, _, _, _, _, h => by cases h
  | s :: r, Z, hs, p, hp, hw, hh, ha, h => by
    unfold GZ.crO
    by_cases hx : p.id ∈ rdy Z.l s
    · exact List.mem_append.2 (.inl hx)
    · rcases List.mem_cons.1 h with h | h
      · rw [← h] at hx; exact absurd (rdy_in hs hp hw hh ha) hx
      · have e := (wr_rdy hs s).1
        refine List.mem_append.2 (.inr (crO_in r (Z.wr (rdy Z.l s)) (by rw [e]; exact setO_rise hs _) p (by rw [e]; exact setO_in hp (by simpa [List.contains_iff_mem] using hx)) hw (by rw [e, setO_held]; exact hh) (fun a hq hlt hw' => ?_) h))
        rw [e] at hq
        exact ha a (setO_un hq hw').1 hlt hw'
theorem wnt_mono {is : List Int} {c c' : List Pt} (h : ∀ q ∈ c, q ∈ c') {a : Pt} (hw : wnt is c a = true) : wnt is c' a = true := by
  unfold wnt at hw ⊢
  rw [Bool.or_eq_true] at hw ⊢
  rcases hw with hw | hw
  · exact .inl hw
  · obtain ⟨q, h1, h2⟩ := List.any_eq_true.1 hw
    exact .inr (List.any_eq_true.2 ⟨q, h q h1, h2⟩)
theorem nd_filt (is : List Int) (P : Pt → Bool) : ∀ l : List Pt, (nd is (l.filter P)).Sublist ((nd is l).filter P)
  | [] => List.Sublist.refl _
  | a :: t => by
    have ih := nd_filt is P t
    rw [List.filter_cons]
    have mono : ∀ q ∈ nd is (t.filter P), q ∈ nd is t := fun q hq => (List.mem_filter.1 (ih.subset hq)).1
    by_cases hP : P a = true
    · rw [if_pos hP, nd, nd]
      by_cases h1 : wnt is (nd is (t.filter P)) a = true
      · rw [if_pos h1, if_pos (wnt_mono mono h1), List.filter_cons, if_pos hP]
        exact ih.cons_cons a
      · rw [if_neg h1]
        split
        · rw [List.filter_cons, if_pos hP]; exact ih.cons a
        · exact ih
    · rw [if_neg hP, nd]
      split
      · rw [List.filter_cons, if_neg hP]; exact ih
      · exact ih
/-- What is wanted stays so, where what wants it stays. -/
theorem nd_keep (is : List Int) (P : Pt → Bool) : ∀ l : List Pt, Rise l → (∀ a ∈ l, ∀ q ∈ l, a.id < q.id → P a = true → (q.needs.contains a.id || (!q.wr && !a.wr && meet a q)) = true → P q = true) → ∀ p ∈ nd is l, P p = true → p ∈ nd is (l.filter P)
  | [], _, _, p, h, _ => by cases h
  | a :: t, hR, hK, p, h, hP => by
    unfold Rise at hR
    rw [List.pairwise_cons] at hR
    have ih := nd_keep is P t hR.2 (fun b hb q hq => hK b (by simp [hb]) q (by simp [hq]))
    have tl : p ∈ nd is t → p ∈ nd is ((a :: t).filter P) := fun ht => by
      rw [List.filter_cons]
      split
      · rw [nd]
        split
        · exact List.mem_cons_of_mem _ (ih p ht hP)
        · exact ih p ht hP
      · exact ih p ht hP
    rw [nd] at h
    split at h
    · rename_i hw
      rcases List.mem_cons.1 h with rfl | h
      · rw [List.filter_cons, if_pos hP, nd]
        have : wnt is (nd is (t.filter P)) p = true := by
          unfold wnt at hw ⊢
          rw [Bool.or_eq_true] at hw ⊢
          rcases hw with hw | hw
          · exact .inl hw
          · obtain ⟨q, h1, h2⟩ := List.any_eq_true.1 hw
            have hq := nd_sub is t q h1
            exact .inr (List.any_eq_true.2 ⟨q, ih q h1 (hK p (by simp) q (by simp [hq]) (hR.1 q hq) hP h2), h2⟩)
        rw [if_pos this]
        exact List.mem_cons_self
      · exact tl h
    · exact tl h
/-- What one that is wanted wants is wanted. -/
theorem nd_close (is : List Int) : ∀ l : List Pt, Rise l → ∀ p ∈ nd is l, ∀ a ∈ l, a.id < p.id → (p.needs.contains a.id || (!p.wr && !a.wr && meet a p)) = true → a ∈ nd is l
  | [], _, p, h, _, _, _, _ => by cases h
  | b :: t, hR, p, h, a, ha, hlt, hc => by
    unfold Rise at hR
    rw [List.pairwise_cons] at hR
    have hpt : p ∈ nd is t := by
      rw [nd] at h
      split at h
      · rcases List.mem_cons.1 h with rfl | h
        · rcases List.mem_cons.1 ha with rfl | ha
          · omega
          · have := hR.1 a ha; omega
        · exact h
      · exact h
    rw [nd]
    rcases List.mem_cons.1 ha with rfl | ha
    · have : wnt is (nd is t) a = true := by
        unfold wnt
        rw [Bool.or_eq_true]
        exact .inr (List.any_eq_true.2 ⟨p, hpt, hc⟩)
      rw [if_pos this]
      exact List.mem_cons_self
    · have := nd_close is t hR.2 p hpt a ha hlt hc
      split
      · exact List.mem_cons_of_mem _ this
      · exact this
theorem nd_rise (is : List Int) : ∀ l : List Pt, Rise l → Rise (nd is l)
  | [], _ => List.Pairwise.nil
  | a :: t, h => by
    unfold Rise at h
    rw [List.pairwise_cons] at h
    rw [nd]
    split
    · exact List.Pairwise.cons (fun q hq => h.1 q (nd_sub is t q hq)) (nd_rise is t h.2)
    · exact nd_rise is t h.2
theorem has_mem {l : List Pt} {i : Int} (h : has l i = true) : ∃ q ∈ l, q.id = i := by
  unfold has at h
  obtain ⟨q, h1, h2⟩ := List.any_eq_true.1 h
  exact ⟨q, h1, by simpa using h2⟩
/-- The first one that is wanted goes. -/
theorem first_goes {Z : GZ} {t : Int} (hok : Z.ok t) {is : List Int} {p : Pt} {r : List Pt} (e : nd is Z.l = p :: r) : lft (Z.crO (bsS is Z.l)) p = false := by
  have hs : Rise Z.l := hok.srt
  have hp : p ∈ nd is Z.l := by rw [e]; simp
  have hpl := nd_sub is Z.l p hp
  have hmin : ∀ a ∈ nd is Z.l, ¬ a.id < p.id := by
    intro a ha hlt
    have hr := nd_rise is Z.l hs
    rw [e] at ha hr
    unfold Rise at hr
    rw [List.pairwise_cons] at hr
    rcases List.mem_cons.1 ha with rfl | ha
    · omega
    · have := hr.1 a ha; omega
  unfold lft
  cases hw : p.wr with
  | true => rfl
  | false =>
    have hh : held Z.l p = false := by
      unfold held
      rw [List.any_eq_false]
      intro x hx h
      obtain ⟨q, h1, h2⟩ := has_mem h
      have h3 := hok.nds p hpl x hx
      exact hmin q (nd_close is Z.l hs p hp q h1 (by omega) (by rw [h2]; simp [hx])) (by omega)
    have ha : ∀ a ∈ Z.l, a.id < p.id → a.wr = false → meet a p = false := by
      intro a h1 h2 h3
      cases hm : meet a p with
      | false => rfl
      | true => exact absurd h2 (hmin a (nd_close is Z.l hs p hp a h1 h2 (by simp [hw, h3, hm])))
    have hin : p.at' ∈ bsS is Z.l := by
      refine List.mem_filter.2 ⟨secs_mem.2 fun e' => ?_, List.any_eq_true.2 ⟨p.id, rdy_in hs hpl hw hh ha, ?_⟩⟩
      · have hm : p.id ∈ wts Z.l p.at' := wts_mem.2 ⟨p, hpl, rfl, rfl, hw⟩
        rw [e'] at hm; cases hm
      · rw [List.contains_iff_mem]; exact ids_mem.2 ⟨p, hp, rfl⟩
    have := crO_in (bsS is Z.l) Z hs p hpl hw hh ha hin
    have h2 : (Z.crO (bsS is Z.l)).contains p.id = true := by rw [List.contains_iff_mem]; exact this
    rw [h2]; rfl
theorem car_ok {Z : GZ} {t : Int} (h : Z.ok t) (L : List Int) : (Z.car L).ok t := by
  have e := car_is Z h.srt L
  have := h.filt (lft (Z.crO L))
  rw [← e.1, ← e.2] at this
  exact this
theorem car_less {Z : GZ} {t : Int} (hok : Z.ok t) {is : List Int} (h : nd is Z.l ≠ []) : (nd is (Z.car (bsS is Z.l)).l).length < (nd is Z.l).length := by
  obtain ⟨p, r, e⟩ := List.exists_cons_of_ne_nil h
  have h1 := first_goes hok e
  rw [(car_is Z hok.srt _).1]
  have h2 := (nd_filt is (lft (Z.crO (bsS is Z.l))) Z.l).length_le
  refine Nat.lt_of_le_of_lt h2 ?_
  rw [List.length_filter_lt_length_iff_exists]
  exact ⟨p, by rw [e]; simp, by rw [h1]; simp⟩
theorem aft_ok {Z : GZ} {t : Int} (h : Z.ok t) (is : List Int) : ∀ k, (Z.aft is k).ok t
  | 0 => h
  | k + 1 => car_ok (aft_ok h is k) _
theorem aft_less {Z : GZ} {t : Int} (h : Z.ok t) {is : List Int} : ∀ k, (∀ j, j < k → nd is (Z.aft is j).l ≠ []) → (nd is (Z.aft is k).l).length + k ≤ (nd is Z.l).length
  | 0, _ => Nat.le_refl _
  | k + 1, hj => by
    have := aft_less h k (fun j hk => hj j (by omega))
    have h2 := car_less (aft_ok h is k) (hj k (by omega))
    show (nd is ((Z.aft is k).car (bsS is (Z.aft is k).l)).l).length + (k + 1) ≤ _
    omega
theorem ends {Z : GZ} {t : Int} (h : Z.ok t) (is : List Int) : ∃ n, Ends is Z n ∧ n ≤ (nd is Z.l).length := by
  have key : ∀ d k, (nd is (Z.aft is k).l).length ≤ d → (∀ j, j < k → nd is (Z.aft is j).l ≠ []) → ∃ n, Ends is Z n := by
    intro d
    induction d with
    | zero => intro k hk hj; exact ⟨k, List.eq_nil_of_length_eq_zero (by omega), hj⟩
    | succ d ih =>
      intro k hk hj
      by_cases e : nd is (Z.aft is k).l = []
      · exact ⟨k, e, hj⟩
      · have h2 : (nd is (Z.aft is (k + 1)).l).length < (nd is (Z.aft is k).l).length := car_less (aft_ok h is k) e
        refine ih (k + 1) (by omega) (fun j hk' => ?_)
        by_cases e' : j = k
        · rw [e']; exact e
        · exact hj j (by omega)
  obtain ⟨n, hn⟩ := key _ 0 (Nat.le_refl _) (fun j hj => absurd hj (Nat.not_lt_zero _))
  exact ⟨n, hn, by have := aft_less h n hn.2; omega⟩
theorem car_un {Z : GZ} (h : Rise Z.l) (L : List Int) : ∀ p ∈ (Z.car L).l, p.wr = false := by
  intro p hp
  rw [(car_is Z h L).1] at hp
  have := (List.mem_filter.1 hp).2
  unfold lft at this
  cases hw : p.wr with
  | false => rfl
  | true => rw [hw] at this; simp at this
theorem car_keep {Z : GZ} {t : Int} (hok : Z.ok t) (hwh : Wh Z.l) (is L : List Int) {p : Pt} (hp : p ∈ nd is Z.l) (hl : p ∈ (Z.car L).l) : p ∈ nd is (Z.car L).l := by
  rw [(car_is Z hok.srt L).1] at hl ⊢
  refine nd_keep is _ Z.l hok.srt (fun a ha q hq hlt hPa hc => ?_) p hp (List.mem_filter.1 hl).2
  unfold lft at hPa ⊢
  have hPa' : a.wr = false ∧ (Z.crO L).contains a.id = false := by simpa using hPa
  rw [Bool.or_eq_true] at hc
  have ida : has Z.l a.id = true := List.any_eq_true.2 ⟨a, ha, by simp⟩
  cases hw : q.wr with
  | true =>
    rcases hc with hc | hc
    · have h1 := hwh q hq hw
      unfold held at h1
      exact absurd ida (List.any_eq_false.1 h1 a.id (List.contains_iff_mem.1 hc))
    · rw [hw] at hc; simp at hc
  | false =>
    cases hO : (Z.crO L).contains q.id with
    | false => rfl
    | true =>
      obtain ⟨q', h1, h2, h3, h4, h5⟩ := crO_facts L Z hok.srt q.id (List.contains_iff_mem.1 hO)
      obtain rfl : q' = q := same_id hok.srt hq h1 h2
      rcases hc with hc | hc
      · unfold held at h4
        exact absurd ida (List.any_eq_false.1 h4 a.id (List.contains_iff_mem.1 hc))
      · have hm : meet a q' = true := by simp at hc; exact hc.2
        have := h5 a ha hlt hPa'.1 hm
        rw [← List.contains_iff_mem, hPa'.2] at this
        cases this
theorem car_sub {Z : GZ} (h : Rise Z.l) (L : List Int) {p : Pt} (hp : p ∈ (Z.car L).l) : p ∈ Z.l := by
  rw [(car_is Z h L).1] at hp; exact (List.mem_filter.1 hp).1
theorem aft_keep {Z : GZ} {t : Int} (hok : Z.ok t) (hwh : Wh Z.l) (is : List Int) {p : Pt} (hp : p ∈ nd is Z.l) : ∀ k, p ∈ (Z.aft is k).l → p ∈ nd is (Z.aft is k).l
  | 0, _ => hp
  | k + 1, h => by
    have hk := aft_ok hok is k
    have h1 := car_sub hk.srt _ h
    refine car_keep hk ?_ is _ (aft_keep hok hwh is hp k h1) h
    cases k with
    | zero => exact hwh
    | succ k =>
      intro q hq hw
      have := car_un (aft_ok hok is k).srt _ q hq
      rw [hw] at this; cases this
theorem aft_sub {Z : GZ} {t : Int} (hok : Z.ok t) (is : List Int) {p : Pt} : ∀ k, p ∈ (Z.aft is k).l → p ∈ Z.l
  | 0, h => h
  | k + 1, h => aft_sub hok is k (car_sub (aft_ok hok is k).srt _ h)
/-- All that was wanted is gone. -/
theorem all_gone {Z : GZ} {t : Int} (hok : Z.ok t) (hwh : Wh Z.l) {is : List Int} {n : Nat} (hn : Ends is Z n) : ∀ x ∈ ids (nd is Z.l), has (Z.aft is n).l x = false := by
  intro x hx
  obtain ⟨p, hp, rfl⟩ := ids_mem.1 hx
  cases h : has (Z.aft is n).l p.id with
  | false => rfl
  | true =>
    obtain ⟨q, h1, h2⟩ := has_mem h
    obtain rfl : q = p := same_id hok.srt (nd_sub is _ p hp) (aft_sub hok is n h1) h2
    have := aft_keep hok hwh is hp n h1
    rw [hn.1] at this; cases this
end Go.Proofs.YtdfifneikmlmoaaGreat
namespace Go.Proofs.YtdfifneikmlmoaaGreat
open Go.ChangeShapes Go.WideShapes Go.ChangeAt Go.RowKit
set_option linter.unusedVariables false
set_option linter.unusedSimpArgs false

set_option maxRecDepth 100000 in
set_option maxHeartbeats 2000000 in
theorem get_any {w : World} {g mp mw : Nat} {f fw : Int → Option Value} {Z : GZ} {E F : Nat → Prop} (H : Gr w g mp mw f fw Z E F) (i : Int) (hi : wfi i) (hnl : ∀ p ∈ Z.l, p.needs.length ≤ 100000) :
    Calls Tryz.prog 66 #[.pointer (some ⟨g, 0, none⟩), .int .i64 i] w fun e w' => ∃ d n : Sv, e = .returned (.tuple #[.agg ((gt Z.l i).cs d n).toArray, .int .i64 (gE Z.l i)]) ∧ PtM w' (Made w w') (gt Z.l i) d n ∧ Below w.heap.size w w' := by
  have t1 : True := trivial
  have t2 : True := trivial
  have t3 : True := trivial
  have t4 : True := trivial
  have t5 : True := trivial
  have t6 : True := trivial
  obtain ⟨d4, n4, e4, m4, e5⟩ := H.look i
  have hdl : (gt Z.l i).data.length ≤ 100000 ∧ (gt Z.l i).needs.length ≤ 100000 := by
    unfold gt
    cases hf : fnd Z.l i with
    | none => exact ⟨Nat.zero_le _, Nat.zero_le _⟩
    | some p =>
      have := fit_to (H.ok.ft p (fnd_mem hf).1)
      exact ⟨by simp only [Option.getD_some]; omega, hnl p (fnd_mem hf).1⟩
  cases hh : has Z.l i with
  | false =>
    have eg : Hid (gt Z.l i = Pt.zero) := by
      show _ = _
      unfold gt
      rw [has_fnd] at hh
      cases hf : fnd Z.l i with
      | none => rfl
      | some p => rw [hf] at hh; cases hh
    have ee : Hid (gE Z.l i = 5) := (by unfold gE; rw [hh]; rfl : gE Z.l i = 5)
    rw [hh] at e5
    go_enter Tryz.func66, Tryz.ntmps66
    go_wp2_with (first
      | (clear t1; refine at_newP (by rfl) (by rfl) ?_; intro g1 w1 a1 a2 r1 b1; have H1 := H.later b1; obtain ⟨z0, z1, z2⟩ := H1.cells; have pm := H1.pm)
      | (clear t2; refine at_look2' 74 54 uPm _ zP (by rfl) _ _ (by rfl) mp f (by rfl) pm i (by rfl) hi _ e4 _ e5 ?_)
      | (clear t3; refine at_newP (by rfl) (by rfl) ?_; intro g2 w2 a3 a4 r2 b2)
      | (clear t4; refine at_putP (by rfl) _ _ (by rfl) g2 (by rfl) (gt Z.l i) d4 n4 (by rfl) _ r2 rfl ?_; intro w3 r3 s3; have r13 := (r1.later b2).step s3 (by omega))
      | (clear t5; refine at_putP (by rfl) _ _ (by rfl) g1 (by rfl) Pt.zero Sv.nil Sv.nil (by rfl) _ r13 rfl ?_; intro w4 r4 s4))
    refine bodyPost_ret (retCt srtP rfl rfl rfl r4 rfl) rfl ?_
    rw [eg.out, ee.out]
    exact ⟨Sv.nil, Sv.nil, rfl, PtM.zero _ _, (((Stp.of_below (bnext b1 b2 (Nat.le_refl _)) (fun _ => False)).next s3 (fun x e => .inr (by have := b1.size; omega))).next s4 (fun x e => .inr (by omega))).below (Nat.le_refl _) (fun x e => e.elim)⟩
  | true =>
    have ee : Hid (gE Z.l i = 0) := (by unfold gE; rw [hh]; rfl : gE Z.l i = 0)
    rw [hh] at e5
    generalize gt Z.l i = p at *
    go_enter Tryz.func66, Tryz.ntmps66
    go_wp2_with (first
      | (clear t1; refine at_newP (by rfl) (by rfl) ?_; intro g1 w1 a1 a2 r1 b1; have H1 := H.later b1; obtain ⟨z0, z1, z2⟩ := H1.cells; have pm := H1.pm)
      | (clear t2; refine at_look2' 74 54 uPm _ zP (by rfl) _ _ (by rfl) mp f (by rfl) pm i (by rfl) hi _ e4 _ e5 ?_)
      | (clear t3; refine at_newP (by rfl) (by rfl) ?_; intro g2 w2 a3 a4 r2 b2)
      | (clear t4; refine at_putP (by rfl) _ _ (by rfl) g2 (by rfl) p d4 n4 (by rfl) _ r2 rfl ?_; intro w3 r3 s3; have r13 := (r1.later b2).step s3 (by omega)
         have B3 : Below w.heap.size w w3 := ((Stp.of_below (bnext b1 b2 (Nat.le_refl _)) (fun _ => False)).next s3 (fun x e => .inr (by have := b1.size; omega))).below (Nat.le_refl _) (fun x e => e.elim)
         have m3 := m4.later B3)
      | (clear t5; refine at_getP0 (by rfl) _ (by rfl) g2 (by rfl) p d4 n4 r3 ?_)
      | (go_at_call 47; refine (own_any m3 hdl.1 hdl.2).mono ?_; rintro e w5 ⟨d', n', rfl, m5, b5⟩; have r5 := r13.later b5)
      | (clear t6; refine at_putP (by rfl) _ _ (by rfl) g1 (by rfl) p d' n' (by rfl) _ r5 rfl ?_; intro w6 r6 s6))
    have z1 := s6.size
    have z2 := B3.size
    have z3 := b5.size
    have z4 := r13.lt
    refine bodyPost_ret (retCt srtP rfl rfl rfl r6 rfl) rfl ?_
    rw [ee.out]
    exact ⟨d', n', rfl, (m5.step s6 (fun x hx e => by have := hx.1; omega)).mono (fun x hx => ⟨by have := hx.1; omega, by have := hx.2; omega⟩), ((Stp.of_below (bnext B3 b5 (Nat.le_refl _)) (fun _ => False)).next s6 (fun x e => .inr (by omega))).below (Nat.le_refl _) (fun x e => e.elim)⟩
end Go.Proofs.YtdfifneikmlmoaaGreat
namespace Go.Proofs.YtdfifneikmlmoaaGreat
open Go.ChangeShapes Go.WideShapes Go.ChangeAt Go.RowKit
set_option linter.unusedVariables false
set_option linter.unusedSimpArgs false

/-- The numbers of those of one sector. -/
def byS (c : List Pt) (s : Int) : List Int := ids (c.filter fun p => p.at' == s)
theorem byS_snoc (c : List Pt) (p : Pt) (s : Int) : byS (c ++ [p]) s = if s = p.at' then byS c s ++ [p.id] else byS c s := by
  unfold byS ids
  rw [List.filter_append, List.map_append]
  by_cases e : s = p.at'
  · subst e; simp
  · rw [if_neg e]
    have : (p.at' == s) = false := by simp; exact fun h => e h.symm
    simp [List.filter_cons, this]
theorem byS_mem {c : List Pt} {s x : Int} : x ∈ byS c s ↔ ∃ p ∈ c, p.at' = s ∧ p.id = x := by
  unfold byS
  rw [ids_mem]
  constructor
  · rintro ⟨p, h1, h2⟩
    have := List.mem_filter.1 h1
    exact ⟨p, this.1, by simpa using this.2, h2⟩
  · rintro ⟨p, h1, h2, h3⟩
    exact ⟨p, List.mem_filter.2 ⟨h1, by simpa using h2⟩, h3⟩
theorem byS_rise {c : List Pt} (h : Rise c) (s : Int) : (byS c s).Pairwise (· < ·) := by
  unfold byS ids
  rw [List.pairwise_map]
  exact h.filter _
theorem byS_len (c : List Pt) (s : Int) : (byS c s).length ≤ c.length := by unfold byS ids; rw [List.length_map]; exact List.length_filter_le _ _
/-- The map at m: numbers by sectors. -/
structure BsM (w : World) (N m : Nat) (fm : Int → Option Value) (c : List Pt) : Prop where
  mm : MpI Tryz.prog 3 w m fm
  nm : N ≤ m
  yes : ∀ s, byS c s ≠ [] → ∃ v, fm s = some v ∧ OwV w v (byS c s) ∧ ∀ r, v.ownBlock = some r → N ≤ r
  no : ∀ s, byS c s = [] → fm s = none
  ap : ∀ s s' v v' r, fm s = some v → fm s' = some v' → v.ownBlock = some r → v'.ownBlock = some r → s = s'
section
variable {w w' : World} {N m : Nat} {fm : Int → Option Value} {c : List Pt}
theorem BsM.later (h : BsM w N m fm c) (k : Below w.heap.size w w') : BsM w' N m fm c :=
  ⟨h.mm.later k, h.nm, fun s hs => by obtain ⟨v, h1, h2, h3⟩ := h.yes s hs; exact ⟨v, h1, h2.later k, h3⟩, h.no, h.ap⟩
theorem BsM.keys (h : BsM w N m fm c) (hc : ∀ p ∈ c, 0 ≤ p.at' ∧ p.at' < 2048) : ∀ k, (fm k).isSome → 0 ≤ k ∧ k < 2048 := fun k hk => by
  by_cases e : byS c k = []
  · rw [h.no k e] at hk; cases hk
  · obtain ⟨x, hx⟩ := List.exists_mem_of_ne_nil _ e
    obtain ⟨p, h1, h2, _⟩ := byS_mem.1 hx
    rw [← h2]; exact hc p h1
theorem BsM.look (h : BsM w N m fm c) (s : Int) : ∃ v, (fm s).getD (.slice none 0 0) = v ∧ OwV w v (byS c s) ∧ ∀ r, v.ownBlock = some r → N ≤ r := by
  by_cases e : byS c s = []
  · rw [h.no s e, e]; exact ⟨_, rfl, OwV.nil w, (fun r hr => by cases hr)⟩
  · obtain ⟨v, h1, h2, h3⟩ := h.yes s e
    rw [h1]; exact ⟨v, rfl, h2, h3⟩
/-- One more. -/
theorem BsM.more {w1 w2 : World} {p : Pt} {v v' : Value} (h : BsM w N m fm c) (hv : (fm p.at').getD (.slice none 0 0) = v) (s1 : Stp (fun x => v.ownBlock = some x) w w1) (o1 : OwV w1 v' (byS c p.at' ++ [p.id])) (hb : ∀ r, v'.ownBlock = some r → v.ownBlock = some r ∨ (w.heap.size ≤ r ∧ r < w1.heap.size)) (hN : N ≤ w.heap.size) (s2 : Stp (fun x => x = m) w1 w2) (m2 : MpI Tryz.prog 3 w2 m (upd fm p.at' (some v'))) : BsM w2 N m (upd fm p.at' (some v')) (c ++ [p]) := by
  have hv' : ∀ r, v.ownBlock = some r → fm p.at' = some v ∧ N ≤ r ∧ r < w.heap.size := fun r hr => by
    cases hf : fm p.at' with
    | none => rw [hf] at hv; subst hv; cases hr
    | some u =>
      rw [hf] at hv
      have hu : u = v := hv
      subst hu
      by_cases e : byS c p.at' = []
      · rw [h.no _ e] at hf; cases hf
      · obtain ⟨u', k1, k2, k3⟩ := h.yes _ e
        rw [hf] at k1; injection k1 with k1; subst k1
        exact ⟨rfl, k3 r hr, k2.lt hr⟩
  have oth : ∀ s u, s ≠ p.at' → fm s = some u → OwV w2 u (byS c s) ∧ ∀ r, u.ownBlock = some r → N ≤ r ∧ r < w.heap.size ∧ v.ownBlock ≠ some r := fun s u hs hu => by
    by_cases e : byS c s = []
    · rw [h.no _ e] at hu; cases hu
    · obtain ⟨u', k1, k2, k3⟩ := h.yes _ e
      rw [hu] at k1; injection k1 with k1; subst k1
      have hd : ∀ r, u.ownBlock = some r → v.ownBlock ≠ some r := fun r hr hr' => hs (h.ap s p.at' u v r hu (hv' r hr').1 hr hr')
      exact ⟨(k2.step s1 (fun r hr => hd r hr)).step s2 (fun r hr e => k2.map_ne h.mm (by rw [hr, e])), fun r hr => ⟨k3 r hr, k2.lt hr, hd r hr⟩⟩
  have o2 : OwV w2 v' (byS c p.at' ++ [p.id]) := o1.step s2 (fun r hr e => by
    rcases hb r hr with q | q
    · have hf := (hv' r q).1
      by_cases e' : byS c p.at' = []
      · rw [h.no _ e'] at hf; cases hf
      · obtain ⟨u', k1, k2, k3⟩ := h.yes _ e'
        rw [hf] at k1; injection k1 with k1; subst k1
        exact k2.map_ne h.mm (by rw [q, e])
    · have := h.mm.lt; omega)
  have key : ∀ s u, upd fm p.at' (some v') s = some u → s = p.at' ∧ u = v' ∨ s ≠ p.at' ∧ fm s = some u := fun s u hu => by
    by_cases e : s = p.at'
    · left; refine ⟨e, ?_⟩; subst e; simp [upd] at hu; exact hu.symm
    · right; exact ⟨e, by simpa [upd, e] using hu⟩
  have hN' : ∀ r, v'.ownBlock = some r → N ≤ r := fun r hr => by
    rcases hb r hr with q | q
    · exact (hv' r q).2.1
    · omega
  refine ⟨m2, h.nm, fun s hs => ?_, fun s hs => ?_, fun s s' a b r h1 h2 h3 h4 => ?_⟩
  · rw [byS_snoc] at hs ⊢
    by_cases e : s = p.at'
    · subst e; rw [if_pos rfl]; exact ⟨v', by simp [upd], o2, hN'⟩
    · rw [if_neg e] at hs ⊢
      obtain ⟨u, k1, k2, k3⟩ := h.yes s hs
      exact ⟨u, by simp [upd, e, k1], (oth s u e k1).1, k3⟩
  · rw [byS_snoc] at hs
    by_cases e : s = p.at'
    · rw [if_pos e] at hs; simp at hs
    · rw [if_neg e] at hs; simp [upd, e, h.no s hs]
  · rcases key s a h1 with ⟨e1, e2⟩ | ⟨e1, e2⟩ <;> rcases key s' b h2 with ⟨e3, e4⟩ | ⟨e3, e4⟩
    · rw [e1, e3]
    · subst e2
      obtain ⟨_, k⟩ := oth s' b e3 e4
      obtain ⟨k1, k2, k3⟩ := k r h4
      rcases hb r h3 with q | q
      · exact absurd q k3
      · omega
    · subst e4
      obtain ⟨_, k⟩ := oth s a e1 e2
      obtain ⟨k1, k2, k3⟩ := k r h3
      rcases hb r h4 with q | q
      · exact absurd q k3
      · omega
    · exact h.ap s s' a b r e2 e4 h3 h4
end
set_option maxRecDepth 100000 in
set_option maxHeartbeats 4000000 in
theorem bySectors_any {w : World} {g mp mw : Nat} {f fw : Int → Option Value} {Z : GZ} {E F : Nat → Prop} (H : Gr w g mp mw f fw Z E F) (hnl : ∀ p ∈ Z.l, p.needs.length ≤ 100000) {c : List Pt} (hc : ∀ p ∈ c, p ∈ Z.l) (hcl : c.length ≤ 2000) {s : Sv} (hs : InsS w s (ids c)) :
    Calls Tryz.prog 60 #[.pointer (some ⟨g, 0, none⟩), .slice s.a s.n s.c] w fun e w' => ∃ m fm, e = .returned (.map (some m)) ∧ BsM w' w.heap.size m fm c ∧ Below w.heap.size w w' := by
  have hl := hs.i.len
  have hil : (ids c).length = c.length := by unfold ids; rw [List.length_map]
  have hat : Hid (∀ p ∈ c, 0 ≤ p.at' ∧ p.at' < 2048) := fun p hp => by have := fit_to (H.ok.ft p (hc p hp)); omega
  obtain ⟨na, nn, nc⟩ := s
  have t1 : True := trivial
  go_enter Tryz.func60, Tryz.ntmps60
  go_wp2_with (first
    | (clear t1; refine at_makeM 75 (by rfl) (by rfl) ?_; intro m w1 a1 m1 b1))
  have st : BsM w1 w.heap.size m (fun _ => none) [] := ⟨m1, a1, (fun s h => absurd rfl h), fun _ _ => rfl, (fun s s' v v' r h => by cases h)⟩
  clear m1
  go_loopw [13] (fun v wr => ∃ k : Nat, k ≤ c.length ∧ v = .int .i64 (k : Int) ∧ Below w.heap.size w wr ∧ ∃ fm, BsM wr w.heap.size m fm (c.take k)) (fun v _ => c.length - (intOf v).toNat)
  case atStart => exact ⟨0, Nat.zero_le _, rfl, b1, _, st⟩
  case round =>
    clear st
    obtain ⟨k, hk, rfl, hb, fm, I⟩ := hrel
    by_cases hlt : k < c.length
    · have h2 := hs.later hb
      obtain ⟨b, o, e, hcs⟩ := h2.i.cell (by simp only at hl ⊢; omega)
      have ck := hcs k (by simp only at hl ⊢; omega)
      simp only at e
      subst e
      have hp : c[k] ∈ Z.l := hc _ (List.getElem_mem _)
      have hT : Hid (c.take (k + 1) = c.take k ++ [c[k]]) := by
        show _ = _
        rw [List.take_add_one, List.getElem?_eq_getElem hlt]; rfl
      have eid : (ids c).getD k 0 = (c[k]).id := by
        unfold ids
        rw [List.getD_eq_getElem?_getD, List.getElem?_map, List.getElem?_eq_getElem hlt]; rfl
      rw [eid] at ck
      have hwf := H.ok.wfp hp
      have H2 := H.later hb
      have hG := get_any H2 (c[k]).id hwf.i hnl
      have egt : gt Z.l (c[k]).id = c[k] := by unfold gt; rw [fnd_of H.ok.srt hp]; rfl
      rw [egt] at hG
      clear hcs h2 eid egt
      have hps : wfi (c[k]).at' := hwf.s
      have hck : Hid (∀ p ∈ c.take k, 0 ≤ p.at' ∧ p.at' < 2048) := fun p hp => hat.out p (List.mem_of_mem_take hp)
      have hle : (byS (c.take k) (c[k]).at').length + 1 ≤ 1000000 := by
        have := byS_len (c.take k) (c[k]).at'
        rw [List.length_take] at this; omega
      have hle' : Hid ((byS (c.take k) (c[k]).at').length + 1 ≤ 1000000) := hle
      clear hle
      generalize c[k] = p at *
      generalize gE Z.l p.id = ge at *
      have a3 : (k : Int) < (nn : Int) := by omega
      have t2 : True := trivial
      have t3 : True := trivial
      go_wp2_with (first
        | (go_at_call 66; refine hG.mono ?_; rintro e w4 ⟨d, n, rfl, m4, b4⟩; clear hG)
        | (clear t2; refine at_newP (by rfl) (by rfl) ?_; intro g5 w5 a5 a6 r5 b5)
        | (clear t3; refine at_putP (by rfl) _ _ (by rfl) g5 (by rfl) p d n (by rfl) _ r5 rfl ?_; intro w6 r6 s6))
      have B5 := bnext (bnext hb b4 (Nat.le_refl _)) b5 (Nat.le_refl _)
      have B6 : Below w.heap.size w w6 := ((Stp.of_below B5 (fun _ => False)).next s6 (fun x e => .inr (by have := (bnext hb b4 (Nat.le_refl _)).size; omega))).below (Nat.le_refl _) (fun x e => e.elim)
      have B46 : Below wr.heap.size wr w6 := ((Stp.of_below (bnext b4 b5 (Nat.le_refl _)) (fun _ => False)).next s6 (fun x e => .inr (by have := b4.size; omega))).below (Nat.le_refl _) (fun x e => e.elim)
      have I6 := I.later B46
      obtain ⟨v, ev, ov, hob⟩ := I6.look p.at'
      obtain ⟨va, vn, vc, rfl⟩ := ov.shape
      have hgm : g5 ≠ m := by have := I.mm.lt; have := b4.size; omega
      have hog : (Value.slice va vn vc).ownBlock ≠ some g5 := fun e => by
        cases hf : fm p.at' with
        | none => rw [hf] at ev; cases ev; cases e
        | some u =>
          rw [hf] at ev
          have hu : u = .slice va vn vc := ev
          subst hu
          by_cases e' : byS (c.take k) p.at' = []
          · rw [I.no _ e'] at hf; cases hf
          · obtain ⟨u', k1, k2, k3⟩ := I.yes _ e'
            rw [hf] at k1; injection k1 with k1; subst k1
            have := k2.lt e; have := b4.size; omega
      have hom := ov.map_ne I6.mm
      have mm6 := I6.mm
      have hKy := I6.keys hck.out
      have hKy' : Hid (∀ k, (fm k).isSome → 0 ≤ k ∧ k < 2048) := hKy
      have hw6 : w.heap.size ≤ w6.heap.size := B6.size
      clear hKy b4 b5 s6 r5 m4 B5 a5 a6
      have hvn : vn = (byS (c.take k) p.at').length := by
        rcases ov.row with ⟨e1, e2⟩ | ⟨_, _, _, e1, _⟩
        · rw [e2]; cases e1; rfl
        · cases e1; rfl
      subst hvn
      refine wp_region_last (S := fun u => Stp (fun x => (Value.slice va (byS (c.take k) p.at').length vc).ownBlock = some x) w6 u) _ _ (by simp only [List.pop_toArray, List.dropLast_cons_cons, List.dropLast_singleton]; rfl) (by simp only [List.back?_toArray, List.getLast?_cons_cons, List.getLast?_singleton]; rfl) (by kernel_rfl) (by kernel_rfl) (Stp.refl _ _).drew (fun hHeld => ?_)
      refine wpAnyH_take (i := 0) (oi := { dst := some 23, op := Op.move (Operand.tmp 5), type := 75, pos := _, after := #[], guard := none }) (v := .map (some m)) rfl (by kernel_rfl) (by kernel_rfl) (by kernel_rfl) (fun _ _ _ h => h) (Or.inl ⟨by rfl, ?_⟩) hHeld ?_
      · intro u hu
        go_simp
      try simp only [Act.put, List.setIfInBounds_toArray, List.set_cons_zero, List.set_cons_succ]
      refine wpAnyH_take (i := 1) (oi := { dst := some 24, op := Op.fieldAddr 54 (Operand.tmp 8) 1, type := 0, pos := _, after := #[], guard := none }) (v := .pointer (some ⟨g5, 1, none⟩)) rfl (by kernel_rfl) (by kernel_rfl) (by kernel_rfl) (fun _ _ _ h => h) (Or.inl ⟨by rfl, ?_⟩) hHeld ?_
      · intro u hu
        go_simp
      try simp only [Act.put, List.setIfInBounds_toArray, List.set_cons_zero, List.set_cons_succ]
      refine wpAnyH_take (i := 2) (oi := { dst := some 25, op := Op.load 3 (Operand.tmp 24), type := 3, pos := _, after := #[{ on := 1, ground := Ground.data }], guard := none }) (v := .int .i64 p.at') rfl (by kernel_rfl) (by kernel_rfl) (by kernel_rfl) (fun _ _ _ h => h) (Or.inl ⟨by rfl, ?_⟩) hHeld ?_
      · intro u hu
        have x1 := (Pt.cells (r6.step hu hog)).2.1; go_simp
      try simp only [Act.put, List.setIfInBounds_toArray, List.set_cons_zero, List.set_cons_succ]
      refine wpAnyH_take (i := 3) (oi := { dst := some 26, op := Op.move (Operand.tmp 5), type := 75, pos := _, after := #[], guard := none }) (v := .map (some m)) rfl (by kernel_rfl) (by kernel_rfl) (by kernel_rfl) (fun _ _ _ h => h) (Or.inl ⟨by rfl, ?_⟩) hHeld ?_
      · intro u hu
        go_simp
      try simp only [Act.put, List.setIfInBounds_toArray, List.set_cons_zero, List.set_cons_succ]
      refine wpAnyH_take (i := 4) (oi := { dst := some 27, op := Op.fieldAddr 54 (Operand.tmp 8) 1, type := 0, pos := _, after := #[], guard := none }) (v := .pointer (some ⟨g5, 1, none⟩)) rfl (by kernel_rfl) (by kernel_rfl) (by kernel_rfl) (fun _ _ _ h => h) (Or.inl ⟨by rfl, ?_⟩) hHeld ?_
      · intro u hu
        go_simp
      try simp only [Act.put, List.setIfInBounds_toArray, List.set_cons_zero, List.set_cons_succ]
      refine wpAnyH_take (i := 5) (oi := { dst := some 28, op := Op.load 3 (Operand.tmp 27), type := 3, pos := _, after := #[{ on := 4, ground := Ground.data }], guard := none }) (v := .int .i64 p.at') rfl (by kernel_rfl) (by kernel_rfl) (by kernel_rfl) (fun _ _ _ h => h) (Or.inl ⟨by rfl, ?_⟩) hHeld ?_
      · intro u hu
        have x1 := (Pt.cells (r6.step hu hog)).2.1; go_simp
      try simp only [Act.put, List.setIfInBounds_toArray, List.set_cons_zero, List.set_cons_succ]
      refine wpAnyH_take (i := 6) (oi := { dst := some 29, op := Op.lookup 75 (Operand.tmp 26) (Operand.tmp 28) false, type := 23, pos := _, after := #[{ on := 3, ground := Ground.data }, { on := 5, ground := Ground.data }], guard := none }) (v := .slice va (byS (c.take k) p.at').length vc) rfl (by kernel_rfl) (by kernel_rfl) (by kernel_rfl) (fun _ _ _ h => h)
        (yields_M' 75 23 uWm _ zI (by rfl) _ _ (by rfl) m fm (by rfl) p.at' (by rfl) hps (fun u hu => mm6.step hu hom) _ ev) hHeld ?_
      try simp only [Act.put, List.setIfInBounds_toArray, List.set_cons_zero, List.set_cons_succ]
      refine wpAnyH_take (i := 7) (oi := { dst := some 30, op := Op.move (Operand.tmp 7), type := 3, pos := _, after := #[], guard := none }) (v := .int .i64 p.id) rfl (by kernel_rfl) (by kernel_rfl) (by kernel_rfl) (fun _ _ _ h => h) (Or.inl ⟨by rfl, ?_⟩) hHeld ?_
      · intro u hu
        go_simp
      try simp only [Act.put, List.setIfInBounds_toArray, List.set_cons_zero, List.set_cons_succ]
      refine wpAnyH_ready (rs := [8]) (by kernel_rfl) (by simp) ?_
      refine (AllReadyH.cons (o := { dst := some 31, op := Op.buildSlice 23 1 #[(0, Operand.tmp 30)], type := 23, pos := _, after := #[{ on := 7, ground := Ground.data }], guard := none }) rfl (fun K hK => ?_) AllReadyH.nil)
      refine step_bsI rfl _ (by rfl) p.id (by rfl) ?_
      have ba : Below w6.heap.size w6 (w6.drew.alloc (.cells #[.int .i64 p.id] 3)) := ((Below.refl _ w6).drew).alloc (Nat.le_refl _) _
      refine hK.out _ _ (Stp.of_below ba _) (fun hHeld => ?_)
      clear hK K
      try simp only [Act.put, List.setIfInBounds_toArray, List.set_cons_zero, List.set_cons_succ]
      refine wpAnyH_ready (rs := [9]) (by kernel_rfl) (by simp) ?_
      refine (AllReadyH.cons (o := { dst := some 32, op := Op.call { callee := Callee.builtin Builtin.append, args := #[Operand.tmp 29, Operand.tmp 31], argTypes := #[23, 23] }, type := 23, pos := _, after := #[{ on := 6, ground := Ground.data }, { on := 8, ground := Ground.data }], guard := none }) rfl (fun K hK => ?_) AllReadyH.nil)
      refine step_appR elI 0 rfl _ _ (by rfl) (by rfl) (ro_later ov ba) (fun r _ => Nat.zero_le r) (some ⟨w6.drew.heap.size, 0, none⟩) 1 [.int .i64 p.id] (by rfl) (by simp) (fun e => by cases e) (fun ad e => by injection e with e; subst e; exact cell_one_new _ _ _) (by simp [Value.oneCell']) hle'.out (Nat.zero_le _) ?_
      intro v' w9 hA
      obtain ⟨A1, A2, A3, A4, _⟩ := hA
      have s9 : Stp (fun x => (Value.slice va (byS (c.take k) p.at').length vc).ownBlock = some x) w6 w9 := (Stp.of_below ba _).trans A4
      refine hK.out _ _ (s9) (fun hHeld => ?_)
      clear hK K
      try simp only [Act.put, List.setIfInBounds_toArray, List.set_cons_zero, List.set_cons_succ]
      refine wpAnyH_done (by kernel_rfl) ?_ _
      have o9 : OwV w9 v' (byS (c.take k) p.at' ++ [p.id]) := by unfold OwV; simpa using A1
      have hnb : ∀ r, v'.ownBlock = some r → (Value.slice va (byS (c.take k) p.at').length vc).ownBlock = some r ∨ (w6.heap.size ≤ r ∧ r < w9.heap.size) := fun r hr => by
        rcases A3 with e | ⟨e, e2⟩
        · exact .inl (by rw [← e]; exact hr)
        · rw [hr] at e; injection e with e
          exact .inr ⟨by rw [e]; simp, by rw [e]; exact e2⟩
      show wpList _ _ _ [_] _ _
      refine at_updM 75 23 uWm (by rfl) _ _ _ (by rfl) m fm (by rfl) p.at' (by rfl) v' (by rfl) (mm6.step s9 hom) hKy'.out hps ?_
      intro w10 m10 s10
      have J := I6.more ev s9 o9 hnb hw6 s10 m10
      have B10 : Below w.heap.size w w10 := ((Stp.of_below B6 (fun _ => False)).next s9 (fun x e => .inr (hob x e))).below (Nat.le_refl _) (fun x e => e.elim)
        |>.trans (s10.below (Nat.le_trans B6.size s9.size) (fun x e => by have := I.nm; omega))
      clear hHeld
      simp only [Act.put]
      go_wp2_with fail
      go_roundw
      case rel => exact ⟨k + 1, by omega, by go_num, B10, _, by rw [hT.out]; exact J⟩
      case measure => simp [intOf]; omega
    · have hk' : k = c.length := by omega
      subst hk'
      rw [List.take_length] at I
      go_wp2_with fail
      go_returns
      exact ⟨m, fm, rfl, I, hb⟩
end Go.Proofs.YtdfifneikmlmoaaGreat
namespace Go.Proofs.YtdfifneikmlmoaaGreat
open Go.ChangeShapes Go.WideShapes Go.ChangeAt Go.RowKit Go.Shelf
set_option linter.unusedVariables false
set_option linter.unusedSimpArgs false

theorem enter_common : ∀ args w, (callFunc 80 args).run Tryz.prog w = .ok (.enter 80 args) w := enters_of Tryz.func80 (by kernel_rfl) rfl
set_option maxRecDepth 100000 in
set_option maxHeartbeats 1000000 in
theorem tells_common {w : World} {va : Option Addr} {vn vc : Nat} {l : List Int} (ov : OwV w (.slice va vn vc) l) (hs : l.Pairwise (· < ·)) (hne : l ≠ []) (hl : l.length ≤ 100000) (gb : Nat) (hc : w.cell? ⟨gb, 0, none⟩ = some (.slice va vn vc)) (r : List Int) : TellsN w 80 #[.pointer (some ⟨gb, 0, none⟩)] r (fun x => l.contains x) := by
  intro u x hx hu
  have hc1 := (Stp.of_below hu (fun _ => False)).cell hc id
  have hS := search_own (ov.later hu) x (by omega) hs hne
  show Calls Tryz.prog _ #[.int .i64 x, .pointer (some ⟨gb, 0, none⟩)] u fun e u' => e = .returned (.bool (l.contains x)) ∧ Below u.heap.size u u'
  generalize l.countP (· < x) = kk at *
  generalize l.contains x = bb at *
  go_enter Tryz.func80, Tryz.ntmps80
  go_wp2_with (first | (go_at_call 81; refine hS.mono ?_; rintro e w3 ⟨rfl, b3⟩))
  go_returns
  exact ⟨rfl, b3⟩
set_option maxRecDepth 100000 in
set_option maxHeartbeats 1000000 in
theorem common_any {w : World} {va : Option Addr} {vn vc : Nat} {l : List Int} (ov : OwV w (.slice va vn vc) l) (hs : l.Pairwise (· < ·)) (hne : l ≠ []) (hl : l.length ≤ 100000) {s : Sv} {r : List Int} (hr : InsS w s r) (hrl : r.length ≤ 1000000) :
    Calls Tryz.prog 61 #[.slice va vn vc, .slice s.a s.n s.c] w fun e w' => e = .returned (.bool (r.any fun x => l.contains x)) ∧ Below w.heap.size w w' := by
  have b0 : Below w.heap.size w (w.alloc (.cells #[.slice va vn vc] 23)) := (Below.refl _ w).alloc (Nat.le_refl _) _
  have hC := containsFunc_any (hr.later b0) hrl 80 #[.pointer (some ⟨w.heap.size, 0, none⟩)] _ (tells_common (ov.later b0) hs hne hl w.heap.size (by simp [go_sem]) r) enter_common
  generalize (r.any fun x => l.contains x) = bb at *
  go_enter Tryz.func61, Tryz.ntmps61
  go_wp2_with (first | (go_at_call 64; refine hC.mono ?_; rintro e w3 ⟨rfl, b3⟩))
  go_returns
  exact ⟨rfl, bnext b0 b3 (Nat.le_refl _)⟩
theorem keys_fn (mb : Option Nat) (W : World) : Calls Tryz.prog 63 #[.map mb] W fun e w' => e = .returned (.func (.func 83) #[] #[.pointer (some ⟨W.heap.size, 0, none⟩)]) ∧ w' = W.alloc (.cells #[.map mb] 75) :=
  (callsIn_wide (n := 5)).1 (AnyZI.keys_in keysA Fence.wide 5 trivial rfl mb W)
/-- A map's keys, sorted. -/
theorem sorted_keys {w : World} {b : Nat} {fm : Int → Option Value} (hm : MpI Tryz.prog 3 w b fm) {L : List Int} (hL : L.Pairwise (· < ·)) (hmem : ∀ x, x ∈ L ↔ (fm x).isSome = true) :
    Calls Tryz.prog 62 #[.func (.func 83) #[] #[.pointer (some ⟨w.heap.size, 0, none⟩)]] (w.alloc (.cells #[.map (some b)] 75)) fun e w' => ∃ v, e = .returned v ∧ OwV w' v L ∧ New w.heap.size v ∧ Below w.heap.size w w' := by
  have hlt := hm.lt
  obtain ⟨D0, hown, hR⟩ := hm
  have hp := keys_perm hown hR (rise_nodup hL) hmem
  have hsz : Maps.size D0 ≤ 4096 := by
    obtain ⟨es, clock, hb, Ft, hs, hD⟩ := hown
    rw [hD]; simp [Maps.size, length_sorted]; exact hs
  have hseq : SeqGives Fence.wide 2 Tryz.prog 83 #[.pointer (some ⟨w.heap.size, 0, none⟩)] encZ (fun ss => ss.Perm (intKeys D0)) (Maps.size D0) (w.alloc (.cells #[.map (some b)] 75)) :=
    AnyZI.keys_gives (ρ := keysA_ren) { keysA with } Fence.wide _ trivial rfl (by omega) w.heap.size b 4096 D0 (R := heldElem) _ (by simp) (by simp) (by
      obtain ⟨es, clock, hb, Ft, hs, hD⟩ := hown
      exact ⟨es, clock, (Below.heap_alloc _ _ b hlt).trans hb, Ft, hs, hD⟩)
  have cS := AnyZI.sorted_in sortedA Fence.wide 5 trivial trivial trivial trivial rfl (by omega) (sorts1 _) (enters_of Tryz.func68 (by kernel_rfl) rfl) 83 #[.pointer (some ⟨w.heap.size, 0, none⟩)] trivial (enters_of Tryz.func83 (by kernel_rfl) rfl) _ _ (by unfold maxLen; omega) (by omega) _ hseq
  change CallsIn _ _ Tryz.prog 62 _ _ _ at cS
  have cSp := callsIn_wide.1 cS
  refine cSp.mono ?_
  rintro e w' ⟨v, ss, rfl, hS, hrow, hnil, hb⟩
  have b0 : Below w.heap.size w (w.alloc (.cells #[.map (some b)] 75)) := (Below.refl _ w).alloc (Nat.le_refl _) _
  have e1 : ss.mergeSort (fun x y => decide (x ≤ y)) = L := by
    have h1 := mergeSort_of_perm_i (hS.trans hp.symm)
    exact h1.trans (sort_id hL)
  have e2 : ss.length = L.length := (hS.trans hp.symm).length_eq
  refine ⟨v, rfl, ?_, fun r hr => ?_, bnext b0 hb (Nat.le_refl _)⟩
  · unfold OwV
    rw [e1, e2] at hrow
    exact ro_zero hrow
  · have := (hrow.lt r hr).1; have := b0.size; omega
/-- Which sectors stay. -/
def kpS (l c : List Pt) (s : Int) : Bool := (rdy l s).any fun x => (byS c s).contains x
theorem kpS_bsS {l : List Pt} (hs : Rise l) (is : List Int) (s : Int) : s ∈ bsS is l ↔ kpS l (nd is l) s = true := by
  unfold bsS kpS
  rw [List.mem_filter, List.any_eq_true, List.any_eq_true]
  constructor
  · rintro ⟨h0, x, h1, h2⟩
    refine ⟨x, h1, ?_⟩
    rw [List.contains_iff_mem] at h2 ⊢
    obtain ⟨q, q1, q2⟩ := ids_mem.1 h2
    obtain ⟨p, p1, p2, p3, _⟩ := rdy_facts hs h1
    have : q = p := same_id hs p1 (nd_sub is l q q1) (by omega)
    subst this
    exact byS_mem.2 ⟨q, q1, p3, q2⟩
  · rintro ⟨x, h1, h2⟩
    rw [List.contains_iff_mem] at h2
    obtain ⟨p, p1, p2, p3⟩ := byS_mem.1 h2
    obtain ⟨q, q1, q2, q3, q4, _⟩ := rdy_facts hs h1
    refine ⟨secs_mem.2 fun e => ?_, x, h1, by rw [List.contains_iff_mem]; exact ids_mem.2 ⟨p, p1, p3⟩⟩
    have : x ∈ wts l s := wts_mem.2 ⟨q, q1, q2, q3, q4⟩
    rw [e] at this; cases this
theorem kpS_ne {l c : List Pt} {s : Int} (h : kpS l c s = true) : byS c s ≠ [] := by
  intro e
  unfold kpS at h
  rw [e] at h
  obtain ⟨x, _, h2⟩ := List.any_eq_true.1 h
  simp at h2
theorem rdS_few (l : List Pt) : ∀ (W late : List Pt), (rdS l late W).length ≤ W.length
  | [], late => by simp [rdS]
  | p :: r, late => by
    unfold rdS
    split
    · have := rdS_few l r (late ++ [p]); simp; omega
    · have := rdS_few l r late; simp; omega
theorem rdy_len {Z : GZ} {t : Int} (h : Z.ok t) (s : Int) : ((rdy Z.l s).length : Int) ≤ t := by
  have h1 := h.fewW s
  have h2 := rdS_few Z.l (wtP Z.l s) []
  unfold rdy ids
  rw [List.length_map]
  omega
theorem rdy_wfi {Z : GZ} {t : Int} (h : Z.ok t) (ht : t ≤ 2000) (s : Int) : ∀ x ∈ rdy Z.l s, wfi x := fun x hx => by
  obtain ⟨p, p1, p2, _⟩ := rdy_facts h.srt hx
  have := h.rng p p1; have := h.lt
  exact wfi_of (by omega)
/-- On the way over the map. -/
structure DuI (w wr : World) (N m r : Nat) (Z : GZ) (c : List Pt) (fm fn : Int → Option Value) (left : Int → Bool) (cnt : Nat) : Prop where
  rg : RgI Tryz.prog 3 wr m r fn left cnt
  eq : ∀ s, fn s = if left s || kpS Z.l c s then fm s else none
  vs : ∀ s v, fm s = some v → byS c s ≠ [] ∧ OwV wr v (byS c s) ∧ ∀ x, v.ownBlock = some x → N ≤ x ∧ x < r
  b : Below w.heap.size w wr
  rl : r < wr.heap.size
set_option maxRecDepth 100000 in
set_option maxHeartbeats 4000000 in
theorem due_any {w : World} {g mp mw : Nat} {f fw : Int → Option Value} {Z : GZ} {E F : Nat → Prop} (H : Gr w g mp mw f fw Z E F) (hnl : ∀ p ∈ Z.l, p.needs.length ≤ 100000) {is : List Int} {s : Sv} (hs : InsS w s (ids (nd is Z.l))) :
    Calls Tryz.prog 31 #[.pointer (some ⟨g, 0, none⟩), .slice s.a s.n s.c] w fun e w' => ∃ v, e = .returned v ∧ OwV w' v (bsS is Z.l) ∧ New w.heap.size v ∧ Below w.heap.size w w' := by
  have hcs : ∀ p ∈ nd is Z.l, p ∈ Z.l := nd_sub is Z.l
  have hfew := H.ok.few
  have hcl : (nd is Z.l).length ≤ 2000 := by have := nd_len is Z.l; omega
  have hrc := nd_rise is Z.l H.ok.srt
  have hB := bySectors_any H hnl hcs hcl hs
  have hend : Hid (∀ x, x ∈ bsS is Z.l ↔ kpS Z.l (nd is Z.l) x = true) := kpS_bsS H.ok.srt is
  have hris : Hid ((bsS is Z.l).Pairwise (· < ·)) := (secs_rise Z.l).filter _
  generalize bsS is Z.l = L at *
  generalize nd is Z.l = c at *
  have t1 : True := trivial
  go_enter Tryz.func31, Tryz.ntmps31
  go_wp2_with (first
    | (go_at_call 60; refine hB.mono ?_; rintro e w1 ⟨m, fm, rfl, I1, b1⟩; clear hB)
    | (clear t1; refine at_range' (by rfl) _ (by rfl) (by rfl) (mp_range I1.mm uWm) ?_; rintro w2 ⟨cnt, hrg, hk2, hz2⟩))
  go_frame
  obtain ⟨r, hr⟩ : ∃ r, r = w1.heap.size := ⟨_, rfl⟩
  rw [← hr] at hrg ⊢
  have b2 : Below w1.heap.size w1 w2 := hk2.below (Nat.le_refl _) (fun _ e => e.elim)
  have B2 := bnext b1 b2 (Nat.le_refl _)
  have start : DuI w w2 w.heap.size m r Z c fm fm (fun k => (fm k).isSome) cnt := by
    refine ⟨hrg, fun s => ?_, fun s v hv => ?_, B2, by omega⟩
    · cases hf : fm s with
      | none => simp
      | some u => simp
    · by_cases e : byS c s = []
      · rw [I1.no s e] at hv; cases hv
      · obtain ⟨u, k1, k2, k3⟩ := I1.yes s e
        rw [hv] at k1; injection k1 with k1; subst k1
        exact ⟨e, k2.later b2, fun x hx => ⟨k3 x hx, by have := k2.lt hx; omega⟩⟩
  have hwr : w.heap.size ≤ r := by have := b1.size; omega
  have hmr : m < r := by have := I1.mm.lt; omega
  have hmN := I1.nm
  have kpNone : Hid (∀ s, byS c s ≠ [] → fm s = none → False) := fun s h1 h2 => by
    obtain ⟨u, k1, _⟩ := I1.yes s h1
    rw [h2] at k1; cases k1
  clear hrg hz2 hk2 hr b2 I1 b1 B2
  go_loopw [6, 7] (fun _ _ wr => ∃ fn left cnt, DuI w wr w.heap.size m r Z c fm fn left cnt) (fun _ _ wr => wr.rangeLeft m r)
  case atStart => exact ⟨_, _, _, start⟩
  case round =>
    clear start
    obtain ⟨fn, left, cnt, I⟩ := hrel
    have t1 : True := trivial
    go_wp2_with (first
      | (clear t1; refine at_next' (by rfl) _ (by rfl) (by rfl) I.rg (fun hl => ?_) (fun k v w3 cnt3 hwf hlk hfk3 hrg3 hc3 hs3 hz3 hen => ?_)
         rotate_left
         have hzz : Hid (w3.heap.size = wr.heap.size) := hz3
         have B3 : Below w.heap.size w w3 := ((Stp.of_below I.b (fun _ => False)).next hs3 (fun x e => .inr (by omega))).below (Nat.le_refl _) (fun x e => e.elim)
         have hfm : fm k = some v := by rw [I.eq k, hlk] at hfk3; simpa using hfk3
         obtain ⟨hne, ov, hob⟩ := I.vs k v hfm
         have o3 := ov.step hs3 (fun x hx e => by have := (hob x hx).2; omega)
         obtain ⟨va, vn, vc, rfl⟩ := o3.shape
         have hRd := ready_any (H.later B3) k hwf hnl
         have hwfr := rdy_wfi H.ok (by omega) k
         have hlr := rdy_len H.ok k
         clear hz3)
      | (go_at_call 41; refine hRd.mono ?_; rintro e w4 ⟨v4, rfl, o4, n4, b4⟩; clear hRd
         obtain ⟨s4, e4, _, i4, _⟩ := o4.ins hwfr n4
         subst e4
         have hCm := common_any (o3.later b4) (byS_rise hrc k) hne (by have := byS_len c k; omega) i4 (by omega)
         have hkp : Hid (kpS Z.l c k = ((rdy Z.l k).any fun x => (byS c k).contains x)) := by show _ = _; rfl
         generalize ((rdy Z.l k).any fun x => (byS c k).contains x) = bb at *))
    · refine hCm.mono ?_
      rintro e w5 ⟨rfl, b5⟩
      clear hCm
      have B45 := bnext b4 b5 (Nat.le_refl _)
      have B5 := bnext B3 B45 (Nat.le_refl _)
      have rg5 := hrg3.step (Stp.of_below B45 (fun _ => False)) id id
      have zz := hzz.out
      have hrl5 : r < w5.heap.size := by have := B45.size; have := I.rl; omega
      have vs5 : ∀ s v, fm s = some v → byS c s ≠ [] ∧ OwV w5 v (byS c s) ∧ ∀ x, v.ownBlock = some x → w.heap.size ≤ x ∧ x < r := fun s v hv => by
        obtain ⟨k1, k2, k3⟩ := I.vs s v hv
        exact ⟨k1, (k2.step hs3 (fun x hx e => by have := (k3 x hx).2; omega)).later B45, k3⟩
      cases bb with
      | true =>
        have J : DuI w w5 w.heap.size m r Z c fm fn (fun x => left x && !decide (x = k)) cnt3 := by
          refine ⟨rg5, fun s => ?_, vs5, B5, hrl5⟩
          rw [I.eq s]
          by_cases e : s = k
          · subst e; rw [hkp.out]; simp
          · simp [e]
        clear b4 b5 hen hrg3 rg5 vs5
        go_wp2_with fail
        go_roundw
        case rel => exact ⟨_, _, _, J⟩
        case measure => rw [J.rg.left_eq, I.rg.left_eq]; exact hc3
      | false =>
        have t6 : True := trivial
        clear b4 b5 hen hrg3
        go_wp2_with (first
          | (clear t6; refine at_drop (t := 75) (R := fun w' => ∃ cnt', RgI Tryz.prog 3 w' m r (upd fn k none) (fun x => left x && !decide (x = k)) cnt' ∧ cnt' ≤ cnt3 ∧ Stp (fun x => x = m) w5 w') (by rfl) _ _ (by rfl) (by rfl) (by rfl) (fun ty => by
              obtain ⟨w', cnt', d1, d2, d3, d4⟩ := rg5.drop u3 uWm hwf (by simp) ty
              exact ⟨w', d1, cnt', d2, d3, turned_stp d4⟩) ?_
             rintro w6 ⟨cnt6, rg6, hc6, s6⟩))
        have J : DuI w w6 w.heap.size m r Z c fm (upd fn k none) (fun x => left x && !decide (x = k)) cnt6 := by
          refine ⟨rg6, fun s => ?_, fun s v hv => ?_, B5.trans (s6.below B5.size (fun x e => by omega)), Nat.lt_of_lt_of_le hrl5 s6.size⟩
          · by_cases e : s = k
            · subst e; rw [hkp.out]; simp [upd]
            · simp only [upd, e, if_false]
              rw [I.eq s]; simp [e]
          · obtain ⟨k1, k2, k3⟩ := vs5 s v hv
            exact ⟨k1, k2.step s6 (fun x hx e => k2.map_ne rg5.mp (by rw [hx, e])), k3⟩
        try simp only [Act.put]
        try go_wp2_with fail
        go_roundw
        case rel => exact ⟨_, _, _, J⟩
        case measure => rw [J.rg.left_eq, I.rg.left_eq]; omega
    · have hmm := I.rg.mp
      have hmem : ∀ x, x ∈ L ↔ (fn x).isSome = true := fun x => by
        rw [hend.out x, I.eq x, hl x]
        constructor
        · intro h
          rw [h]
          cases hf : fm x with
          | some u => rfl
          | none => exact (kpNone.out x (kpS_ne h) hf).elim
        · intro h
          cases hk : kpS Z.l c x with
          | true => rfl
          | false => rw [hk] at h; cases h
      have hSo := sorted_keys hmm hris.out hmem
      go_wp2_with (first
        | (go_at_call 63; refine (keys_fn _ _).mono ?_; rintro e w' ⟨rfl, rfl⟩)
        | (go_at_call 62; refine hSo.mono ?_; rintro e w4 ⟨v4, rfl, o4, n4, b4⟩))
      go_returns
      exact ⟨_, rfl, o4, fun x hx => by have := n4 x hx; have := I.b.size; omega, bnext I.b b4 (Nat.le_refl _)⟩
end Go.Proofs.YtdfifneikmlmoaaGreat
namespace Go.Proofs.YtdfifneikmlmoaaGreat
open Go.ChangeShapes Go.WideShapes Go.ChangeAt Go.RowKit
set_option linter.unusedVariables false
set_option linter.unusedSimpArgs false

def plainOp (o : Oper) : Bool := match o.op with
  | .defer _ => false
  | _ => true
theorem plainOp_to {o : Oper} (h : plainOp o = true) : ∀ c, o.op ≠ .defer c := fun c e => by unfold plainOp at h; rw [e] at h; cases h
section
variable {P : Program} {ops : Array Oper} {Q : Exit → Act → World → Prop} {k n : Nat}
theorem rows_wide {row : String} {args : Array Value} {w : World} {R : Value → World → Prop} (h : Rows P row args w R) : RowsIn (Fence.wide.inRound k) n P row args w R :=
  fun c cs _ => let ⟨v, w', r, s⟩ := h c cs; ⟨v, w', r, stepsIn_wide.2 s⟩
theorem op_in {o : Oper} {a : Act} {w : World} {K K' : Act → World → Prop} (hd : ∀ c, o.op ≠ .defer c) (hK : ∀ a w, K a w → K' a w) (h : o.wp P a w K Q) : o.wpIn (Fence.wide.inRound k) n P a w K' Q := by
  refine ⟨fun _ _ => trivial, ?_⟩
  rw [Oper.semAt_eq _ _ _ hd]
  unfold Oper.wp at h
  generalize (execOp a.eval o).run P w = r at *
  cases r with
  | ok x w' =>
    cases x <;> simp only [Oper.upon, Oper.uponIn] at h ⊢
    case value v => exact hK _ _ h
    case skip => exact hK _ _ h
    case defer d => exact hK _ _ h
    case enter f args =>
      refine ⟨(fun e => by cases e), ?_⟩
      refine CallsIn.inRound k (callsIn_wide.2 (Calls.mono h ?_))
      intro e w'' he
      cases e <;> first | exact hK _ _ he | exact he
    case row row args => exact ⟨(fun e => by cases e), rows_wide (Rows.mono h (fun _ _ he => hK _ _ he))⟩
  | halt x w' => cases x <;> simp only [Oper.upon, Oper.uponIn] at h ⊢ <;> exact h
theorem list_in (hx : ¬ LetsOut Q) : ∀ (l : List Oper) (a : Act) (w : World), l.all plainOp = true → wpList P ops Q l a w → wpListIn (Fence.wide.inRound k) n P ops Q l a w
  | [], a, w, _, h => h
  | o :: r, a, w, hp, h => by
    rw [List.all_cons, Bool.and_eq_true] at hp
    unfold wpList at h
    unfold wpListIn
    split at h
    · rename_i hw
      rw [if_pos hw]
      rcases h with h | h
      · exact op_in (plainOp_to hp.1) (fun a w h => list_in hx r a w hp.2 h) h
      · exact absurd h.2 hx
    · rename_i hw
      rw [if_neg hw]
      exact ⟨fun _ _ => trivial, list_in hx r _ _ hp.2 h⟩
theorem any_in {md : Region.Mode} (hx : ¬ LetsOut Q) (hp : ops.toList.all plainOp = true) : ∀ (fuel : Nat) (listed : Array Bool) (a : Act) (w : World), wpAny P md ops Q fuel listed a w → wpAnyIn (Fence.wide.inRound k) n P md ops Q fuel listed a w
  | 0, listed, a, w, h => h
  | fuel + 1, listed, a, w, h => by
    refine ⟨h.1, fun i hi => ?_⟩
    have h1 := h.2 i hi
    unfold wpOp at h1
    unfold wpOpIn
    cases ho : ops[i]? with
    | none => simp only [ho] at h1; exact any_in hx hp fuel _ _ _ h1
    | some o =>
      have hm : plainOp o = true := List.all_eq_true.1 hp o (by
        rw [Array.mem_toList_iff]; exact Array.mem_of_getElem? ho)
      simp only [ho] at h1 ⊢
      split at h1
      · rename_i hw
        rw [if_pos hw]
        rcases h1 with h1 | h1
        · exact op_in (plainOp_to hm) (fun a w h => any_in hx hp fuel _ a w h) h1
        · exact absurd h1.2 hx
      · rename_i hw
        rw [if_neg hw]
        exact ⟨fun _ _ => trivial, any_in hx hp fuel _ _ _ h1⟩
/-- A region that draws, all but its last operation first. -/
theorem in_region_last {S : World → Prop} {id : Nat} {a : Act} {w : World} (ops0 : Array Oper) (o : Oper) (hx : ¬ LetsOut Q) (hp : ops.toList.all plainOp = true) (hpop : ops.pop = ops0) (hback : ops.back? = some o) (hm : P.follows .mixedOrders = true) (hok : lastOk ops0 o = true) (hS : S w.drew)
    (h : S w.drew → wpAnyH P .any ops0 (Rest P ops0 o Q) S ops0.size (Array.replicate ops0.size false) a w.drew) : (Code.region id ops true).wpIn (Fence.wide.inRound k) n P Q a w := by
  have hops : ops = ops0.push o := by
    subst hpop
    apply Array.ext_getElem?
    intro i
    rw [Array.back?_eq_getElem?] at hback
    have hlt := (Array.getElem?_eq_some_iff.1 hback).1
    rw [Array.getElem?_push, Array.size_pop, Array.getElem?_pop]
    by_cases e : i = ops.size - 1
    · rw [if_pos e, e, hback]
    · rw [if_neg e]
      split
      · rfl
      · exact Array.getElem?_eq_none (by omega)
  subst hops
  refine wpIn_region_any hm ?_
  have := wpAny_last (P := P) (Q := Q) hok ops0.size (Array.replicate ops0.size false) a w.drew (by simp) (fun i x hx hl => by
    have := (Array.getElem?_eq_some_iff.1 hx).1
    simp [Array.getD, this] at hl) (wpAny_of_held _ _ _ _ (h hS))
  rw [Array.size_push, Array.replicate_succ]
  exact any_in hx hp _ _ _ _ this
end
end Go.Proofs.YtdfifneikmlmoaaGreat
namespace Go.Proofs.YtdfifneikmlmoaaGreat
open Go.ChangeShapes Go.WideShapes Go.ChangeAt Go.RowKit Go.Shelf
set_option linter.unusedVariables false
set_option linter.unusedSimpArgs false
attribute [local go_sem] Oper.semAt_some

theorem reverse_none (w : World) : Calls Tryz.prog 59 #[.slice none 0 0] w fun e w' => e = .returned (.tuple #[]) ∧ w = w' := by
  refine (Any.slices_Reverse_int_empty lays112 none 0 w).mono ?_
  rintro e w' ⟨rfl, rfl⟩; exact ⟨rfl, rfl⟩
set_option maxRecDepth 100000 in
set_option maxHeartbeats 2000000 in
theorem back_any (a : Option Addr) (n c : Nat) (w : World) : Calls Tryz.prog 56 #[.slice a n c] w fun e w' => ∃ bx, e = .returned (.func (.func 77) #[] #[.pointer (some ⟨bx, 0, none⟩)]) ∧ w.heap.size ≤ bx ∧ Cs w' bx [.slice a n c] ∧ Below w.heap.size w w' := by
  have t1 : True := trivial
  have hb : ∀ (w : World), (Instr.box 23 (.slice a n c)).run Tryz.prog w = .ok (.pointer (some ⟨w.heap.size, 0, none⟩)) (w.alloc (.cells #[.slice a n c] 23)) := fun w => by
    simp [Instr.box, newVar, Value.cells, go_sem]
  go_enter Tryz.func56, Tryz.ntmps56
  go_wp2
  go_returns
  exact ⟨w.heap.size, rfl, Nat.le_refl _, Cs.made w [.slice a n c] _ (by simp [Value.oneCell']), (Below.refl _ w).alloc (Nat.le_refl _) _⟩
/-- What Needed makes first. -/
def wA (w : World) (gv : Value) : World := ((w.alloc (.cells #[gv] 24)).alloc (.map #[] 0)).alloc (.cells #[.map (some (w.heap.size + 1))] 87)
def wB (w : World) : World := ((w.alloc (.map #[] 0)).alloc (.cells #[.map (some w.heap.size)] 89)).alloc (.cells #[.slice none 0 0] 23)
section
variable (w : World) (gv : Value)
theorem wA_b : Below w.heap.size w (wA w gv) := (((Below.refl _ w).alloc (Nat.le_refl _) _).alloc (by simp) _).alloc (by simp; omega) _
theorem wA_m : MpS (wA w gv) (w.heap.size + 1) (fun _ => false) 0 := by
  have h := MpS.made (w.alloc (.cells #[gv] 24))
  rw [show (w.alloc (.cells #[gv] 24)).heap.size = w.heap.size + 1 by simp] at h
  exact h.later ((Below.refl _ _).alloc (Nat.le_refl _) _)
theorem wA_g (h1 : gv.oneCell' = true) : Cs (wA w gv) w.heap.size [gv] :=
  ((Cs.made w [gv] _ (by simpa using h1)).later ((Below.refl _ _).alloc (Nat.le_refl _) _)).later ((Below.refl _ _).alloc (Nat.le_refl _) _)
theorem wA_v : Cs (wA w gv) (w.heap.size + 1 + 1) [.map (some (w.heap.size + 1))] := by
  have h := Cs.made ((w.alloc (.cells #[gv] 24)).alloc (.map #[] 0)) [.map (some (w.heap.size + 1))] 87 (by simp [Value.oneCell'])
  rw [show ((w.alloc (.cells #[gv] 24)).alloc (.map #[] 0)).heap.size = w.heap.size + 1 + 1 by simp] at h
  exact h
theorem wB_b : Below w.heap.size w (wB w) := (((Below.refl _ w).alloc (Nat.le_refl _) _).alloc (by simp) _).alloc (by simp; omega) _
theorem wB_m : MpI Tryz.prog 3 (wB w) w.heap.size (fun _ => none) := ((MpI.made w _ _).later ((Below.refl _ _).alloc (Nat.le_refl _) _)).later ((Below.refl _ _).alloc (Nat.le_refl _) _)
theorem wB_v : Cs (wB w) (w.heap.size + 1) [.map (some w.heap.size)] := by
  have h := Cs.made (w.alloc (.map #[] 0)) [.map (some w.heap.size)] 89 (by simp [Value.oneCell'])
  rw [show (w.alloc (.map #[] 0)).heap.size = w.heap.size + 1 by simp] at h
  exact h.later ((Below.refl _ _).alloc (Nat.le_refl _) _)
theorem wB_l : Cs (wB w) (w.heap.size + 1 + 1) [.slice none 0 0] := by
  have h := Cs.made ((w.alloc (.map #[] 0)).alloc (.cells #[.map (some w.heap.size)] 89)) [.slice none 0 0] 23 (by simp [Value.oneCell'])
  rw [show ((w.alloc (.map #[] 0)).alloc (.cells #[.map (some w.heap.size)] 89)).heap.size = w.heap.size + 1 + 1 by simp] at h
  exact h
end
theorem ownFrom_stp {β : Type} {B : Nat} {I : β → World → Prop} (h : ∀ s W W', I s W → Stp (fun x => B ≤ x) W W' → I s W') : OwnFrom B I := fun s W W' row hs hg hr => h s W W' hs (Stp.of_grown hg (fun x e => .inl (hr x e).1))
set_option maxRecDepth 100000 in
set_option maxHeartbeats 2000000 in
/-- No number: no round. -/
theorem back0_stops {w : World} {bx : Nat} {a : Option Addr} {c : Nat} (n : Nat) (r : Cs w bx [.slice a 0 c]) :
    SeqStopsK Fence.wide n Tryz.prog 77 #[.pointer (some ⟨bx, 0, none⟩)] (fun x : Int × Int => #[Value.int .i64 x.1, Value.int .i64 x.2]) (fun _ _ => True) (fun ys => ys = []) (fun _ => True) 0 w := fun l J Jx W hW _ _ hY h0 => by
  have hc := (r.later hW).cell 0 _ rfl
  refine callsIn_of_wp Tryz.func77 rfl trivial ?_ rfl
  simp only [Tryz.ntmps77, List.size_toArray, List.length_cons, List.length_nil, Nat.reduceAdd, Nat.reduceSub, Array.replicate_succ, Array.replicate_zero, List.push_toArray, List.append_toArray, List.nil_append, List.cons_append]
  gi_wp2
  gi_loopw [3] (fun i wr => i = .int .i64 (-1) ∧ J [] wr) (fun _ _ => 0)
  case atStart => exact ⟨by go_num, h0⟩
  case round =>
    obtain ⟨rfl, hJs⟩ := hrel
    gi_wp2
    go_end0
    exact ⟨⟨_, rfl⟩, .inl ⟨_, rfl, hJs⟩⟩
set_option maxRecDepth 100000 in
set_option maxHeartbeats 4000000 in
theorem needed_nil {w : World} {s : Sv} {l : List Int} (hs : InsS w s l) (hl : l.length ≤ 1000) :
    Calls Tryz.prog 30 #[.pointer none, .slice s.a s.n s.c] w fun e w' => e = .returned (.slice none 0 0) ∧ Below w.heap.size w w' := by
  have hmm := @run_makeMap Tryz.prog
  refine (callsIn_wide (n := 6)).1 ?_
  refine callsIn_of_wp_marks Tryz.func30 rfl trivial ?_ rfl
  simp only [Tryz.ntmps30, List.size_toArray, List.length_cons, List.length_nil, Nat.reduceAdd, Nat.reduceSub, Array.replicate_succ, Array.replicate_zero, List.push_toArray, List.append_toArray, List.nil_append, List.cons_append]
  refine wpIn_wide.2 ?_
  have bA := wA_b w (.pointer none)
  have hW := want_any (wA_m w (.pointer none)) (hs.later bA) (by omega)
  have gA := wA_g w (.pointer none) rfl
  unfold wA at hW
  go_wp2_with (first
    | (go_at_call 55; refine hW.mono ?_; rintro e w3 ⟨rfl, M3, s3⟩; clear hW
       have B3 : Below w.heap.size w w3 := ((Stp.of_below bA (fun _ => False)).next s3 (fun x e => .inr (by omega))).below (Nat.le_refl _) (fun x e => e.elim)
       have g3 := gA.step s3 (by omega)
       have bB := wB_b w3
       have gB := (g3.later bB).cell 0 _ rfl
       have lB := wB_l w3
       unfold wB at gB)
    | (go_at_call 13; refine (all_nil _).mono ?_; rintro e w4 ⟨rfl, rfl⟩)
    | (go_at_call 56; refine (back_any _ _ _ _).mono ?_; rintro e w5 ⟨bx, rfl, h5, r5, b5⟩
       have l5 := (lB.later b5))
    )
  refine (wpIn_wide (n := 6)).1 ?_
  have z5 := b5.size
  have zB := bB.size
  have lt5 := l5.lt
  have B5 : Below w.heap.size w w5 := bnext (bnext B3 bB (Nat.le_refl _)) b5 (Nat.le_refl _)
  refine wpIn_rangeFunc_ownG (F := Fence.wide) (n := 6) (w0 := w5) rfl (by omega) (gf := 77) (lb := #[.pointer (some ⟨bx, 0, none⟩)]) rfl trivial (enters_of Tryz.func77 (by kernel_rfl) rfl)
    (back0_stops 5 r5) (fun _ _ => trivial) (fun _ _ _ _ _ _ _ _ => trivial) (Below.refl _ _) (fun _ => rfl)
    (fun _ W => Cs W (w3.heap.size + 1 + 1) [.slice none 0 0] ∧ Below w.heap.size w W)
    (fun _ _ _ => False)
    (ownFrom_stp fun s W W' h k => ⟨h.1.step k (by omega), h.2.trans (k.below (Nat.le_trans (Nat.le_refl _) h.2.size) (fun x hx => Nat.le_trans B5.size hx))⟩)
    (fun _ _ _ _ _ hs _ _ => hs)
    ⟨l5, B5⟩ ?a1 ?assign ?body ?done ?stop
  case assign =>
    intro l x W K hK
    gi_wp2
    exact hK
  case body => exact fun l pre x W _ hlt => absurd hlt (Nat.not_lt_zero _)
  case stop => exact fun D c pre W _ _ h _ => h.elim
  case done =>
    rintro D ys W hD rfl ⟨hC, hB⟩ hK
    have c7 := hC.cell 0 _ rfl
    go_wp2_with (first | (go_at_call 59; refine (reverse_none _).mono ?_; rintro e w6 ⟨rfl, rfl⟩))
    refine ⟨by simp, .inl ⟨_, _, rfl, run_takeDeferred hK, ?_⟩⟩
    exact ⟨_, results_tmp rfl _ _ _, rfl, hB.trans (belowK_b (w := w) (Nat.le_refl _) W D _ _ (by have := B5.size; omega) hK rfl rfl)⟩
end Go.Proofs.YtdfifneikmlmoaaGreat
namespace Go.Proofs.YtdfifneikmlmoaaGreat
open Go.ChangeShapes Go.WideShapes Go.ChangeAt Go.RowKit Go.Shelf Go.Sort
set_option linter.unusedVariables false
set_option linter.unusedSimpArgs false
attribute [local go_sem] Oper.semAt_some

theorem uSh : Tryz.prog.underlying 89 = some (.map 3 96) := by kernel_rfl
theorem zSh (w : World) : (zeroValue 96).run Tryz.prog w = .ok (.agg (shC 0 0).toArray) w := srtS.zero w
theorem zE (w : World) : (zeroValue 93).run Tryz.prog w = .ok (.agg #[]) w := by kernel_rfl
theorem keeps_stp {B : Nat} {F : Nat → Prop} {W W' : World} (k : Stp F W W') (h : ∀ x o, B ≤ x → F x → W.heap[x]? = some o → o.isCells = true) : KeepsFrom B W W' :=
  ⟨k.size, fun x o hB hx ho => by
    have hlt := (Array.getElem?_eq_some_iff.1 hx).1
    by_cases hF : F x
    · rw [h x o hB hF hx] at ho; cases ho
    · rw [k.block x hlt hF]; exact hx⟩
theorem kb_stp {F : Nat → Prop} {W W' : World} (k : Stp F W W') {b c : Nat} (h1 : b < W.heap.size) (h2 : c < W.heap.size) (h3 : ¬ F b) (h4 : ¬ F c) : Kb b c W W' := ⟨k.block b h1 h3, k.block c h2 h4⟩
theorem kb_put {w : World} {b c : Nat} (hb : b < w.heap.size) (hc : c < w.heap.size) (W : World) (l : Nat) (o o' : Obj) (hl : w.heap.size ≤ l) (h : W.heap[l]? = some o) (h1 : o.isCells = false) (h2 : o.isWalk = false) : Kb b c W (W.putObj l o') := by
  have hg := grownBy_putObj' W l o'
  have hlt := (Array.getElem?_eq_some_iff.1 h).1
  exact ⟨hg.block b (by omega) (fun e => by injection e with e; omega), hg.block c (by omega) (fun e => by injection e with e; omega)⟩
theorem ob_eq' {b n c r : Nat} (h : (Value.slice (some ⟨b, 0, none⟩) n c).ownBlock = some r) : b = r := by simpa [Value.ownBlock] using h
theorem Cs.notSet {w : World} {g b n : Nat} {cs : List Value} {S : Int → Bool} (h : Cs w g cs) (hm : MpS w b S n) : g ≠ b := fun e => by
  obtain ⟨⟨t, h⟩, _⟩ := h
  obtain ⟨D, ⟨es, clock, hh, _⟩, _⟩ := hm
  rw [e, hh] at h; cases h
/-- What stands behind some rounds. -/
structure NeI (w w0 W : World) (is : List Int) (g gg gS gM gl bS mS : Nat) (v : Value) (cw cs cl : List Pt) : Prop where
  ms : ∃ n, n ≤ is.length + 6 * cw.length ∧ MpS W bS (wS is cw) n
  sh : MpI Tryz.prog 3 W mS (shF cs)
  bl : Cs W gl [v]
  ol : OwV W v (ids cl)
  nw : New w0.heap.size v
  cg : Cs W gg [.pointer (some ⟨g, 0, none⟩)]
  cS : Cs W gS [.map (some bS)]
  cM : Cs W gM [.map (some mS)]
  b : Below w.heap.size w W
  z : w0.heap.size ≤ W.heap.size
/-- What a round may change. -/
def NeF (gl bS mS : Nat) (v : Value) (y : Nat) : Prop := y = gl ∨ y = bS ∨ y = mS ∨ v.ownBlock = some y
/-- Blocks that lie apart. -/
structure NeA (w w0 : World) (gg gS gM gl bS mS : Nat) : Prop where
  g1 : w.heap.size ≤ gg ∧ gg < w0.heap.size
  g2 : w.heap.size ≤ gS ∧ gS < w0.heap.size
  g3 : w.heap.size ≤ gM ∧ gM < w0.heap.size
  g4 : w.heap.size ≤ gl ∧ gl < w0.heap.size
  g5 : w.heap.size ≤ bS ∧ bS < w0.heap.size
  g6 : w.heap.size ≤ mS ∧ mS < w0.heap.size
  n1 : gg ≠ gl ∧ gS ≠ gl ∧ gM ≠ gl
  n2 : bS ≠ mS
section
variable {w w0 W W' W1 : World} {is : List Int} {g gg gS gM gl bS mS : Nat} {v v' : Value} {cw cs cl : List Pt} {p : Pt}
theorem NeI.step (h : NeI w w0 W is g gg gS gM gl bS mS v cw cs cl) {F : Nat → Prop} (k : Stp F W W') (h1 : ¬ F bS) (h2 : ¬ F mS) (h3 : ¬ F gl) (h4 : ∀ r, v.ownBlock = some r → ¬ F r) (h5 : ¬ F gg ∧ ¬ F gS ∧ ¬ F gM) (hb : Below w.heap.size w W') : NeI w w0 W' is g gg gS gM gl bS mS v cw cs cl := by
  obtain ⟨n, e1, e2⟩ := h.ms
  exact ⟨⟨n, e1, e2.step k h1⟩, h.sh.step k h2, h.bl.step k h3, h.ol.step k h4, h.nw, h.cg.step k h5.1, h.cS.step k h5.2.1, h.cM.step k h5.2.2, hb, Nat.le_trans h.z k.size⟩
theorem NeI.later (h : NeI w w0 W is g gg gS gM gl bS mS v cw cs cl) (k : Below W.heap.size W W') : NeI w w0 W' is g gg gS gM gl bS mS v cw cs cl :=
  h.step (Stp.of_below k (fun _ => False)) id id id (fun _ _ => id) ⟨id, id, id⟩ (bnext h.b k (Nat.le_refl _))
theorem NeI.own (A : NeA w w0 gg gS gM gl bS mS) (h : NeI w w0 W is g gg gS gM gl bS mS v cw cs cl) {row : Option Nat} (hg : W.grownBy W' row) (hr : ∀ r, row = some r → w0.heap.size ≤ r ∧ ∃ o : Obj, W.heap[r]? = some o ∧ o.isCells = false) : NeI w w0 W' is g gg gS gM gl bS mS v cw cs cl := by
  have k : Stp (fun x => row = some x) W W' := Stp.of_grown hg (fun x e => .inl e)
  have low : ∀ x, x < w0.heap.size → ¬ (row = some x) := fun x hx e => by have := (hr x e).1; omega
  have hv : ∀ r, v.ownBlock = some r → ¬ (row = some r) := fun r hr' e => by
    obtain ⟨_, o, ho, hc⟩ := hr r e
    rcases h.ol.2 with ⟨e1, _⟩ | ⟨g', c', cur, e1, e2, e3, _⟩
    · rw [e1] at hr'; cases hr'
    · rw [e1] at hr'
      obtain rfl := ob_eq' hr'
      rw [e3] at ho; cases ho; cases hc
  refine h.step k (low _ A.g5.2) (low _ A.g6.2) (low _ A.g4.2) hv ⟨low _ A.g1.2, low _ A.g2.2, low _ A.g3.2⟩ (h.b.grown hg h.b.size (fun x e => ?_))
  have := (hr x e).1
  have := A.g1
  omega
/-- One more is wanted, laid over, told. -/
theorem NeI.want (A : NeA w w0 gg gS gM gl bS mS) (h : NeI w w0 W is g gg gS gM gl bS mS v cw cs cl) {n : Nat} (hn : n ≤ is.length + 6 * cw.length) (h6 : p.needs.length ≤ 6) (hM : MpS W' bS (fun x => wS is cw x || p.needs.contains x) (n + p.needs.length)) (k : Stp (fun x => x = bS) W W') (hv : ∀ r, v.ownBlock = some r → r ≠ bS) (ha : gl ≠ bS ∧ gg ≠ bS ∧ gS ≠ bS ∧ gM ≠ bS) : NeI w w0 W' is g gg gS gM gl bS mS v (cw ++ [p]) cs cl := by
  refine ⟨⟨n + p.needs.length, by simp; omega, by rw [wS_snoc]; exact hM⟩, h.sh.step k (Ne.symm A.n2), h.bl.step k ha.1, h.ol.step k hv, h.nw, h.cg.step k ha.2.1, h.cS.step k ha.2.2.1, h.cM.step k ha.2.2.2, ((Stp.of_below h.b (fun _ => False)).next k (fun x e => .inr (by have := A.g5; omega))).below (Nat.le_refl _) (fun x e => e.elim), Nat.le_trans h.z k.size⟩
theorem NeI.shade (A : NeA w w0 gg gS gM gl bS mS) (h : NeI w w0 W is g gg gS gM gl bS mS v cw cs cl) (hM : MpI Tryz.prog 3 W' mS (shF (cs ++ [p]))) (k : Stp (fun x => x = mS) W W') (hv : ∀ r, v.ownBlock = some r → r ≠ mS) (ha : gl ≠ mS ∧ gg ≠ mS ∧ gS ≠ mS ∧ gM ≠ mS) : NeI w w0 W' is g gg gS gM gl bS mS v cw (cs ++ [p]) cl := by
  obtain ⟨n, e1, e2⟩ := h.ms
  exact ⟨⟨n, e1, e2.step k A.n2⟩, hM, h.bl.step k ha.1, h.ol.step k hv, h.nw, h.cg.step k ha.2.1, h.cS.step k ha.2.2.1, h.cM.step k ha.2.2.2, ((Stp.of_below h.b (fun _ => False)).next k (fun x e => .inr (by have := A.g6; omega))).below (Nat.le_refl _) (fun x e => e.elim), Nat.le_trans h.z k.size⟩
theorem NeI.tell (A : NeA w w0 gg gS gM gl bS mS) (h : NeI w w0 W is g gg gS gM gl bS mS v cw cs cl) (b1 : Below W.heap.size W W1) (hA : Apd W1 w0.heap.size 3 1 v (ids cl).length 1 ((ids cl).map (Value.int .i64) ++ [.int .i64 p.id]) v' W') (h1 : v'.oneCell' = true) :
    NeI w w0 (W'.setCell ⟨gl, 0, none⟩ v') is g gg gS gM gl bS mS v' cw cs (cl ++ [p]) ∧ Stp (fun x => x = gl ∨ v.ownBlock = some x) W (W'.setCell ⟨gl, 0, none⟩ v') ∧ W'.cell? ⟨gl, 0, none⟩ = some v ∧ W'.frozen? ⟨gl, 0, none⟩ = false := by
  obtain ⟨q1, q2, q3, q4, _⟩ := hA
  have hlo : ∀ x, x < w0.heap.size → ¬ v.ownBlock = some x := fun x hx e => by have := h.nw x e; omega
  have s1 : Stp (fun x => v.ownBlock = some x) W W' := (Stp.of_below b1 _).trans q4
  have o1 : OwV W' v' (ids (cl ++ [p])) := by
    unfold OwV
    have : ids (cl ++ [p]) = ids cl ++ [p.id] := by simp [ids]
    rw [this]; simpa using q1
  have c1 := h.bl.step s1 (hlo _ A.g4.2)
  have s2 : Stp (fun x => x = gl) W' (W'.setCell ⟨gl, 0, none⟩ v') := (Stp.refl (fun x => x = gl) W').setCell (p := ⟨gl, 0, none⟩) (.inl rfl) _
  have s12 : Stp (fun x => x = gl ∨ v.ownBlock = some x) W (W'.setCell ⟨gl, 0, none⟩ v') := (s1.mono (fun x e => .inl (.inr e))).trans (s2.mono (fun x e => .inl (.inl e)))
  have hgl : ∀ r, v'.ownBlock = some r → r ≠ gl := fun r e => by have := q2 r e; have := A.g4; omega
  obtain ⟨n, e1, e2⟩ := h.ms
  have hne : ∀ x, x < w0.heap.size → x ≠ gl → ¬ (x = gl ∨ v.ownBlock = some x) := fun x hx e => by rintro (e1 | e1); exact e e1; exact hlo x hx e1
  have hms : bS ≠ gl ∧ mS ≠ gl := by
    refine ⟨fun e => ?_, fun e => ?_⟩
    · exact h.bl.notSet e2 e.symm
    · exact h.bl.notMap h.sh e.symm
  refine ⟨⟨⟨n, e1, e2.step s12 (hne _ A.g5.2 hms.1)⟩, h.sh.step s12 (hne _ A.g6.2 hms.2), c1.set 0 _ h1, o1.step s2 hgl, q2, h.cg.step s12 (hne _ A.g1.2 A.n1.1), h.cS.step s12 (hne _ A.g2.2 A.n1.2.1), h.cM.step s12 (hne _ A.g3.2 A.n1.2.2), ((Stp.of_below h.b (fun _ => False)).next s12 (fun x e => .inr (by rcases e with e | e; have := A.g4; omega; have := h.nw x e; have := A.g4; omega))).below (Nat.le_refl _) (fun x e => e.elim), Nat.le_trans h.z s12.size⟩, s12, c1.cell 0 _ rfl, c1.frozen 0⟩
theorem apd_shape {w w' : World} {B n m : Nat} {v v' : Value} {l : List Value} (hA : Apd w B 3 1 v n m l v' w') : ∃ a n c, v' = .slice a n c := by
  rcases hA.1.2 with ⟨e, _⟩ | ⟨g, cap, cur, e, _⟩
  · exact ⟨_, _, _, e⟩
  · exact ⟨_, _, _, e⟩
end
theorem reverse_own {w : World} {v : Value} {l : List Int} (h : OwV w v l) (hl : l.length ≤ 1000000) :
    Calls Tryz.prog 59 #[v] w fun e w' => e = .returned (.tuple #[]) ∧ OwV w' v l.reverse ∧ Stp (fun x => v.ownBlock = some x) w w' := by
  rcases h.row with ⟨rfl, rfl⟩ | ⟨g, cap, cur, rfl, hw⟩
  · refine Calls.mono (Any.slices_Reverse_int_empty lays112 none 0 w) ?_
    rintro e w' ⟨rfl, rfl⟩
    exact ⟨rfl, OwV.nil _, Stp.refl _ _⟩
  · refine Calls.mono (Any.slices_Reverse_int lays112 g 0 cap l w hw.holds (by omega)) ?_
    rintro e w' ⟨rfl, q, rfl⟩
    refine ⟨rfl, ?_, (putRow_stp w g q _).mono (fun x e => .inl (by subst e; rfl))⟩
    have hlr : l.reverse.length = l.length := List.length_reverse
    rw [← hlr]
    refine Rw1.own (cur := putCells (Value.int .i64) 0 l.reverse.toArray cur) ⟨putRow_heap _ hw.at', by rw [hlr]; exact hw.le, hw.cm, by simp [putCells, hw.size], ?_⟩
    exact take_putCellsI cur l.reverse (by rw [hlr, hw.size]; exact hw.le)
theorem ids_reverse (l : List Pt) : (ids l).reverse = ids l.reverse := by unfold ids; rw [List.map_reverse]
theorem thP_all (l : List Pt) : thP l (fun _ => true) = l := List.filter_eq_self.2 (fun _ _ => rfl)
theorem ids_ne {l : List Pt} (h : 0 < l.length) : ids l ≠ [] := fun e => by
  have := congrArg List.length e
  simp [ids] at this; rw [this] at h; simp at h
theorem ids_len (l : List Pt) : (ids l).length = l.length := by unfold ids; simp
theorem back_stops {w : World} {bx b len cap : Nat} {zs : List Int} (n : Nat) (hn : 1 ≤ n) (hlen : len ≤ 100000) (hpos : 0 < len) (r : Cs w bx [.slice (some ⟨b, 0, none⟩) len cap]) (hc : ∀ j, j < len → w.cell? ⟨b, 0 + j, none⟩ = some (.int .i64 (zs.getD j 0))) (el : Nat → Fin len) (hel : ∀ j, j < len → (el j).1 = j) :
    SeqStopsK Fence.wide n Tryz.prog 77 #[.pointer (some ⟨bx, 0, none⟩)] (fun x : Fin len => #[Value.int .i64 (x.1 : Int), Value.int .i64 (zs.getD x.1 0)]) (Kb b bx) (fun ys => ys = bk el len 0) (fun _ => True) len w := fun l J Jx W hW _ _ hY h0 =>
  back1_in (fun x : Fin len => #[Value.int .i64 (x.1 : Int), Value.int .i64 (zs.getD x.1 0)]) el Fence.wide n trivial rfl hn l bx b 0 len cap zs hlen (fun j hj => by simp only [hel j hj]) J Jx (fun pre x W1 h1 h2 => hY pre x W1 h1 h2) W ((r.later hW).cell 0 _ rfl) (fun j hj => by rw [hW.cell (World.block_lt_of_cell? w _ (hc j hj))]; exact hc j hj) h0
set_option maxRecDepth 100000 in
set_option maxHeartbeats 4000000 in
theorem needed_any {w : World} {g mp mw : Nat} {f fw : Int → Option Value} {Z : GZ} {E F : Nat → Prop} (H : Gr w g mp mw f fw Z E F) {s : Sv} {is : List Int} (hs : InsS w s is) (hl : is.length ≤ 1000) (hzl : Z.l.length ≤ 100) (hn6 : ∀ p ∈ Z.l, p.needs.length ≤ 6) (hne : 0 < Z.l.length) :
    Calls Tryz.prog 30 #[.pointer (some ⟨g, 0, none⟩), .slice s.a s.n s.c] w fun e w' => ∃ v, e = .returned v ∧ OwV w' v (ids (nd is Z.l)) ∧ New w.heap.size v ∧ Below w.heap.size w w' := by
  have hmm := @run_makeMap Tryz.prog
  refine (callsIn_wide (n := 6)).1 ?_
  refine callsIn_of_wp_marks Tryz.func30 rfl trivial ?_ rfl
  simp only [Tryz.ntmps30, List.size_toArray, List.length_cons, List.length_nil, Nat.reduceAdd, Nat.reduceSub, Array.replicate_succ, Array.replicate_zero, List.push_toArray, List.append_toArray, List.nil_append, List.cons_append]
  refine wpIn_wide.2 ?_
  have bA := wA_b w (.pointer (some ⟨g, 0, none⟩))
  have hW := want_any (wA_m w (.pointer (some ⟨g, 0, none⟩))) (hs.later bA) (by omega)
  have gA := wA_g w (.pointer (some ⟨g, 0, none⟩)) rfl
  have vA := wA_v w (.pointer (some ⟨g, 0, none⟩))
  unfold wA at hW
  go_wp2_with (first
    | (go_at_call 55; refine hW.mono ?_; rintro e w3 ⟨rfl, M3, s3⟩; clear hW
       have B3 : Below w.heap.size w w3 := ((Stp.of_below bA (fun _ => False)).next s3 (fun x e => .inr (by omega))).below (Nat.le_refl _) (fun x e => e.elim)
       have g3 := gA.step s3 (by omega)
       have v3 := vA.step s3 (by omega)
       have bB := wB_b w3
       have gB := (g3.later bB).cell 0 _ rfl
       have lB := wB_l w3
       have mB := wB_m w3
       have qB := wB_v w3
       have B4 := bnext B3 bB (Nat.le_refl _)
       have H4 := H.later B4
       have hAll := all_any H4
       unfold wB at gB hAll)
    | (go_at_call 13; refine hAll.mono ?_; rintro e w4 ⟨va, rfl, o4, n4, b4⟩; clear hAll
       rw [thP_all] at o4
       obtain ⟨xb, xc, xcur, rfl, r4⟩ := o4.row1 (ids_ne hne))
    | (go_at_call 56; refine (back_any _ _ _ _).mono ?_; rintro e w5 ⟨bx, rfl, h5, r5, b5⟩
       have l5 := (lB.later b4).later b5)
    )
  refine (wpIn_wide (n := 6)).1 ?_
  rw [ids_len] at r5
  have z3 := B3.size
  have z5 := b5.size
  have zB := bB.size
  have b4' : Below (wB w3).heap.size (wB w3) w4 := b4
  have z4 := b4'.size
  have n4' : (wB w3).heap.size ≤ xb := n4 xb (by simp [Value.ownBlock])
  have lxb : xb < w4.heap.size := r4.lt
  have lbx := r5.lt
  have B5 : Below w.heap.size w w5 := bnext (bnext B4 b4' (Nat.le_refl _)) b5 (Nat.le_refl _)
  have hgM : w3.heap.size + 1 + 1 < (wB w3).heap.size := lB.lt
  have hgv : w.heap.size + 1 + 1 < w3.heap.size := v3.lt
  have A : NeA w w5 w.heap.size (w.heap.size + 1 + 1) (w3.heap.size + 1) (w3.heap.size + 1 + 1) (w.heap.size + 1) w3.heap.size := ⟨by omega, by omega, by omega, by omega, by omega, by omega, by omega, by omega⟩
  have i0 : ∃ v, NeI w w5 w5 is g w.heap.size (w.heap.size + 1 + 1) (w3.heap.size + 1) (w3.heap.size + 1 + 1) (w.heap.size + 1) w3.heap.size v [] [] [] := by
    refine ⟨.slice none 0 0, ⟨⟨is.length, by omega, ?_⟩, ?_, l5, ⟨rfl, .inl ⟨rfl, rfl⟩⟩, (fun r e => by cases e), ((g3.later bB).later b4').later b5, ((v3.later bB).later b4').later b5, (qB.later b4').later b5, B5, Nat.le_refl _⟩⟩
    · rw [wS_nil]
      have := ((M3.later bB).later b4').later b5
      rw [Nat.zero_add] at this; exact this
    · rw [shF_nil]; exact (mB.later b4').later b5
  have hord : w.heap.size + 1 < (wB w3).heap.size ∧ w3.heap.size < (wB w3).heap.size := ⟨by omega, by omega⟩
  have hcells : ∀ j, j < Z.l.length → w5.cell? ⟨xb, 0 + j, none⟩ = some (.int .i64 ((ids Z.l).getD j 0)) := fun j hj => by
    have h1 := r4.cell j (by rw [ids_len]; exact hj)
    rw [Nat.zero_add, b5.cell (World.block_lt_of_cell? w4 _ h1)]; exact h1
  clear gB hmm gA vA bA s3 g3 v3 bB lB mB qB B4 H4 b4 o4 n4 r4 l5 M3
  generalize w3.heap.size + 1 + 1 = gl at *
  generalize w3.heap.size + 1 = gM at *
  generalize w3.heap.size = mS at *
  generalize w.heap.size + 1 + 1 = gS at *
  generalize w.heap.size + 1 = bS at *
  generalize hgg : w.heap.size = gg at A i0 ⊢
  have hgg' : Hid (w.heap.size = gg) := hgg
  clear hgg
  refine wpIn_rangeFunc_ownG (F := Fence.wide) (n := 6) (w0 := w5) rfl (by omega) (gf := 77) (lb := #[.pointer (some ⟨bx, 0, none⟩)]) rfl trivial (enters_of Tryz.func77 (by kernel_rfl) rfl)
    (back_stops 5 (by omega) (by omega) hne r5 hcells (fun j => if h : j < Z.l.length then ⟨j, h⟩ else ⟨0, hne⟩) (fun j hj => by simp [hj])) (fun h k => h.trans k) (kb_put (by omega) lbx) (Below.refl _ _) (fun _ => rfl)
    (fun pre W => ∃ v, NeI w w5 W is g gg gS gM gl bS mS v (chL is Z.l pre) (chL is Z.l pre) (chL is Z.l pre))
    (fun _ _ _ => False)
    (fun pre W W' row h hg hr => h.imp (fun v h => h.own A hg hr))
    (fun _ _ _ _ _ hs _ _ => hs)
    i0 ?a1 ?assign ?body ?done ?stop
  case assign =>
    intro l x W K hK
    gi_wp2
    exact hK
  case stop => exact fun D c pre W _ _ h _ => h.elim
  case body =>
    rintro l pre x W ⟨v0, I0⟩ hlt
    have hcs := chL_sub (is := is) (l := Z.l) pre
    have hcl := chL_len (is := is) (l := Z.l) pre
    have hcn := chL_snoc is Z.l pre x
    have fin : ∀ {W' : World} {v' : Value}, NeI w w5 W' is g gg gS gM gl bS mS v' (chS is Z.l (chL is Z.l pre) x) (chS is Z.l (chL is Z.l pre) x) (chS is Z.l (chL is Z.l pre) x) → Stp (NeF gl bS mS v0) W W' → KeepsFrom w5.heap.size W W' ∧ Kb xb bx W W' ∧ ∃ v, NeI w w5 W' is g gg gS gM gl bS mS v (chL is Z.l (pre ++ [x])) (chL is Z.l (pre ++ [x])) (chL is Z.l (pre ++ [x])) := fun {W' v'} h k => by
      rw [hcn]
      have hz := I0.z
      refine ⟨keeps_stp k (fun y o hB hF ho => ?_), kb_stp k (by omega) (by omega) (fun e => ?_) (fun e => ?_), v', h⟩
      · rcases hF with e | e | e | e
        · have := A.g4; omega
        · have := A.g5; omega
        · have := A.g6; omega
        · rcases I0.ol.2 with ⟨e1, _⟩ | ⟨g', c', cur, e1, e2, e3, _⟩
          · rw [e1] at e; cases e
          · rw [e1] at e
            obtain rfl := ob_eq' e
            rw [e3] at ho; cases ho; rfl
      · rcases e with e | e | e | e
        · omega
        · omega
        · omega
        · have := I0.nw _ e; omega
      · rcases e with e | e | e | e
        · omega
        · omega
        · omega
        · have := I0.nw _ e; omega
    clear hcn
    generalize chL is Z.l pre = c at *
    have HW := H.later I0.b
    obtain ⟨p, hp⟩ : ∃ p, Z.l[x.1]? = some p := ⟨_, List.getElem?_eq_getElem x.2⟩
    have hpm := List.mem_of_getElem? hp
    have hid : (ids Z.l)[x.1]?.getD 0 = p.id := by unfold ids; rw [List.getElem?_map, hp]; rfl
    obtain ⟨d4, n4, e4, m4, _⟩ := HW.look p.id
    rw [H.ok.gt_of hpm] at e4 m4
    have hwp := H.ok.wfp hpm
    have hfp := H.ok.ft p hpm
    have hnp := hn6 p hpm
    rw [hid]
    have pmW := HW.pm
    obtain ⟨z0, z1, z2⟩ := HW.cells
    have cg := I0.cg.cell 0 _ rfl
    have hsw := wnt_split is c p
    have hfc : ∀ q ∈ wtP c p.at', fit q = true ∧ q.at' = p.at' := fun q hq => by
      obtain ⟨k1, k2, _⟩ := wtP_mem.1 hq
      exact ⟨H.ok.ft q (hcs q k1), k2⟩
    have hmt := mtS_is p hfp (wtP c p.at') hfc
    have hshl := sh_lt (wtP c p.at') (fun q hq => (hfc q hq).1)
    rw [← hmt] at hsw
    have hMe := fun (u : World) => meets_any (shB (wtP c p.at')) (shK (wtP c p.at')) p d4 n4 u hshl.1 hshl.2 hfp m4.bs.len.symm
    have eS := shF_get c p.at'
    clear hmt hfc
    obtain ⟨mt, emt⟩ : ∃ mt, mt = mtS (shB (wtP c p.at')) (shK (wtP c p.at')) p := ⟨_, rfl⟩
    rw [← emt] at hsw
    simp only [← emt] at hMe
    obtain ⟨inn, ein⟩ : ∃ inn, inn = wS is c p.id := ⟨_, rfl⟩
    rw [← ein] at hsw
    have hE1 : ∀ n, MpS W bS (wS is c) n → (stF (wS is c) p.id).getD (.agg #[]) = .agg #[] ∧ (stF (wS is c) p.id).isSome = inn := fun n _ => by
      rw [ein]; unfold stF; cases wS is c p.id <;> exact ⟨rfl, rfl⟩
    obtain ⟨nn, hnn, hMS⟩ := I0.ms
    obtain ⟨eI1, eI2⟩ := hE1 nn hMS
    clear hE1 ein emt
    have t1 : True := trivial
    have t2 : True := trivial
    cases hw : wnt is c p with
    | false =>
      have hsw' : inn = false ∧ (p.wr = true ∨ mt = false) := by
        rw [hw] at hsw
        have h9 := hsw.symm
        simp only [Bool.or_eq_false_iff, Bool.and_eq_false_iff, Bool.not_eq_false'] at h9
        exact h9
      obtain ⟨hi, hwm⟩ := hsw'
      subst hi
      clear hsw
      by_cases hwr : p.wr = true
      · gi_wp2_with (first
          | (clear t1; refine list_in (fun ⟨_, _, h⟩ => h) _ _ _ (by rfl) ?_
             go_wp2_with (first
               | (clear t2; refine at_look1 74 54 uPm _ zP (by rfl) _ _ (by rfl) mp f (by rfl) pmW p.id (by rfl) hwp.i _ e4 ?_)
               | (refine at_newP (by rfl) (by rfl) ?_; intro gp w1 a1 a2 r1 b1)
               | (refine at_putP (by rfl) _ _ (by rfl) gp (by rfl) p d4 n4 (by rfl) _ r1 rfl ?_; intro w2 r2 s2
                  have B2 : Below W.heap.size W w2 := ((Stp.of_below b1 (fun _ => False)).next s2 (fun x e => .inr (by omega))).below (Nat.le_refl _) (fun x e => e.elim)
                  have I2 := I0.later B2
                  have cS2 := I2.cS.cell 0 _ rfl
                  have M2 := (hMS.later B2).mp (by omega)
                  have b3 : Below w2.heap.size w2 (w2.alloc (.cells #[] 93)) := (Below.refl _ w2).alloc (Nat.le_refl _) _
                  have I3 := I2.later b3
                  have B3w := bnext B2 b3 (Nat.le_refl _)
                  have M3 := hMS.later B3w
                  have r3 := r2.later b3
                  have cM3 := I3.cM.cell 0 _ rfl
                  have cl3 := I3.bl.cell 0 _ rfl
                  have sh3 := I3.sh
                  obtain ⟨k0, k1, k2, k3, k4, k5, k6, k7, k8⟩ := Pt.cells r3
                  clear r2 s2 b1 r1 I2 b3
                  have t8 : True := trivial
                  have t9 : True := trivial)))
          | (clear t8; refine list_in (fun ⟨_, _, h⟩ => h) _ _ _ (by rfl) ?_
             go_wp2_with (first
               | (clear t9; refine at_look2' 87 93 uSm _ zE (by rfl) _ _ (by rfl) bS _ (by rfl) M2 p.id (by rfl) hwp.i _ eI1 _ eI2 ?_; clear M2 cS2; have t10 : True := trivial)))
          | (clear t10; have t13 : True := trivial; generalize w2.alloc (.cells #[] 93) = u3 at *; refine list_in (fun ⟨_, _, h⟩ => h) _ _ _ (by rfl) ?_
             go_wp2_with fail))
        refine fin (v' := v0) (by rw [chS_no hp hw]; exact I3) (Stp.of_below B3w _)
      · have hwr : p.wr = false := by simpa using hwr
        obtain rfl : mt = false := by rcases hwm with h | h; rw [hwr] at h; cases h; exact h
        gi_wp2_with (first
          | (clear t1; refine list_in (fun ⟨_, _, h⟩ => h) _ _ _ (by rfl) ?_
             go_wp2_with (first
               | (clear t2; refine at_look1 74 54 uPm _ zP (by rfl) _ _ (by rfl) mp f (by rfl) pmW p.id (by rfl) hwp.i _ e4 ?_)
               | (refine at_newP (by rfl) (by rfl) ?_; intro gp w1 a1 a2 r1 b1)
               | (refine at_putP (by rfl) _ _ (by rfl) gp (by rfl) p d4 n4 (by rfl) _ r1 rfl ?_; intro w2 r2 s2
                  have B2 : Below W.heap.size W w2 := ((Stp.of_below b1 (fun _ => False)).next s2 (fun x e => .inr (by omega))).below (Nat.le_refl _) (fun x e => e.elim)
                  have I2 := I0.later B2
                  have cS2 := I2.cS.cell 0 _ rfl
                  have M2 := (hMS.later B2).mp (by omega)
                  have b3 : Below w2.heap.size w2 (w2.alloc (.cells #[] 93)) := (Below.refl _ w2).alloc (Nat.le_refl _) _
                  have I3 := I2.later b3
                  have B3w := bnext B2 b3 (Nat.le_refl _)
                  have M3 := hMS.later B3w
                  have r3 := r2.later b3
                  have cM3 := I3.cM.cell 0 _ rfl
                  have cl3 := I3.bl.cell 0 _ rfl
                  have sh3 := I3.sh
                  obtain ⟨k0, k1, k2, k3, k4, k5, k6, k7, k8⟩ := Pt.cells r3
                  clear r2 s2 b1 r1 I2 b3
                  have t8 : True := trivial
                  have t9 : True := trivial)))
          | (clear t8; refine list_in (fun ⟨_, _, h⟩ => h) _ _ _ (by rfl) ?_
             go_wp2_with (first
               | (clear t9; refine at_look2' 87 93 uSm _ zE (by rfl) _ _ (by rfl) bS _ (by rfl) M2 p.id (by rfl) hwp.i _ eI1 _ eI2 ?_; clear M2 cS2; have t10 : True := trivial)))
          | (clear t10; generalize w2.alloc (.cells #[] 93) = u3 at *; refine list_in (fun ⟨_, _, h⟩ => h) _ _ _ (by rfl) ?_
             have t11 : True := trivial
             have t12 : True := trivial
             go_wp2_with (first
               | (clear t11; refine at_look1 89 96 uSh _ zSh (by rfl) _ _ (by rfl) mS _ (by rfl) sh3 p.at' (by rfl) hwp.s _ eS ?_)
               | (clear t12; refine at_getP0 (by rfl) _ (by rfl) gp (by rfl) p d4 n4 r3 ?_)
               | (go_at_call 57; refine (hMe _).mono ?_; rintro e w9 ⟨rfl, b9⟩
                  have I9 := I3.later b9
                  have r9 := r3.later b9
                  have B9w := bnext B3w b9 (Nat.le_refl _)
                  have M9 := M3.later b9
                  have cl9 := I9.bl.cell 0 _ rfl
                  have t13 : True := trivial))))
        refine fin (v' := v0) (by rw [chS_no hp hw]; exact I9) (Stp.of_below B9w _)
    | true =>
      have hWi := fun (u : World) => with_any (shB (wtP c p.at')) (shK (wtP c p.at')) p d4 n4 u hshl.1 hshl.2 hfp m4.bs.len.symm
      obtain ⟨va, vn, vc, rfl⟩ := I0.ol.shape
      have hvlt : ∀ r, (Value.slice va vn vc).ownBlock = some r → r < W.heap.size := fun r hr => I0.ol.lt hr
      have hbig : (ids c).length + 1 ≤ 1000000 := by rw [ids_len]; omega
      have hzW := I0.z
      have hgp : ∀ gp, W.heap.size ≤ gp → ¬ (gp = gl ∨ (Value.slice va vn vc).ownBlock = some gp) := fun gp h1 e => by
        rcases e with e | e
        · have := A.g4; omega
        · have := hvlt gp e; omega
      have hgb : ∀ gp, W.heap.size ≤ gp → ¬ gp = bS := fun gp h1 e => by have := A.g5; omega
      have hEF : ∀ y, E y → ¬ NeF gl bS mS (.slice va vn vc) y := fun y hy e => by
        have := H.el y hy
        rcases e with e | e | e | e
        · have := A.g4; omega
        · have := A.g5; omega
        · have := A.g6; omega
        · have := I0.nw y e; have := A.g4; omega
      have hbS : ¬ (bS = gl ∨ (Value.slice va vn vc).ownBlock = some bS) := fun e => by
        rcases e with e | e
        · exact I0.bl.notSet hMS e.symm
        · have := I0.nw _ e; have := A.g5; omega
      have hv10 : ∀ {v' : Value}, New w5.heap.size v' → ∀ r, v'.ownBlock = some r → r ≠ bS := fun h r e e2 => by have := h r e; have := A.g5; omega
      have hv11 : ∀ {v' : Value}, New w5.heap.size v' → ∀ r, v'.ownBlock = some r → r ≠ mS := fun h r e e2 => by have := h r e; have := A.g6; omega
      have hab : gl ≠ bS ∧ gg ≠ bS ∧ gS ≠ bS ∧ gM ≠ bS := ⟨I0.bl.notSet hMS, I0.cg.notSet hMS, I0.cS.notSet hMS, I0.cM.notSet hMS⟩
      have hac : gl ≠ mS ∧ gg ≠ mS ∧ gS ≠ mS ∧ gM ≠ mS := ⟨I0.bl.notMap I0.sh, I0.cg.notMap I0.sh, I0.cS.notMap I0.sh, I0.cM.notMap I0.sh⟩
      have hkS := shF_keys c (fun q hq => H.ok.ft q (hcs q hq))
      cases inn with
      | true =>
        clear hsw
        by_cases hwr : p.wr = true
        · gi_wp2_with (first
          | (clear t1; refine list_in (fun ⟨_, _, h⟩ => h) _ _ _ (by rfl) ?_
             go_wp2_with (first
               | (clear t2; refine at_look1 74 54 uPm _ zP (by rfl) _ _ (by rfl) mp f (by rfl) pmW p.id (by rfl) hwp.i _ e4 ?_)
               | (refine at_newP (by rfl) (by rfl) ?_; intro gp w1 a1 a2 r1 b1)
               | (refine at_putP (by rfl) _ _ (by rfl) gp (by rfl) p d4 n4 (by rfl) _ r1 rfl ?_; intro w2 r2 s2
                  have B2 : Below W.heap.size W w2 := ((Stp.of_below b1 (fun _ => False)).next s2 (fun x e => .inr (by omega))).below (Nat.le_refl _) (fun x e => e.elim)
                  have I2 := I0.later B2
                  have cS2 := I2.cS.cell 0 _ rfl
                  have M2 := (hMS.later B2).mp (by omega)
                  have b3 : Below w2.heap.size w2 (w2.alloc (.cells #[] 93)) := (Below.refl _ w2).alloc (Nat.le_refl _) _
                  have I3 := I2.later b3
                  have B3w := bnext B2 b3 (Nat.le_refl _)
                  have M3 := hMS.later B3w
                  have r3 := r2.later b3
                  have cM3 := I3.cM.cell 0 _ rfl
                  have cl3 := I3.bl.cell 0 _ rfl
                  have sh3 := I3.sh
                  obtain ⟨k0, k1, k2, k3, k4, k5, k6, k7, k8⟩ := Pt.cells r3
                  clear r2 s2 b1 r1 I2 b3
                  have t8 : True := trivial
                  have t9 : True := trivial)))
          | (clear t8; refine list_in (fun ⟨_, _, h⟩ => h) _ _ _ (by rfl) ?_
             go_wp2_with (first
               | (clear t9; refine at_look2' 87 93 uSm _ zE (by rfl) _ _ (by rfl) bS _ (by rfl) M2 p.id (by rfl) hwp.i _ eI1 _ eI2 ?_; clear M2 cS2; have t10 : True := trivial)))
          | (clear t10; have t13 : True := trivial; generalize w2.alloc (.cells #[] 93) = u3 at *; refine list_in (fun ⟨_, _, h⟩ => h) _ _ _ (by rfl) ?_
             go_wp2_with fail)
          | (clear t13; refine list_in (fun ⟨_, _, h⟩ => h) _ _ _ (by rfl) ?_
             have bA : Below u3.heap.size u3 (u3.alloc (.cells #[.int .i64 p.id] 3)) := (Below.refl _ _).alloc (Nat.le_refl _) _
             go_wp2_with (first
               | (at_builtin; refine at_appR elI w5.heap.size rfl _ _ (by rfl) (by rfl) (ro_later I3.ol bA) I3.nw (some ⟨u3.heap.size, 0, none⟩) 1 [.int .i64 p.id] (by rfl) (by simp) (fun e => by cases e) (fun ad e => by injection e with e; subst e; exact cell_one_new _ _ _) (by simp [Value.oneCell']) hbig (Nat.le_trans I3.z bA.size) ?_
                  intro v10 w10 hA
                  obtain ⟨xa, xn, xc', rfl⟩ := apd_shape hA
                  obtain ⟨I10, S10, f1, f2⟩ := NeI.tell A I3 bA hA rfl
                  have S10w : Stp (NeF gl bS mS (.slice va vn vc)) W (w10.setCell ⟨gl, 0, none⟩ (.slice xa xn xc')) := (Stp.of_below B3w (NeF gl bS mS (.slice va vn vc))).next S10 (fun y e => .inl (by rcases e with e | e; exact .inl e; exact .inr (.inr (.inr e))))
                  have r10 := r3.step S10 (hgp gp a1)
                  have m10 := m4.step S10w hEF
                  have M10 := M3.step S10 hbS
                  have cS10 := I10.cS.cell 0 _ rfl
                  obtain ⟨_, _, _, _, _, q5, _, _, _⟩ := Pt.cells r10
                  clear hA
                  have t14 : True := trivial)))
          | (clear t14; refine list_in (fun ⟨_, _, h⟩ => h) _ _ _ (by rfl) ?_
             go_wp2_with (first
               | (go_at_call 55; refine (want_any M10 m10.is (by omega)).mono ?_; rintro e w11 ⟨rfl, M11, s11⟩
                  have I11 := I10.want A hnn hnp M11 s11 (hv10 I10.nw) hab
                  have r11 := r10.step s11 (hgb gp a1)
                  have S11 : Stp (NeF gl bS mS (.slice va vn vc)) W w11 := S10w.next s11 (fun y e => .inl (.inr (.inl e)))
                  obtain ⟨_, _, _, _, _, _, _, _, p8⟩ := Pt.cells r11))))
          refine fin (v' := .slice xa xn xc') ?_ S11
          rw [chS_yes hp hw]
          have e9 := shF_same c p hwr
          exact ⟨I11.ms, by rw [e9]; exact I11.sh, I11.bl, I11.ol, I11.nw, I11.cg, I11.cS, I11.cM, I11.b, I11.z⟩
        · have hwr : p.wr = false := by simpa using hwr
          gi_wp2_with (first
          | (clear t1; refine list_in (fun ⟨_, _, h⟩ => h) _ _ _ (by rfl) ?_
             go_wp2_with (first
               | (clear t2; refine at_look1 74 54 uPm _ zP (by rfl) _ _ (by rfl) mp f (by rfl) pmW p.id (by rfl) hwp.i _ e4 ?_)
               | (refine at_newP (by rfl) (by rfl) ?_; intro gp w1 a1 a2 r1 b1)
               | (refine at_putP (by rfl) _ _ (by rfl) gp (by rfl) p d4 n4 (by rfl) _ r1 rfl ?_; intro w2 r2 s2
                  have B2 : Below W.heap.size W w2 := ((Stp.of_below b1 (fun _ => False)).next s2 (fun x e => .inr (by omega))).below (Nat.le_refl _) (fun x e => e.elim)
                  have I2 := I0.later B2
                  have cS2 := I2.cS.cell 0 _ rfl
                  have M2 := (hMS.later B2).mp (by omega)
                  have b3 : Below w2.heap.size w2 (w2.alloc (.cells #[] 93)) := (Below.refl _ w2).alloc (Nat.le_refl _) _
                  have I3 := I2.later b3
                  have B3w := bnext B2 b3 (Nat.le_refl _)
                  have M3 := hMS.later B3w
                  have r3 := r2.later b3
                  have cM3 := I3.cM.cell 0 _ rfl
                  have cl3 := I3.bl.cell 0 _ rfl
                  have sh3 := I3.sh
                  obtain ⟨k0, k1, k2, k3, k4, k5, k6, k7, k8⟩ := Pt.cells r3
                  clear r2 s2 b1 r1 I2 b3
                  have t8 : True := trivial
                  have t9 : True := trivial)))
          | (clear t8; refine list_in (fun ⟨_, _, h⟩ => h) _ _ _ (by rfl) ?_
             go_wp2_with (first
               | (clear t9; refine at_look2' 87 93 uSm _ zE (by rfl) _ _ (by rfl) bS _ (by rfl) M2 p.id (by rfl) hwp.i _ eI1 _ eI2 ?_; clear M2 cS2; have t10 : True := trivial)))
          | (clear t10; have t13 : True := trivial; generalize w2.alloc (.cells #[] 93) = u3 at *; refine list_in (fun ⟨_, _, h⟩ => h) _ _ _ (by rfl) ?_
             go_wp2_with fail)
          | (clear t13; refine list_in (fun ⟨_, _, h⟩ => h) _ _ _ (by rfl) ?_
             have bA : Below u3.heap.size u3 (u3.alloc (.cells #[.int .i64 p.id] 3)) := (Below.refl _ _).alloc (Nat.le_refl _) _
             go_wp2_with (first
               | (at_builtin; refine at_appR elI w5.heap.size rfl _ _ (by rfl) (by rfl) (ro_later I3.ol bA) I3.nw (some ⟨u3.heap.size, 0, none⟩) 1 [.int .i64 p.id] (by rfl) (by simp) (fun e => by cases e) (fun ad e => by injection e with e; subst e; exact cell_one_new _ _ _) (by simp [Value.oneCell']) hbig (Nat.le_trans I3.z bA.size) ?_
                  intro v10 w10 hA
                  obtain ⟨xa, xn, xc', rfl⟩ := apd_shape hA
                  obtain ⟨I10, S10, f1, f2⟩ := NeI.tell A I3 bA hA rfl
                  have S10w : Stp (NeF gl bS mS (.slice va vn vc)) W (w10.setCell ⟨gl, 0, none⟩ (.slice xa xn xc')) := (Stp.of_below B3w (NeF gl bS mS (.slice va vn vc))).next S10 (fun y e => .inl (by rcases e with e | e; exact .inl e; exact .inr (.inr (.inr e))))
                  have r10 := r3.step S10 (hgp gp a1)
                  have m10 := m4.step S10w hEF
                  have M10 := M3.step S10 hbS
                  have cS10 := I10.cS.cell 0 _ rfl
                  obtain ⟨_, _, _, _, _, q5, _, _, _⟩ := Pt.cells r10
                  clear hA
                  have t14 : True := trivial)))
          | (clear t14; refine list_in (fun ⟨_, _, h⟩ => h) _ _ _ (by rfl) ?_
             go_wp2_with (first
               | (go_at_call 55; refine (want_any M10 m10.is (by omega)).mono ?_; rintro e w11 ⟨rfl, M11, s11⟩
                  have I11 := I10.want A hnn hnp M11 s11 (hv10 I10.nw) hab
                  have r11 := r10.step s11 (hgb gp a1)
                  have S11 : Stp (NeF gl bS mS (.slice va vn vc)) W w11 := S10w.next s11 (fun y e => .inl (.inr (.inl e)))
                  obtain ⟨_, _, _, _, _, _, _, _, p8⟩ := Pt.cells r11))))
          have cM11 := I11.cM.cell 0 _ rfl
          have hx2 := m10.bs.len
          refine in_region_last (S := fun u => Below w11.heap.size w11 u) _ _ (fun ⟨_, _, h⟩ => h) (by rfl) (by simp only [List.pop_toArray, List.dropLast_cons_cons, List.dropLast_singleton]; rfl) (by simp only [List.back?_toArray, List.getLast?_cons_cons, List.getLast?_singleton]; rfl) (by kernel_rfl) (by kernel_rfl) (Below.refl _ _).drew (fun hHeld => ?_)
          refine wpAnyH_take (i := 0) (oi := { dst := some 61, op := Op.load 89 (Operand.tmp 6), type := 89, pos := _, after := #[], guard := none }) (v := .map (some mS)) rfl (by kernel_rfl) (by kernel_rfl) (by kernel_rfl) (fun _ _ _ h => h) (Or.inl ⟨by rfl, ?_⟩) hHeld ?_
          · intro u hu
            have x1 := (I11.cM.later hu).cell 0 _ rfl; go_simp
          try simp only [Act.put, List.setIfInBounds_toArray, List.set_cons_zero, List.set_cons_succ]
          refine wpAnyH_take (i := 1) (oi := { dst := some 62, op := Op.fieldAddr 54 (Operand.tmp 10) 1, type := 0, pos := _, after := #[], guard := none }) (v := .pointer (some ⟨gp, 1, none⟩)) rfl (by kernel_rfl) (by kernel_rfl) (by kernel_rfl) (fun _ _ _ h => h) (Or.inl ⟨by rfl, ?_⟩) hHeld ?_
          · intro u hu
            go_simp
          try simp only [Act.put, List.setIfInBounds_toArray, List.set_cons_zero, List.set_cons_succ]
          refine wpAnyH_take (i := 2) (oi := { dst := some 63, op := Op.load 3 (Operand.tmp 62), type := 3, pos := _, after := #[{ on := 1, ground := Ground.data }], guard := none }) (v := .int .i64 p.at') rfl (by kernel_rfl) (by kernel_rfl) (by kernel_rfl) (fun _ _ _ h => h) (Or.inl ⟨by rfl, ?_⟩) hHeld ?_
          · intro u hu
            have x1 := (r11.later hu).cell 1 _ rfl; go_simp
          try simp only [Act.put, List.setIfInBounds_toArray, List.set_cons_zero, List.set_cons_succ]
          refine wpAnyH_take (i := 3) (oi := { dst := some 64, op := Op.load 89 (Operand.tmp 6), type := 89, pos := _, after := #[], guard := none }) (v := .map (some mS)) rfl (by kernel_rfl) (by kernel_rfl) (by kernel_rfl) (fun _ _ _ h => h) (Or.inl ⟨by rfl, ?_⟩) hHeld ?_
          · intro u hu
            have x1 := (I11.cM.later hu).cell 0 _ rfl; go_simp
          try simp only [Act.put, List.setIfInBounds_toArray, List.set_cons_zero, List.set_cons_succ]
          refine wpAnyH_take (i := 4) (oi := { dst := some 65, op := Op.fieldAddr 54 (Operand.tmp 10) 1, type := 0, pos := _, after := #[], guard := none }) (v := .pointer (some ⟨gp, 1, none⟩)) rfl (by kernel_rfl) (by kernel_rfl) (by kernel_rfl) (fun _ _ _ h => h) (Or.inl ⟨by rfl, ?_⟩) hHeld ?_
          · intro u hu
            go_simp
          try simp only [Act.put, List.setIfInBounds_toArray, List.set_cons_zero, List.set_cons_succ]
          refine wpAnyH_take (i := 5) (oi := { dst := some 66, op := Op.load 3 (Operand.tmp 65), type := 3, pos := _, after := #[{ on := 4, ground := Ground.data }], guard := none }) (v := .int .i64 p.at') rfl (by kernel_rfl) (by kernel_rfl) (by kernel_rfl) (fun _ _ _ h => h) (Or.inl ⟨by rfl, ?_⟩) hHeld ?_
          · intro u hu
            have x1 := (r11.later hu).cell 1 _ rfl; go_simp
          try simp only [Act.put, List.setIfInBounds_toArray, List.set_cons_zero, List.set_cons_succ]
          refine wpAnyH_take (i := 6) (oi := { dst := some 67, op := Op.lookup 89 (Operand.tmp 64) (Operand.tmp 66) false, type := 96, pos := _, after := #[{ on := 3, ground := Ground.data }, { on := 5, ground := Ground.data }], guard := none }) (v := .agg (shC (shB (wtP c p.at')) (shK (wtP c p.at'))).toArray) rfl (by kernel_rfl) (by kernel_rfl) (by kernel_rfl) (fun _ _ _ h => h)
            (yields_M' 89 96 uSh _ zSh (by rfl) _ _ (by rfl) mS _ (by rfl) p.at' (by rfl) hwp.s (fun u hu => I11.sh.later hu) _ eS) hHeld ?_
          try simp only [Act.put, List.setIfInBounds_toArray, List.set_cons_zero, List.set_cons_succ]
          refine wpAnyH_take (i := 7) (oi := { dst := some 68, op := Op.load 54 (Operand.tmp 10), type := 54, pos := _, after := #[], guard := none }) (v := .agg (p.cs d4 n4).toArray) rfl (by kernel_rfl) (by kernel_rfl) (by kernel_rfl) (fun _ _ _ h => h)
            (yields_P (by rfl) _ (by rfl) gp (by rfl) p d4 n4 (fun u hu => r11.later hu)) hHeld ?_
          try simp only [Act.put, List.setIfInBounds_toArray, List.set_cons_zero, List.set_cons_succ]
          refine wpAnyH_ready (rs := [8]) (by kernel_rfl) (by simp) ?_
          refine (AllReadyH.cons (o := { dst := some 69, op := Op.call { callee := Callee.value (Operand.func 58), args := #[Operand.tmp 67, Operand.tmp 68], argTypes := #[96, 54] }, type := 96, pos := _, after := #[{ on := 6, ground := Ground.data }, { on := 7, ground := Ground.data }], guard := none }) rfl (fun K hK => ?_) AllReadyH.nil)
          go_simp
          refine (hWi _).mono ?_
          rintro e w12 ⟨rfl, b12⟩
          try go_wp2_with fail
          refine hK.out _ _ (bnext hHeld b12 (Nat.le_refl _)) (fun hHeld => ?_)
          clear hK K
          try simp only [Act.put, List.setIfInBounds_toArray, List.set_cons_zero, List.set_cons_succ]
          refine wpAnyH_done (by kernel_rfl) ?_ _
          show wpList _ _ _ [_] _ _
          have I12 := I11.later hHeld
          refine at_updM 89 96 uSh (by rfl) _ _ _ (by rfl) mS _ (by rfl) p.at' (by rfl) (.agg (shC (oB (shB (wtP c p.at')) p) (oK (shK (wtP c p.at')) p)).toArray) (by rfl) I12.sh hkS hwp.s ?_
          intro w13 m13 s13
          rw [show oB (shB (wtP c p.at')) p = shB (wtP c p.at' ++ [p]) from (shB_snoc _ _).symm, show oK (shK (wtP c p.at')) p = shK (wtP c p.at' ++ [p]) from (shK_snoc _ _).symm, ← shF_put c p hwr] at m13
          have I13 := I12.shade A m13 s13 (hv11 I10.nw) hac
          have S13 : Stp (NeF gl bS mS (.slice va vn vc)) W w13 := (S11.next (Stp.of_below hHeld (fun _ => False)) (fun y e => e.elim)).next s13 (fun y e => .inl (.inr (.inr (.inl e))))
          simp only [Act.put]
          go_wp2_with fail
          refine fin (v' := .slice xa xn xc') ?_ S13
          rw [chS_yes hp hw]
          exact I13
      | false =>
        have hsw' : p.wr = false ∧ mt = true := by
          rw [hw] at hsw
          have h9 := hsw.symm
          simp only [Bool.false_or, Bool.and_eq_true, Bool.not_eq_true'] at h9
          exact h9
        obtain ⟨hwr, rfl⟩ := hsw'
        clear hsw
        gi_wp2_with (first
          | (clear t1; refine list_in (fun ⟨_, _, h⟩ => h) _ _ _ (by rfl) ?_
             go_wp2_with (first
               | (clear t2; refine at_look1 74 54 uPm _ zP (by rfl) _ _ (by rfl) mp f (by rfl) pmW p.id (by rfl) hwp.i _ e4 ?_)
               | (refine at_newP (by rfl) (by rfl) ?_; intro gp w1 a1 a2 r1 b1)
               | (refine at_putP (by rfl) _ _ (by rfl) gp (by rfl) p d4 n4 (by rfl) _ r1 rfl ?_; intro w2 r2 s2
                  have B2 : Below W.heap.size W w2 := ((Stp.of_below b1 (fun _ => False)).next s2 (fun x e => .inr (by omega))).below (Nat.le_refl _) (fun x e => e.elim)
                  have I2 := I0.later B2
                  have cS2 := I2.cS.cell 0 _ rfl
                  have M2 := (hMS.later B2).mp (by omega)
                  have b3 : Below w2.heap.size w2 (w2.alloc (.cells #[] 93)) := (Below.refl _ w2).alloc (Nat.le_refl _) _
                  have I3 := I2.later b3
                  have B3w := bnext B2 b3 (Nat.le_refl _)
                  have M3 := hMS.later B3w
                  have r3 := r2.later b3
                  have cM3 := I3.cM.cell 0 _ rfl
                  have cl3 := I3.bl.cell 0 _ rfl
                  have sh3 := I3.sh
                  obtain ⟨k0, k1, k2, k3, k4, k5, k6, k7, k8⟩ := Pt.cells r3
                  clear r2 s2 b1 r1 I2 b3
                  have t8 : True := trivial
                  have t9 : True := trivial)))
          | (clear t8; refine list_in (fun ⟨_, _, h⟩ => h) _ _ _ (by rfl) ?_
             go_wp2_with (first
               | (clear t9; refine at_look2' 87 93 uSm _ zE (by rfl) _ _ (by rfl) bS _ (by rfl) M2 p.id (by rfl) hwp.i _ eI1 _ eI2 ?_; clear M2 cS2; have t10 : True := trivial)))
          | (clear t10; generalize w2.alloc (.cells #[] 93) = u3 at *; refine list_in (fun ⟨_, _, h⟩ => h) _ _ _ (by rfl) ?_
             have t11 : True := trivial
             have t12 : True := trivial
             go_wp2_with (first
               | (clear t11; refine at_look1 89 96 uSh _ zSh (by rfl) _ _ (by rfl) mS _ (by rfl) sh3 p.at' (by rfl) hwp.s _ eS ?_)
               | (clear t12; refine at_getP0 (by rfl) _ (by rfl) gp (by rfl) p d4 n4 r3 ?_)
               | (go_at_call 57; refine (hMe _).mono ?_; rintro e w9 ⟨rfl, b9⟩
                  have I9 := I3.later b9
                  have r9 := r3.later b9
                  have B9w := bnext B3w b9 (Nat.le_refl _)
                  have M9 := M3.later b9
                  have cl9 := I9.bl.cell 0 _ rfl
                  have t13 : True := trivial)))
          | (clear t13; refine list_in (fun ⟨_, _, h⟩ => h) _ _ _ (by rfl) ?_
             have bA : Below w9.heap.size w9 (w9.alloc (.cells #[.int .i64 p.id] 3)) := (Below.refl _ _).alloc (Nat.le_refl _) _
             go_wp2_with (first
               | (at_builtin; refine at_appR elI w5.heap.size rfl _ _ (by rfl) (by rfl) (ro_later I9.ol bA) I9.nw (some ⟨w9.heap.size, 0, none⟩) 1 [.int .i64 p.id] (by rfl) (by simp) (fun e => by cases e) (fun ad e => by injection e with e; subst e; exact cell_one_new _ _ _) (by simp [Value.oneCell']) hbig (Nat.le_trans I9.z bA.size) ?_
                  intro v10 w10 hA
                  obtain ⟨xa, xn, xc', rfl⟩ := apd_shape hA
                  obtain ⟨I10, S10, f1, f2⟩ := NeI.tell A I9 bA hA rfl
                  have S10w : Stp (NeF gl bS mS (.slice va vn vc)) W (w10.setCell ⟨gl, 0, none⟩ (.slice xa xn xc')) := (Stp.of_below B9w (NeF gl bS mS (.slice va vn vc))).next S10 (fun y e => .inl (by rcases e with e | e; exact .inl e; exact .inr (.inr (.inr e))))
                  have r10 := r9.step S10 (hgp gp a1)
                  have m10 := m4.step S10w hEF
                  have M10 := M9.step S10 hbS
                  have cS10 := I10.cS.cell 0 _ rfl
                  obtain ⟨_, _, _, _, _, q5, _, _, _⟩ := Pt.cells r10
                  clear hA
                  have t14 : True := trivial)))
          | (clear t14; refine list_in (fun ⟨_, _, h⟩ => h) _ _ _ (by rfl) ?_
             go_wp2_with (first
               | (go_at_call 55; refine (want_any M10 m10.is (by omega)).mono ?_; rintro e w11 ⟨rfl, M11, s11⟩
                  have I11 := I10.want A hnn hnp M11 s11 (hv10 I10.nw) hab
                  have r11 := r10.step s11 (hgb gp a1)
                  have S11 : Stp (NeF gl bS mS (.slice va vn vc)) W w11 := S10w.next s11 (fun y e => .inl (.inr (.inl e)))
                  obtain ⟨_, _, _, _, _, _, _, _, p8⟩ := Pt.cells r11))))
        have cM11 := I11.cM.cell 0 _ rfl
        have hx2 := m10.bs.len
        refine in_region_last (S := fun u => Below w11.heap.size w11 u) _ _ (fun ⟨_, _, h⟩ => h) (by rfl) (by simp only [List.pop_toArray, List.dropLast_cons_cons, List.dropLast_singleton]; rfl) (by simp only [List.back?_toArray, List.getLast?_cons_cons, List.getLast?_singleton]; rfl) (by kernel_rfl) (by kernel_rfl) (Below.refl _ _).drew (fun hHeld => ?_)
        refine wpAnyH_take (i := 0) (oi := { dst := some 61, op := Op.load 89 (Operand.tmp 6), type := 89, pos := _, after := #[], guard := none }) (v := .map (some mS)) rfl (by kernel_rfl) (by kernel_rfl) (by kernel_rfl) (fun _ _ _ h => h) (Or.inl ⟨by rfl, ?_⟩) hHeld ?_
        · intro u hu
          have x1 := (I11.cM.later hu).cell 0 _ rfl; go_simp
        try simp only [Act.put, List.setIfInBounds_toArray, List.set_cons_zero, List.set_cons_succ]
        refine wpAnyH_take (i := 1) (oi := { dst := some 62, op := Op.fieldAddr 54 (Operand.tmp 10) 1, type := 0, pos := _, after := #[], guard := none }) (v := .pointer (some ⟨gp, 1, none⟩)) rfl (by kernel_rfl) (by kernel_rfl) (by kernel_rfl) (fun _ _ _ h => h) (Or.inl ⟨by rfl, ?_⟩) hHeld ?_
        · intro u hu
          go_simp
        try simp only [Act.put, List.setIfInBounds_toArray, List.set_cons_zero, List.set_cons_succ]
        refine wpAnyH_take (i := 2) (oi := { dst := some 63, op := Op.load 3 (Operand.tmp 62), type := 3, pos := _, after := #[{ on := 1, ground := Ground.data }], guard := none }) (v := .int .i64 p.at') rfl (by kernel_rfl) (by kernel_rfl) (by kernel_rfl) (fun _ _ _ h => h) (Or.inl ⟨by rfl, ?_⟩) hHeld ?_
        · intro u hu
          have x1 := (r11.later hu).cell 1 _ rfl; go_simp
        try simp only [Act.put, List.setIfInBounds_toArray, List.set_cons_zero, List.set_cons_succ]
        refine wpAnyH_take (i := 3) (oi := { dst := some 64, op := Op.load 89 (Operand.tmp 6), type := 89, pos := _, after := #[], guard := none }) (v := .map (some mS)) rfl (by kernel_rfl) (by kernel_rfl) (by kernel_rfl) (fun _ _ _ h => h) (Or.inl ⟨by rfl, ?_⟩) hHeld ?_
        · intro u hu
          have x1 := (I11.cM.later hu).cell 0 _ rfl; go_simp
        try simp only [Act.put, List.setIfInBounds_toArray, List.set_cons_zero, List.set_cons_succ]
        refine wpAnyH_take (i := 4) (oi := { dst := some 65, op := Op.fieldAddr 54 (Operand.tmp 10) 1, type := 0, pos := _, after := #[], guard := none }) (v := .pointer (some ⟨gp, 1, none⟩)) rfl (by kernel_rfl) (by kernel_rfl) (by kernel_rfl) (fun _ _ _ h => h) (Or.inl ⟨by rfl, ?_⟩) hHeld ?_
        · intro u hu
          go_simp
        try simp only [Act.put, List.setIfInBounds_toArray, List.set_cons_zero, List.set_cons_succ]
        refine wpAnyH_take (i := 5) (oi := { dst := some 66, op := Op.load 3 (Operand.tmp 65), type := 3, pos := _, after := #[{ on := 4, ground := Ground.data }], guard := none }) (v := .int .i64 p.at') rfl (by kernel_rfl) (by kernel_rfl) (by kernel_rfl) (fun _ _ _ h => h) (Or.inl ⟨by rfl, ?_⟩) hHeld ?_
        · intro u hu
          have x1 := (r11.later hu).cell 1 _ rfl; go_simp
        try simp only [Act.put, List.setIfInBounds_toArray, List.set_cons_zero, List.set_cons_succ]
        refine wpAnyH_take (i := 6) (oi := { dst := some 67, op := Op.lookup 89 (Operand.tmp 64) (Operand.tmp 66) false, type := 96, pos := _, after := #[{ on := 3, ground := Ground.data }, { on := 5, ground := Ground.data }], guard := none }) (v := .agg (shC (shB (wtP c p.at')) (shK (wtP c p.at'))).toArray) rfl (by kernel_rfl) (by kernel_rfl) (by kernel_rfl) (fun _ _ _ h => h)
          (yields_M' 89 96 uSh _ zSh (by rfl) _ _ (by rfl) mS _ (by rfl) p.at' (by rfl) hwp.s (fun u hu => I11.sh.later hu) _ eS) hHeld ?_
        try simp only [Act.put, List.setIfInBounds_toArray, List.set_cons_zero, List.set_cons_succ]
        refine wpAnyH_take (i := 7) (oi := { dst := some 68, op := Op.load 54 (Operand.tmp 10), type := 54, pos := _, after := #[], guard := none }) (v := .agg (p.cs d4 n4).toArray) rfl (by kernel_rfl) (by kernel_rfl) (by kernel_rfl) (fun _ _ _ h => h)
          (yields_P (by rfl) _ (by rfl) gp (by rfl) p d4 n4 (fun u hu => r11.later hu)) hHeld ?_
        try simp only [Act.put, List.setIfInBounds_toArray, List.set_cons_zero, List.set_cons_succ]
        refine wpAnyH_ready (rs := [8]) (by kernel_rfl) (by simp) ?_
        refine (AllReadyH.cons (o := { dst := some 69, op := Op.call { callee := Callee.value (Operand.func 58), args := #[Operand.tmp 67, Operand.tmp 68], argTypes := #[96, 54] }, type := 96, pos := _, after := #[{ on := 6, ground := Ground.data }, { on := 7, ground := Ground.data }], guard := none }) rfl (fun K hK => ?_) AllReadyH.nil)
        go_simp
        refine (hWi _).mono ?_
        rintro e w12 ⟨rfl, b12⟩
        try go_wp2_with fail
        refine hK.out _ _ (bnext hHeld b12 (Nat.le_refl _)) (fun hHeld => ?_)
        clear hK K
        try simp only [Act.put, List.setIfInBounds_toArray, List.set_cons_zero, List.set_cons_succ]
        refine wpAnyH_done (by kernel_rfl) ?_ _
        show wpList _ _ _ [_] _ _
        have I12 := I11.later hHeld
        refine at_updM 89 96 uSh (by rfl) _ _ _ (by rfl) mS _ (by rfl) p.at' (by rfl) (.agg (shC (oB (shB (wtP c p.at')) p) (oK (shK (wtP c p.at')) p)).toArray) (by rfl) I12.sh hkS hwp.s ?_
        intro w13 m13 s13
        rw [show oB (shB (wtP c p.at')) p = shB (wtP c p.at' ++ [p]) from (shB_snoc _ _).symm, show oK (shK (wtP c p.at')) p = shK (wtP c p.at' ++ [p]) from (shK_snoc _ _).symm, ← shF_put c p hwr] at m13
        have I13 := I12.shade A m13 s13 (hv11 I10.nw) hac
        have S13 : Stp (NeF gl bS mS (.slice va vn vc)) W w13 := (S11.next (Stp.of_below hHeld (fun _ => False)) (fun y e => e.elim)).next s13 (fun y e => .inl (.inr (.inr (.inl e))))
        simp only [Act.put]
        go_wp2_with fail
        refine fin (v' := .slice xa xn xc') ?_ S13
        rw [chS_yes hp hw]
        exact I13
  case done =>
    rintro D ys W hD rfl ⟨v, I⟩ hK
    have e1 := chL_all (is := is) (l := Z.l) (fun j => if h : j < Z.l.length then ⟨j, h⟩ else ⟨0, hne⟩) (fun j hj => by simp [hj]) Z.l.length 0 (by omega)
    rw [e1, List.drop_zero] at I
    obtain ⟨va, vn, vc, rfl⟩ := I.ol.shape
    have cl := I.bl.cell 0 _ rfl
    have hnl := nd_len is Z.l
    have hR := reverse_own I.ol (by rw [ids_len, List.length_reverse]; omega)
    rw [ids_reverse, List.reverse_reverse] at hR
    have hgl : ∀ r, (Value.slice va vn vc).ownBlock = some r → ¬ r = gl := fun r e e2 => by have := I.nw r e; have := A.g4; omega
    go_wp2_with (first
      | (go_at_call 59; refine hR.mono ?_; rintro e w6 ⟨rfl, o6, s6⟩
         have cl6 := (I.bl.step s6 (fun e => hgl _ e rfl)).cell 0 _ rfl
         have hK6 : w6.heap[D]? = some (.deferred (some [])) := by
           have hlt := (Array.getElem?_eq_some_iff.1 hK).1
           rw [s6.block D hlt (fun e => ?_)]
           · exact hK
           · rcases I.ol.2 with ⟨e1, _⟩ | ⟨g', c', cur, e1, e2, e3, _⟩
             · rw [e1] at e; cases e
             · rw [e1] at e
               obtain rfl := ob_eq' e
               rw [e3] at hK; cases hK))
    refine ⟨by simp, .inl ⟨_, _, rfl, run_takeDeferred hK6, ?_⟩⟩
    have B6 : Below w.heap.size w w6 := ((Stp.of_below I.b (fun _ => False)).next s6 (fun x e => .inr (by have := I.nw x e; have := A.g4; omega))).below (Nat.le_refl _) (fun x e => e.elim)
    refine ⟨_, results_tmp rfl _ _ _, .slice va vn vc, rfl, ownsRow_putObj o6 _ hK6 rfl, fun r e => ?_, B6.trans (belowK_b (w := w) (Nat.le_refl _) w6 D _ _ (by have := B5.size; omega) hK6 rfl rfl)⟩
    have := I.nw r e
    have := A.g4
    omega
end Go.Proofs.YtdfifneikmlmoaaGreat
namespace Go.Proofs.YtdfifneikmlmoaaGreat
open Go.ChangeShapes Go.WideShapes Go.ChangeAt Go.RowKit Go.Shelf
set_option linter.unusedVariables false
set_option linter.unusedSimpArgs false
attribute [local go_sem] Oper.semAt_some

theorem OwV.zero {w : World} {v : Value} (h : OwV w v []) : ∃ a c, v = .slice a 0 c := by
  rcases h.row with ⟨e, _⟩ | ⟨g, cap, cur, e, _⟩
  · exact ⟨_, _, e⟩
  · exact ⟨_, _, e⟩
set_option maxRecDepth 100000 in
set_option maxHeartbeats 4000000 in
theorem needed_zero {w : World} {g mp mw : Nat} {f fw : Int → Option Value} {Z : GZ} {E F : Nat → Prop} (H : Gr w g mp mw f fw Z E F) {s : Sv} {l : List Int} (hs : InsS w s l) (hl : l.length ≤ 1000) (hz : Z.l = []) :
    Calls Tryz.prog 30 #[.pointer (some ⟨g, 0, none⟩), .slice s.a s.n s.c] w fun e w' => e = .returned (.slice none 0 0) ∧ Below w.heap.size w w' := by
  have hmm := @run_makeMap Tryz.prog
  refine (callsIn_wide (n := 6)).1 ?_
  refine callsIn_of_wp_marks Tryz.func30 rfl trivial ?_ rfl
  simp only [Tryz.ntmps30, List.size_toArray, List.length_cons, List.length_nil, Nat.reduceAdd, Nat.reduceSub, Array.replicate_succ, Array.replicate_zero, List.push_toArray, List.append_toArray, List.nil_append, List.cons_append]
  refine wpIn_wide.2 ?_
  have bA := wA_b w (.pointer (some ⟨g, 0, none⟩))
  have hW := want_any (wA_m w (.pointer (some ⟨g, 0, none⟩))) (hs.later bA) (by omega)
  have gA := wA_g w (.pointer (some ⟨g, 0, none⟩)) rfl
  unfold wA at hW
  go_wp2_with (first
    | (go_at_call 55; refine hW.mono ?_; rintro e w3 ⟨rfl, M3, s3⟩; clear hW
       have B3 : Below w.heap.size w w3 := ((Stp.of_below bA (fun _ => False)).next s3 (fun x e => .inr (by omega))).below (Nat.le_refl _) (fun x e => e.elim)
       have g3 := gA.step s3 (by omega)
       have bB := wB_b w3
       have gB := (g3.later bB).cell 0 _ rfl
       have lB := wB_l w3
       have B4 := bnext B3 bB (Nat.le_refl _)
       have hAll := all_any (H.later B4)
       rw [hz] at hAll
       unfold wB at gB hAll)
    | (go_at_call 13; refine hAll.mono ?_; rintro e w4 ⟨va, rfl, o4, n4, b4⟩; clear hAll
       obtain ⟨xa, xc, rfl⟩ := OwV.zero o4)
    | (go_at_call 56; refine (back_any _ _ _ _).mono ?_; rintro e w5 ⟨bx, rfl, h5, r5, b5⟩
       have l5 := (lB.later b4).later b5)
    )
  refine (wpIn_wide (n := 6)).1 ?_
  have b4' : Below (wB w3).heap.size (wB w3) w4 := b4
  have z4 := b4'.size
  have z5 := b5.size
  have zB := bB.size
  have lt5 := l5.lt
  have B5 : Below w.heap.size w w5 := bnext (bnext B4 b4' (Nat.le_refl _)) b5 (Nat.le_refl _)
  refine wpIn_rangeFunc_ownG (F := Fence.wide) (n := 6) (w0 := w5) rfl (by omega) (gf := 77) (lb := #[.pointer (some ⟨bx, 0, none⟩)]) rfl trivial (enters_of Tryz.func77 (by kernel_rfl) rfl)
    (back0_stops 5 r5) (fun _ _ => trivial) (fun _ _ _ _ _ _ _ _ => trivial) (Below.refl _ _) (fun _ => rfl)
    (fun _ W => Cs W (w3.heap.size + 1 + 1) [.slice none 0 0] ∧ Below w.heap.size w W)
    (fun _ _ _ => False)
    (ownFrom_stp fun s W W' h k => ⟨h.1.step k (by omega), h.2.trans (k.below (Nat.le_trans (Nat.le_refl _) h.2.size) (fun x hx => Nat.le_trans B5.size hx))⟩)
    (fun _ _ _ _ _ hs _ _ => hs)
    ⟨l5, B5⟩ ?a1 ?assign ?body ?done ?stop
  case assign =>
    intro l x W K hK
    gi_wp2
    exact hK
  case body => exact fun l pre x W _ hlt => absurd hlt (Nat.not_lt_zero _)
  case stop => exact fun D c pre W _ _ h _ => h.elim
  case done =>
    rintro D ys W hD rfl ⟨hC, hB⟩ hK
    have c7 := hC.cell 0 _ rfl
    go_wp2_with (first | (go_at_call 59; refine (reverse_none _).mono ?_; rintro e w6 ⟨rfl, rfl⟩))
    refine ⟨by simp, .inl ⟨_, _, rfl, run_takeDeferred hK, ?_⟩⟩
    exact ⟨_, results_tmp rfl _ _ _, rfl, hB.trans (belowK_b (w := w) (Nat.le_refl _) W D _ _ (by have := B5.size; omega) hK rfl rfl)⟩
theorem needed_both {w : World} {g mp mw : Nat} {f fw : Int → Option Value} {Z : GZ} {E F : Nat → Prop} (H : Gr w g mp mw f fw Z E F) {s : Sv} {is : List Int} (hs : InsS w s is) (hl : is.length ≤ 1000) (hzl : Z.l.length ≤ 100) (hn6 : ∀ p ∈ Z.l, p.needs.length ≤ 6) :
    Calls Tryz.prog 30 #[.pointer (some ⟨g, 0, none⟩), .slice s.a s.n s.c] w fun e w' => ∃ v, e = .returned v ∧ OwV w' v (ids (nd is Z.l)) ∧ New w.heap.size v ∧ Below w.heap.size w w' := by
  by_cases h : 0 < Z.l.length
  · exact needed_any H hs hl hzl hn6 h
  · have hz : Z.l = [] := List.eq_nil_of_length_eq_zero (by omega)
    refine (needed_zero H hs hl hz).mono ?_
    rintro e w' ⟨rfl, b⟩
    exact ⟨_, rfl, by rw [hz]; exact OwV.nil _, (fun r e => by cases e), b⟩
end Go.Proofs.YtdfifneikmlmoaaGreat
namespace Go.Proofs.YtdfifneikmlmoaaGreat
open Go.ChangeShapes Go.WideShapes Go.ChangeAt Go.RowKit
set_option linter.unusedVariables false
set_option linter.unusedSimpArgs false

/-- A batch's cells. -/
def btc (v : Value) (b : Bool) : List Value := [v, .bool b]
theorem btc_one {v : Value} (h : v.oneCell' = true) (b : Bool) : ∀ u ∈ btc v b, u.oneCell' = true := by
  intro u hu; unfold btc at hu; simp at hu
  rcases hu with rfl | rfl
  · exact h
  · rfl
theorem srtBt : Srt 35 2 (btc (.slice none 0 0) false) :=
  ⟨⟨_, Tryz.underlying35, rfl⟩, by kernel_rfl, fun w => (zero_of_info (v := .agg (btc (.slice none 0 0) false).toArray) (n := 2) (by kernel_rfl)).1 w, rfl, btc_one rfl _⟩
theorem frS_no {L : List Int} {l : List Pt} (h : L.length ≠ 1) : frS L l = false := by unfold frS; simp [h]
theorem frS_yes {l : List Pt} (hs : Rise l) (x : Int) : frS [x] l = !((ids (thP l (·.wr))).any fun i => decide ((gt l i).at' ≠ x)) := by
  unfold frS
  have e : ((ids (thP l (·.wr))).any fun i => decide ((gt l i).at' ≠ x)) = (thP l (·.wr)).any fun p => decide (p.at' ≠ x) := by
    unfold ids
    rw [List.any_map, Bool.eq_iff_iff, List.any_eq_true, List.any_eq_true]
    have hg : ∀ p ∈ thP l (·.wr), gt l p.id = p := fun p hp => by unfold gt; rw [fnd_of hs (List.mem_filter.1 hp).1]; rfl
    constructor
    · rintro ⟨p, h1, h2⟩; refine ⟨p, h1, ?_⟩; simp only [Function.comp_apply, hg p h1] at h2; exact h2
    · rintro ⟨p, h1, h2⟩; refine ⟨p, h1, ?_⟩; simp only [Function.comp_apply, hg p h1]; exact h2
  rw [e, List.not_any_eq_all_not]
  simp
theorem enter_alone : ∀ args w, (callFunc 65 args).run Tryz.prog w = .ok (.enter 65 args) w := enters_of Tryz.func65 (by kernel_rfl) rfl
set_option maxRecDepth 100000 in
set_option maxHeartbeats 2000000 in
theorem tells_alone {w : World} {g mp mw : Nat} {f fw : Int → Option Value} {Z : GZ} {E F : Nat → Prop} (H : Gr w g mp mw f fw Z E F) (hnl : ∀ p ∈ Z.l, p.needs.length ≤ 100000) {s : Sv} {x : Int} (hs : InsS w s [x]) (g2 g3 : Nat) (h2 : w.cell? ⟨g2, 0, none⟩ = some (.pointer (some ⟨g, 0, none⟩))) (h3 : w.cell? ⟨g3, 0, none⟩ = some (.slice s.a s.n s.c)) (r : List Int) (hr : ∀ i ∈ r, wfi i) :
    TellsN w 65 #[.pointer (some ⟨g2, 0, none⟩), .pointer (some ⟨g3, 0, none⟩)] r (fun i => decide ((gt Z.l i).at' ≠ x)) := by
  intro u i hi hu
  have c2 := (Stp.of_below hu (fun _ => False)).cell h2 id
  have hG := get_any (H.later hu) i (hr i hi) hnl
  have hsu := hs.later hu
  have hsn : s.n = 1 := hs.i.len.symm
  obtain ⟨sb, so, se, hcell⟩ := hs.i.cell (by omega)
  obtain ⟨sa, sn, sc⟩ := s
  simp only at hsn se
  subst se
  subst hsn
  have c30 := h3
  have cx := hcell 0 (by simp)
  simp only [Nat.add_zero, List.getD_cons_zero] at cx
  show Calls Tryz.prog _ #[.int .i64 i, .pointer (some ⟨g2, 0, none⟩), .pointer (some ⟨g3, 0, none⟩)] u fun e u' => e = .returned (.bool (decide ((gt Z.l i).at' ≠ x))) ∧ Below u.heap.size u u'
  generalize gt Z.l i = p at *
  generalize gE Z.l i = ge at *
  have t2 : True := trivial
  have t3 : True := trivial
  have hpost : Hid ((decide (p.at' ≠ x)) = (p.at' != x)) := by show _ = _; rw [Bool.eq_iff_iff]; simp
  generalize decide (p.at' ≠ x) = bb at *
  clear hcell hs hsu
  go_enter Tryz.func65, Tryz.ntmps65
  go_wp2_with (first
    | (go_at_call 66; refine hG.mono ?_; rintro e w4 ⟨d, n, rfl, m4, b4⟩; clear hG)
    | (clear t2; refine at_newP (by rfl) (by rfl) ?_; intro g5 w5 a5 a6 r5 b5)
    | (clear t3; refine at_putP (by rfl) _ _ (by rfl) g5 (by rfl) p d n (by rfl) _ r5 rfl ?_; intro w6 r6 s6))
  have B6 : Below u.heap.size u w6 := ((Stp.of_below (bnext b4 b5 (Nat.le_refl _)) (fun _ => False)).next s6 (fun x e => .inr (by have := b4.size; omega))).below (Nat.le_refl _) (fun x e => e.elim)
  have B60 := bnext hu B6 (Nat.le_refl _)
  refine wp_region_held_drew (S := fun v => Below w6.heap.size w6 v) (by kernel_rfl) (Below.refl _ _).drew (fun hHeld => ?_)
  refine wpAnyH_take (i := 0) (oi := { dst := some 13, op := Op.fieldAddr 54 (Operand.tmp 5) 1, type := 0, pos := _, after := #[], guard := none }) (v := .pointer (some ⟨g5, 1, none⟩)) rfl (by kernel_rfl) (by kernel_rfl) (by kernel_rfl) (fun _ _ _ h => h) (Or.inl ⟨by rfl, ?_⟩) hHeld ?_
  · intro u hu
    go_simp
  try simp only [Act.put, List.setIfInBounds_toArray, List.set_cons_zero, List.set_cons_succ]
  refine wpAnyH_take (i := 1) (oi := { dst := some 14, op := Op.load 3 (Operand.tmp 13), type := 3, pos := _, after := #[{ on := 0, ground := Ground.data }], guard := none }) (v := .int .i64 p.at') rfl (by kernel_rfl) (by kernel_rfl) (by kernel_rfl) (fun _ _ _ h => h) (Or.inl ⟨by rfl, ?_⟩) hHeld ?_
  · intro u hu
    have x1 := (Pt.cells (r6.later hu)).2.1; go_simp
  try simp only [Act.put, List.setIfInBounds_toArray, List.set_cons_zero, List.set_cons_succ]
  refine wpAnyH_take (i := 2) (oi := { dst := some 15, op := Op.load 23 (Operand.tmp 2), type := 23, pos := _, after := #[], guard := none }) (v := .slice (some ⟨sb, so, none⟩) 1 sc) rfl (by kernel_rfl) (by kernel_rfl) (by kernel_rfl) (fun _ _ _ h => h) (Or.inl ⟨by rfl, ?_⟩) hHeld ?_
  · intro u hu
    have x1 := (Stp.of_below (bnext B60 hu (Nat.le_refl _)) (fun _ => False)).cell c30 id; go_simp
  try simp only [Act.put, List.setIfInBounds_toArray, List.set_cons_zero, List.set_cons_succ]
  refine wpAnyH_take (i := 3) (oi := { dst := some 16, op := Op.indexAddr 23 (Operand.tmp 15) (Operand.const (Value.int IntKind.i64 0)), type := 0, pos := _, after := #[{ on := 2, ground := Ground.data }], guard := none }) (v := .pointer (some ⟨sb, so, none⟩)) rfl (by kernel_rfl) (by kernel_rfl) (by kernel_rfl) (fun _ _ _ h => h) (Or.inl ⟨by rfl, ?_⟩) hHeld ?_
  · intro u hu
    go_simp
  try simp only [Act.put, List.setIfInBounds_toArray, List.set_cons_zero, List.set_cons_succ]
  refine wpAnyH_take (i := 4) (oi := { dst := some 17, op := Op.load 3 (Operand.tmp 16), type := 3, pos := _, after := #[{ on := 3, ground := Ground.data }], guard := none }) (v := .int .i64 x) rfl (by kernel_rfl) (by kernel_rfl) (by kernel_rfl) (fun _ _ _ h => h) (Or.inl ⟨by rfl, ?_⟩) hHeld ?_
  · intro u hu
    have x1 := (Stp.of_below (bnext B60 hu (Nat.le_refl _)) (fun _ => False)).cell cx id; go_simp
  try simp only [Act.put, List.setIfInBounds_toArray, List.set_cons_zero, List.set_cons_succ]
  refine wpAnyH_take (i := 5) (oi := { dst := some 18, op := Op.binOp BinOp.neq 3 (Operand.tmp 14) (Operand.tmp 17) 3, type := 4, pos := _, after := #[{ on := 1, ground := Ground.data }, { on := 4, ground := Ground.data }], guard := none }) (v := .bool (p.at' != x)) rfl (by kernel_rfl) (by kernel_rfl) (by kernel_rfl) (fun _ _ _ h => h) (Or.inl ⟨by rfl, ?_⟩) hHeld ?_
  · intro u hu
    go_simp
  try simp only [Act.put, List.setIfInBounds_toArray, List.set_cons_zero, List.set_cons_succ]
  refine wpAnyH_take (i := 6) (oi := { dst := some 4, op := Op.assign (Operand.tmp 18), type := 4, pos := _, after := #[{ on := 5, ground := Ground.data }, { on := 0, ground := Ground.phase }, { on := 1, ground := Ground.phase }, { on := 2, ground := Ground.phase }, { on := 3, ground := Ground.phase }, { on := 4, ground := Ground.phase }, { on := 5, ground := Ground.phase }], guard := none }) (v := .bool (p.at' != x)) rfl (by kernel_rfl) (by kernel_rfl) (by kernel_rfl) (fun _ _ _ h => h) (Or.inl ⟨by rfl, ?_⟩) hHeld ?_
  · intro u hu
    go_simp
  try simp only [Act.put, List.setIfInBounds_toArray, List.set_cons_zero, List.set_cons_succ]
  refine wpAnyH_done (by kernel_rfl) ?_ _
  go_wp2_with fail
  go_returns
  exact ⟨ret_bool hpost.out.symm, bnext B6 hHeld (Nat.le_refl _)⟩
set_option maxRecDepth 100000 in
set_option maxHeartbeats 2000000 in
theorem alone_any {w : World} {g mp mw : Nat} {f fw : Int → Option Value} {Z : GZ} {E F : Nat → Prop} (H : Gr w g mp mw f fw Z E F) (hnl : ∀ p ∈ Z.l, p.needs.length ≤ 100000) {s : Sv} {L : List Int} (hs : InsS w s L) :
    Calls Tryz.prog 32 #[.pointer (some ⟨g, 0, none⟩), .slice s.a s.n s.c] w fun e w' => e = .returned (.bool (frS L Z.l)) ∧ Below w.heap.size w w' := by
  have hsn : s.n = L.length := hs.i.len.symm
  by_cases h1 : L.length = 1
  · obtain ⟨x, rfl⟩ : ∃ x, L = [x] := List.length_eq_one_iff.1 h1
    have b0 : Below w.heap.size w (w.alloc (.cells #[.pointer (some ⟨g, 0, none⟩)] 24)) := (Below.refl _ w).alloc (Nat.le_refl _) _
    have b1 : Below w.heap.size w ((w.alloc (.cells #[.pointer (some ⟨g, 0, none⟩)] 24)).alloc (.cells #[.slice s.a s.n s.c] 23)) := b0.alloc (Nat.le_trans (Nat.le_refl _) b0.size) _
    have hW := written_any (H.later b1)
    have hwf : ∀ i ∈ ids (thP Z.l (·.wr)), wfi i := fun i hi => by
      obtain ⟨p, h2, h3⟩ := ids_mem.1 hi
      have := H.ok.rng p (List.mem_filter.1 h2).1; have := H.ok.lt
      exact wfi_of (by omega)
    have hlen : (ids (thP Z.l (·.wr))).length ≤ 1000000 := by
      have h2 := H.ok.few
      have h3 : (thP Z.l (·.wr)).length ≤ Z.l.length := List.length_filter_le _ _
      unfold ids; rw [List.length_map]; omega
    have hT := tells_alone (H.later b1) hnl (hs.later b1) w.heap.size (w.heap.size + 1) (by simp [go_sem]) (by simp [go_sem]) _ hwf
    have hfr : Hid (frS [x] Z.l = !((ids (thP Z.l (·.wr))).any fun i => decide ((gt Z.l i).at' ≠ x))) := frS_yes H.ok.srt x
    have hC := fun (u : World) (hu : Below ((w.alloc (.cells #[.pointer (some ⟨g, 0, none⟩)] 24)).alloc (.cells #[.slice s.a s.n s.c] 23)).heap.size ((w.alloc (.cells #[.pointer (some ⟨g, 0, none⟩)] 24)).alloc (.cells #[.slice s.a s.n s.c] 23)) u) (v : Sv) (hv : InsS u v (ids (thP Z.l (·.wr)))) => containsFunc_any hv hlen 65 #[.pointer (some ⟨w.heap.size, 0, none⟩), .pointer (some ⟨w.heap.size + 1, 0, none⟩)] _ (fun u' i hi hu' => hT u' i hi (bnext hu hu' (Nat.le_refl _))) enter_alone
    generalize ((ids (thP Z.l (·.wr))).any fun i => decide ((gt Z.l i).at' ≠ x)) = bb at *
    generalize frS [x] Z.l = fr at *
    clear hT
    have hsn' : s.n = 1 := hsn
    obtain ⟨sa, sn, sc⟩ := s
    simp only at hsn'
    subst hsn'
    clear hsn h1
    go_enter Tryz.func32, Tryz.ntmps32
    go_wp2_with (first
      | (go_at_call 14; refine hW.mono ?_; rintro e w3 ⟨v3, rfl, o3, n3, b3⟩; clear hW
         obtain ⟨s3, e3, _, i3, _⟩ := o3.ins hwf n3
         subst e3)
      | (go_at_call 64; refine (hC _ b3 s3 i3).mono ?_; rintro e w4 ⟨rfl, b4⟩; clear hC))
    go_returns
    exact ⟨ret_bool hfr.out.symm, bnext (bnext b1 b3 (Nat.le_refl _)) b4 (Nat.le_refl _)⟩
  · have h1' : ¬ (s.n : Int) = 1 := by omega
    have hfr : Hid (frS L Z.l = false) := frS_no h1
    clear hsn h1
    have b0 : Below w.heap.size w (w.alloc (.cells #[.pointer (some ⟨g, 0, none⟩)] 24)) := (Below.refl _ w).alloc (Nat.le_refl _) _
    have b1 : Below w.heap.size w ((w.alloc (.cells #[.pointer (some ⟨g, 0, none⟩)] 24)).alloc (.cells #[.slice s.a s.n s.c] 23)) := b0.alloc (Nat.le_trans (Nat.le_refl _) b0.size) _
    go_enter Tryz.func32, Tryz.ntmps32
    go_wp2_with fail
    go_returns
    exact ⟨ret_bool hfr.out.symm, b1⟩
end Go.Proofs.YtdfifneikmlmoaaGreat
namespace Go.Proofs.YtdfifneikmlmoaaGreat
open Go.ChangeShapes Go.WideShapes Go.ChangeAt Go.RowKit
set_option linter.unusedVariables false
set_option linter.unusedSimpArgs false

theorem buildB0 (w : World) : (Instr.build 35 #[]).run Tryz.prog w = .ok (.agg (btc (.slice none 0 0) false).toArray) w := by kernel_rfl
theorem buildB1 (s : Sv) (w : World) : (Instr.build 35 #[(0, .slice s.a s.n s.c)]).run Tryz.prog w = .ok (.agg (btc (.slice s.a s.n s.c) false).toArray) w := by kernel_rfl
theorem buildB2 (s : Sv) (b : Bool) (w : World) : (Instr.build 35 #[(0, .slice s.a s.n s.c), (1, .bool b)]).run Tryz.prog w = .ok (.agg (btc (.slice s.a s.n s.c) b).toArray) w := by kernel_rfl
section
variable {ops : Array Oper} {rest : List Oper} {o : Oper} {a : Act} {w : World} {Q : Exit → Act → World → Prop}
theorem at_bldB0 (hw : Region.wanted o (yielded ops a.tmps) = true) (ho : o.op = .build 35 #[])
    (h : wpList Tryz.prog ops Q rest (a.put o.dst (.agg (btc (.slice none 0 0) false).toArray)) w) : wpList Tryz.prog ops Q (o :: rest) a w := by
  refine op_val hw _ _ ?_ h
  simp [execOp, ho, buildB0]
theorem at_bldB1 (hw : Region.wanted o (yielded ops a.tmps) = true) (x : Operand) (ho : o.op = .build 35 #[(0, x)]) (s : Sv) (hx : a.eval x = .slice s.a s.n s.c)
    (h : wpList Tryz.prog ops Q rest (a.put o.dst (.agg (btc (.slice s.a s.n s.c) false).toArray)) w) : wpList Tryz.prog ops Q (o :: rest) a w := by
  refine op_val hw _ _ ?_ h
  simp [execOp, ho, hx, buildB1]
theorem at_bldB2 (hw : Region.wanted o (yielded ops a.tmps) = true) (x y : Operand) (ho : o.op = .build 35 #[(0, x), (1, y)]) (s : Sv) (hx : a.eval x = .slice s.a s.n s.c) (b : Bool) (hy : a.eval y = .bool b)
    (h : wpList Tryz.prog ops Q rest (a.put o.dst (.agg (btc (.slice s.a s.n s.c) b).toArray)) w) : wpList Tryz.prog ops Q (o :: rest) a w := by
  refine op_val hw _ _ ?_ h
  simp [execOp, ho, hx, hy, buildB2]
theorem at_newBt (hw : Region.wanted o (yielded ops a.tmps) = true) (ho : o.op = .alloc 35)
    (h : ∀ g w', w.heap.size ≤ g → g < w'.heap.size → Cs w' g (btc (.slice none 0 0) false) → Below w.heap.size w w' → wpList Tryz.prog ops Q rest (a.put o.dst (.pointer (some ⟨g, 0, none⟩))) w') : wpList Tryz.prog ops Q (o :: rest) a w :=
  at_newC 35 2 _ srtBt hw ho h
theorem at_getBt (hw : Region.wanted o (yielded ops a.tmps) = true) (y : Operand) (ho : o.op = .load 35 y) (g : Nat) (hx : a.eval y = .pointer (some ⟨g, 0, none⟩)) (v : Value) (b : Bool) (hR : Cs w g (btc v b))
    (h : wpList Tryz.prog ops Q rest (a.put o.dst (.agg (btc v b).toArray)) w) : wpList Tryz.prog ops Q (o :: rest) a w :=
  at_getC 35 2 _ srtBt hw y ho g hx (btc v b) hR rfl h
theorem at_putBt (hw : Region.wanted o (yielded ops a.tmps) = true) (y z : Operand) (ho : o.op = .store 35 y z) (g : Nat) (hx : a.eval y = .pointer (some ⟨g, 0, none⟩)) (v : Value) (hv : v.oneCell' = true) (b : Bool) (hy : a.eval z = .agg (btc v b).toArray) (cs : List Value) (hR : Cs w g cs) (hl : cs.length = 2)
    (h : ∀ w', Cs w' g (btc v b) → Stp (fun x => x = g) w w' → wpList Tryz.prog ops Q rest (a.put o.dst undef) w') : wpList Tryz.prog ops Q (o :: rest) a w :=
  at_putC 35 2 _ srtBt hw y z ho g hx (btc v b) hy rfl (btc_one hv b) cs hR hl h
end
/-- Whether there is a next batch. -/
def mor (is : List Int) (l : List Pt) : Bool := !(nd is l).isEmpty
theorem mor_no {is : List Int} {l : List Pt} (h : nd is l = []) : mor is l = false ∧ bsS is l = [] ∧ frS (bsS is l) l = false := by
  have h2 : bsS is l = [] := by
    unfold bsS
    rw [h]
    exact List.filter_eq_nil_iff.2 (fun s _ => by simp [ids])
  exact ⟨by unfold mor; rw [h]; rfl, h2, by rw [h2]; rfl⟩
theorem mor_yes {is : List Int} {l : List Pt} (h : nd is l ≠ []) : mor is l = true := by
  unfold mor
  cases hn : nd is l with
  | nil => exact absurd hn h
  | cons a t => rfl
theorem bsS_wfi {Z : GZ} {t : Int} (h : Z.ok t) (is : List Int) : ∀ s ∈ bsS is Z.l, wfi s := fun s hs => by
  have h1 := secs_mem.1 (List.mem_filter.1 hs).1
  obtain ⟨x, hx⟩ := List.exists_mem_of_ne_nil _ h1
  obtain ⟨p, p1, _, p3, _⟩ := wts_mem.1 hx
  have := fit_to (h.ft p p1)
  exact wfi_of (by omega)
theorem bsS_len {Z : GZ} {t : Int} (h : Z.ok t) (is : List Int) : ((bsS is Z.l).length : Int) ≤ t := by
  have h1 := secs_len h
  have h2 : (bsS is Z.l).length ≤ (secs Z.l).length := List.length_filter_le _ _
  omega
theorem nd_wfi {Z : GZ} (h : Z.ok 2000) (is : List Int) : ∀ x ∈ ids (nd is Z.l), wfi x := fun x hx => by
  obtain ⟨p, p1, p2⟩ := ids_mem.1 hx
  have := h.rng p (nd_sub is _ p p1); have := h.lt
  exact wfi_of (by omega)
set_option maxRecDepth 100000 in
set_option maxHeartbeats 2000000 in
theorem next_any {w : World} {g mp mw : Nat} {f fw : Int → Option Value} {Z : GZ} {E F : Nat → Prop} (H : Gr w g mp mw f fw Z E F) {s : Sv} {is : List Int} (hs : InsS w s is) (hl : is.length ≤ 1000) (hzl : Z.l.length ≤ 100) (hn6 : ∀ p ∈ Z.l, p.needs.length ≤ 6) :
    Calls Tryz.prog 9 #[.pointer (some ⟨g, 0, none⟩), .slice s.a s.n s.c] w fun e w' => ∃ v, e = .returned (.tuple #[.agg (btc v (frS (bsS is Z.l) Z.l)).toArray, .bool (mor is Z.l)]) ∧ OwV w' v (bsS is Z.l) ∧ New w.heap.size v ∧ Below w.heap.size w w' := by
  have hnl : ∀ p ∈ Z.l, p.needs.length ≤ 100000 := fun p hp => by have := hn6 p hp; omega
  have hN := fun (u : World) (hu : Below w.heap.size w u) => needed_both (H.later hu) (hs.later hu) hl hzl hn6
  have hwf := nd_wfi H.ok is
  have hwf2 := bsS_wfi H.ok is
  have hidl : (ids (nd is Z.l)).length = (nd is Z.l).length := by unfold ids; rw [List.length_map]
  have t1 : True := trivial
  have t2 : True := trivial
  have t3 : True := trivial
  by_cases hn : nd is Z.l = []
  · obtain ⟨e1, e2, e3⟩ := mor_no hn
    have hE : Hid (mor is Z.l = false ∧ bsS is Z.l = [] ∧ frS (bsS is Z.l) Z.l = false) := ⟨e1, e2, e3⟩
    rw [hn] at hN
    have hN' : Hid (∀ (u : World) (hu : Below w.heap.size w u), Calls Tryz.prog 30 #[.pointer (some ⟨g, 0, none⟩), .slice s.a s.n s.c] u fun e w' => ∃ v, e = .returned v ∧ OwV w' v (ids []) ∧ New u.heap.size v ∧ Below u.heap.size u w') := hN
    clear hN e1 e2 e3 hn hidl hwf hwf2
    go_enter Tryz.func9, Tryz.ntmps9
    go_wp2_with (first
      | (clear t1; refine at_newBt (by rfl) (by rfl) ?_; intro g1 w1 a1 a2 r1 b1)
      | (go_at_call 30; refine (hN'.out _ b1).mono ?_; rintro e w2 ⟨v2, rfl, o2, n2, b2⟩; clear hN'
         obtain ⟨xa, xc, rfl⟩ := OwV.zero o2
         replace r1 := r1.later b2)
      | (clear t2; refine at_bldB0 (by rfl) (by rfl) ?_)
      | (clear t3; refine at_putBt (by rfl) _ _ (by rfl) g1 (by rfl) (.slice none 0 0) rfl false (by rfl) _ r1 rfl ?_; intro w3 r3 s3))
    refine bodyPost_ret (retCt srtBt rfl rfl rfl r3 rfl) rfl ?_
    rw [hE.out.1, hE.out.2.2, hE.out.2.1]
    exact ⟨_, rfl, OwV.nil _, (fun r e => by cases e), ((Stp.of_below (bnext b1 b2 (Nat.le_refl _)) (fun _ => False)).next s3 (fun x e => .inr (by omega))).below (Nat.le_refl _) (fun x e => e.elim)⟩
  · have hE : Hid (mor is Z.l = true) := mor_yes hn
    have hne : ¬ ((ids (nd is Z.l)).length : Int) = 0 := by
      rw [hidl]
      intro e
      exact hn (List.eq_nil_of_length_eq_zero (by omega))
    have hne' : Hid (¬ ((ids (nd is Z.l)).length : Int) = 0) := hne
    have hD := fun (u : World) (hu : Below w.heap.size w u) (v : Sv) (hv : InsS u v (ids (nd is Z.l))) => due_any (H.later hu) hnl (is := is) hv
    have hA := fun (u : World) (hu : Below w.heap.size w u) (v : Sv) (hv : InsS u v (bsS is Z.l)) => alone_any (H.later hu) hnl hv
    generalize frS (bsS is Z.l) Z.l = fr at *
    generalize bsS is Z.l = L at *
    generalize ids (nd is Z.l) = I at *
    clear hn hidl hne
    have hN' : Hid (∀ (u : World) (hu : Below w.heap.size w u), Calls Tryz.prog 30 #[.pointer (some ⟨g, 0, none⟩), .slice s.a s.n s.c] u fun e w' => ∃ v, e = .returned v ∧ OwV w' v I ∧ New u.heap.size v ∧ Below u.heap.size u w') := hN
    clear hN
    go_enter Tryz.func9, Tryz.ntmps9
    go_wp2_with (first
      | (clear t1; refine at_newBt (by rfl) (by rfl) ?_; intro g1 w1 a1 a2 r1 b1)
      | (go_at_call 30; refine (hN'.out _ b1).mono ?_; rintro e w2 ⟨v2, rfl, o2, n2, b2⟩; clear hN'
         obtain ⟨⟨sa, sn, sc⟩, e2, e3, i2, -⟩ := o2.ins hwf n2
         subst e2
         have hsn : ¬ (sn : Int) = 0 := by simp only at e3; rw [e3]; exact hne'.out
         clear e3
         have B2 := bnext b1 b2 (Nat.le_refl _)
         replace r1 := r1.later b2)
      | (go_at_call 31; refine (hD _ B2 ⟨sa, sn, sc⟩ i2).mono ?_; rintro e w3 ⟨v3, rfl, o3, n3, b3⟩; clear hD
         obtain ⟨⟨ta, tn, tc⟩, e4, -, i3, -⟩ := o3.ins hwf2 n3
         subst e4
         have B3 := bnext B2 b3 (Nat.le_refl _)
         replace r1 := r1.later b3)
      | (go_at_call 32; refine (hA _ B3 ⟨ta, tn, tc⟩ i3).mono ?_; rintro e w4 ⟨rfl, b4⟩; clear hA
         replace r1 := r1.later b4)
      | (clear t2; refine at_bldB2 (by rfl) _ _ (by rfl) ⟨ta, tn, tc⟩ (by rfl) fr (by rfl) ?_)
      | (clear t3; refine at_putBt (by rfl) _ _ (by rfl) g1 (by rfl) (.slice ta tn tc) rfl fr (by rfl) _ r1 rfl ?_; intro w5 r5 s5))
    refine bodyPost_ret (retCt srtBt rfl rfl rfl r5 rfl) rfl ?_
    rw [hE.out]
    have z1 := r1.lt
    have z2 := B2.size
    have z3 := b2.size
    refine ⟨_, rfl, (o3.later b4).step s5 (fun r hr e => by have := n3 r hr; omega), fun r hr => by have := n3 r hr; omega, ((Stp.of_below (bnext B3 b4 (Nat.le_refl _)) (fun _ => False)).next s5 (fun x e => .inr (by omega))).below (Nat.le_refl _) (fun x e => e.elim)⟩
end Go.Proofs.YtdfifneikmlmoaaGreat
namespace Go.Proofs.YtdfifneikmlmoaaGreat
open Go.ChangeShapes Go.WideShapes Go.ChangeAt Go.RowKit
set_option linter.unusedVariables false
set_option linter.unusedSimpArgs false

theorem cr_snoc : ∀ (A : List Int) (Z : GZ) (s : Int), Z.cr (A ++ [s]) = (Z.cr A).wr (rdy (Z.cr A).l s)
  | [], Z, s => rfl
  | a :: t, Z, s => cr_snoc t (Z.wr (rdy Z.l a)) s
theorem crO_snoc : ∀ (A : List Int) (Z : GZ) (s : Int), Z.crO (A ++ [s]) = Z.crO A ++ rdy (Z.cr A).l s
  | [], Z, s => by simp [GZ.crO, GZ.cr]
  | a :: t, Z, s => by
    have := crO_snoc t (Z.wr (rdy Z.l a)) s
    simp only [List.cons_append, GZ.crO, GZ.cr, this, List.append_assoc]
theorem cr_needs {Z : GZ} (hs : Rise Z.l) {n : Nat} (h : ∀ p ∈ Z.l, p.needs.length ≤ n) (A : List Int) : ∀ p ∈ (Z.cr A).l, p.needs.length ≤ n := by
  rw [(cr_setO A Z hs).1]
  intro p hp
  obtain ⟨q, h1, h2⟩ := setO_mem.1 hp
  rw [h2]
  split
  · exact h q h1
  · exact h q h1
theorem car_needs {Z : GZ} (hs : Rise Z.l) {n : Nat} (h : ∀ p ∈ Z.l, p.needs.length ≤ n) (A : List Int) : ∀ p ∈ (Z.car A).l, p.needs.length ≤ n := fun p hp => h p (car_sub hs A hp)
theorem car_len {Z : GZ} (hs : Rise Z.l) (A : List Int) : (Z.car A).l.length ≤ Z.l.length := by
  rw [(car_is Z hs A).1]; exact List.length_filter_le _ _
theorem setO_ok {Z Z' : GZ} {t : Int} (h : Z.ok t) {O : List Int} (e : Z'.l = setO Z.l O) (e2 : Z'.last = Z.last) : Z'.ok t := by
  have key : ∀ p ∈ Z'.l, ∃ q ∈ Z.l, p.id = q.id ∧ p.needs = q.needs ∧ p.own = q.own ∧ p.child = q.child ∧ fit p = fit q := fun p hp => by
    rw [e] at hp
    obtain ⟨q, h1, h2⟩ := setO_mem.1 hp
    refine ⟨q, h1, ?_⟩
    rw [h2]
    split
    · exact ⟨rfl, rfl, rfl, rfl, rfl⟩
    · exact ⟨rfl, rfl, rfl, rfl, rfl⟩
  refine ⟨by rw [e]; exact setO_rise h.srt O, fun p hp => ?_, fun p hp => ?_, fun p hp => ?_, fun p hp => ?_, by rw [e2]; exact h.l0, by rw [e2]; exact h.lt⟩
  · obtain ⟨q, h1, h2, _⟩ := key p hp
    rw [h2, e2]; exact h.rng q h1
  · obtain ⟨q, h1, _, _, _, _, h2⟩ := key p hp
    rw [h2]; exact h.ft q h1
  · obtain ⟨q, h1, h2, h3, _⟩ := key p hp
    rw [h2, h3]; exact h.nds q h1
  · obtain ⟨q, h1, _, _, h2, h3, _⟩ := key p hp
    rw [h2, h3]; exact h.wf q h1
theorem wr_ok {Z : GZ} {t : Int} (h : Z.ok t) (s : Int) : (Z.wr (rdy Z.l s)).ok t := setO_ok h (wr_rdy h.srt s).1 (wr_rdy h.srt s).2
theorem bsS_few {Z : GZ} {t : Int} (h : Z.ok t) (is : List Int) : (bsS is Z.l).length ≤ Z.l.length := by
  have h2 : (bsS is Z.l).length ≤ (secs Z.l).length := List.length_filter_le _ _
  have h4 := nodup_le (secs Z.l) (Z.l.map (·.at')) (rise_nodup (secs_rise _)) (fun x hx => by
    have := secs_mem.1 hx
    obtain ⟨y, hy⟩ := List.exists_mem_of_ne_nil _ this
    obtain ⟨p, q1, q2, q3, _⟩ := wts_mem.1 hy
    exact List.mem_map.2 ⟨p, q1, q3⟩)
  rw [List.length_map] at h4
  omega
theorem crO_few : ∀ (L : List Int) (Z : GZ), Z.ok 2000 → (Z.crO L).length ≤ L.length * 2000
  | [], Z, _ => Nat.zero_le _
  | s :: r, Z, h => by
    have e := wr_rdy h.srt s
    have h2 : (Z.wr (rdy Z.l s)).ok 2000 := wr_ok h s
    have ih := crO_few r _ h2
    have h3 := rdy_len h s
    unfold GZ.crO
    rw [List.length_append, List.length_cons]
    omega
theorem crO_len {Z : GZ} (h : Z.ok 2000) (L : List Int) (hl : L.length ≤ 400) : (Z.crO L).length ≤ 1000000 := by
  have := crO_few L Z h
  have : L.length * 2000 ≤ 400 * 2000 := Nat.mul_le_mul_right _ hl
  omega
/-- On the way over the sectors. -/
structure CaI (w wr : World) (g : Nat) (Z : GZ) (E F : Nat → Prop) (L : List Int) (k : Nat) (v : Value) : Prop where
  gh : Gh wr g (Z.cr (L.take k)) E F
  ow : OwV wr v (Z.crO (L.take k))
  nw : New w.heap.size v
  st : Stp F w wr
  few : (Z.crO (L.take k)).length ≤ k * 2000
set_option maxRecDepth 100000 in
set_option maxHeartbeats 4000000 in
theorem carry_any {w : World} {g : Nat} {Z : GZ} {E F B : Nat → Prop} (H : Gh w g Z E F) (hnl : ∀ p ∈ Z.l, p.needs.length ≤ 100000) {s : Sv} {L : List Int} (hs : InsS w s L) (he : InE B s) (hB : ∀ x, B x → ¬ F x) (hL : L.length ≤ 400) (b : Bool) :
    Calls Tryz.prog 16 #[.pointer (some ⟨g, 0, none⟩), .agg (btc (.slice s.a s.n s.c) b).toArray] w fun e w' => ∃ v, e = .returned v ∧ OwV w' v (Z.crO L) ∧ New w.heap.size v ∧ Gh w' g (Z.car L) E F ∧ Stp F w w' := by
  have hl := hs.i.len
  have hok : Z.ok 2000 := by obtain ⟨_, _, _, _, H⟩ := H; exact H.ok
  have hFlt : ∀ x, F x → x < w.heap.size := by obtain ⟨_, _, _, _, H⟩ := H; exact H.lt
  have hElt : ∀ x, E x → x < w.heap.size := by obtain ⟨_, _, _, _, H⟩ := H; exact H.el
  obtain ⟨na, nn, nc⟩ := s
  have t1 : True := trivial
  go_enter Tryz.func16, Tryz.ntmps16
  go_wp2_with (first
    | (clear t1; refine at_boxC 35 (by rfl) _ (by rfl) (btc (.slice na nn nc) b) (by rfl) (btc_one rfl b) ?_; intro g3 w3 a3 a4 r3 b3; have c0 := r3.cell 0 _ rfl))
  have start : CaI w w3 g Z E F L 0 (.slice none 0 0) := ⟨by obtain ⟨_, _, _, _, H⟩ := H; exact ⟨_, _, _, _, H.later b3⟩, OwV.nil _, (fun r e => by cases e), Stp.of_below b3 F, Nat.zero_le _⟩
  clear c0 r3 H
  go_loopw [5, 12] (fun v u wr => ∃ k : Nat, k ≤ L.length ∧ u = .int .i64 (k : Int) ∧ CaI w wr g Z E F L k v) (fun _ u _ => L.length - (intOf u).toNat)
  case atStart => exact ⟨0, Nat.zero_le _, rfl, start⟩
  case round =>
    clear start
    obtain ⟨k, hk, rfl, I⟩ := hrel
    obtain ⟨mp, mw, f, fw, H2⟩ := I.gh
    by_cases hlt : k < L.length
    · have h2 := hs.step I.st he hB
      obtain ⟨bb, o, e, hcs⟩ := h2.i.cell (by simp only at hl ⊢; omega)
      have ck := hcs k (by simp only at hl ⊢; omega)
      simp only at e
      subst e
      have hT : L.take (k + 1) = L.take k ++ [L.getD k 0] := by
        rw [List.take_add_one, List.getElem?_eq_getElem hlt, List.getD_eq_getElem?_getD, List.getElem?_eq_getElem hlt]; rfl
      have e1 : Hid (Z.cr (L.take (k + 1)) = (Z.cr (L.take k)).wr (rdy (Z.cr (L.take k)).l (L.getD k 0))) := by show _ = _; rw [hT, cr_snoc]
      have e2 : Hid (Z.crO (L.take (k + 1)) = Z.crO (L.take k) ++ rdy (Z.cr (L.take k)).l (L.getD k 0)) := by show _ = _; rw [hT, crO_snoc]
      have hwx : wfi (L.getD k 0) := by
        rw [List.getD_eq_getElem?_getD, List.getElem?_eq_getElem hlt]; exact hs.i.wf _ (List.getElem_mem _)
      have hnl2 := cr_needs hok.srt hnl (L.take k)
      have hfw := I.few
      have how := I.ow
      have hgh2 := I.gh
      have hlr := rdy_len H2.ok (L.getD k 0)
      have hwr := rdy_wfi H2.ok (by omega) (L.getD k 0)
      generalize hO : Z.crO (L.take k) = O at *
      generalize hZ : Z.cr (L.take k) = Z2 at *
      generalize L.getD k 0 = y at *
      have hRd := ready_any H2 y hwx hnl2
      clear hcs h2 hT hO hZ
      generalize hR : rdy Z2.l y = R at *
      have hbig : O.length + R.length ≤ 1000000 := by
        have : k * 2000 ≤ 400 * 2000 := Nat.mul_le_mul_right _ (by omega)
        omega
      have a3 : (k : Int) < (nn : Int) := by omega
      have hbig' : Hid (O.length + R.length ≤ 1000000) := hbig
      have hR1 : Hid (R.length ≤ 100000) := by show _ ≤ _; omega
      have hfw' : Hid (O.length + R.length ≤ (k + 1) * 2000) := by show _ ≤ _; omega
      have hF2 : ∀ x, F x → x < wr.heap.size := H2.lt
      have hst := I.st
      have hnw := I.nw
      clear hbig hfw hlr I hR
      go_wp2_with (first
        | (go_at_call 41; refine hRd.mono ?_; rintro e w4 ⟨v4, rfl, o4, n4, b4⟩; clear hRd
           obtain ⟨⟨sa, sn, sc⟩, e4, e5, i4, e6⟩ := o4.ins hwr n4
           subst e4
           have hWr := write_any (Gh.later hgh2 b4) i4 e6 (fun x hx hf => by have := hF2 x hf; have := hx.1; omega) hR1.out hnl2
           have e5' : Hid (sn = R.length) := e5
           clear e5)
        | (go_at_call 26; refine hWr.mono ?_; rintro e w5 ⟨rfl, g5, s5⟩; clear hWr
           have i5 := i4.step s5 e6 (fun x hx hf => by have := hF2 x hf; have := hx.1; omega)
           have ow5 := (how.later b4).step s5 (fun r hr hf => by have := hnw r hr; have := hFlt r hf; omega))
        | (at_builtin; refine at_appR elI w.heap.size rfl _ _ (by rfl) (by rfl) ow5 hnw sa sc (R.map (Value.int .i64)) (m := sn) (by rfl) (by rw [List.length_map, e5'.out, Nat.mul_one]) (fun e => ⟨(i5.zero e).1, (i5.zero e).2.1⟩) (fun ad e j u hu => i5.cells ad e j u hu) (by intro u hu; obtain ⟨x, _, rfl⟩ := List.mem_map.1 hu; rfl) (by rw [e5'.out]; exact hbig'.out) (by have := hst.size; have := b4.size; have := s5.size; omega) ?_
           intro v6 w6 hA))
      obtain ⟨A1, A2, A3, A4, -⟩ := hA
      have s6 : Stp F w w6 := ((hst.trans (Stp.of_below b4 F)).trans s5).next A4 (fun x e => .inr (hnw x e))
      have g6 : Gh w6 g (Z2.wr R) E F := by
        obtain ⟨_, _, _, _, H5⟩ := g5
        exact ⟨_, _, _, _, H5.step A4 (fun x hx e => by have := hFlt x hx; have := hnw x e; omega) (fun x hx e => by have := hElt x hx; have := hnw x e; omega)⟩
      have J : CaI w w6 g Z E F L (k + 1) v6 := ⟨by rw [e1.out]; exact g6, by rw [e2.out]; unfold OwV; rw [List.length_append, List.map_append, ← e5'.out]; exact A1, A2, s6, by rw [e2.out, List.length_append]; exact hfw'.out⟩
      go_wp2_with fail
      go_roundw
      case rel => exact ⟨k + 1, by omega, by go_num, J⟩
      case measure => simp [intOf]; omega
    · have hk' : k = L.length := by omega
      subst hk'
      have hS := settleAll_any H2
      have how := I.ow
      have hst := I.st
      have hnw := I.nw
      rw [List.take_length] at hS how
      have hcar : Hid (Z.car L = (Z.cr L).stl fun _ => true) := by show _ = _; rfl
      generalize (Z.cr L).stl (fun _ => true) = Z3 at *
      generalize (Z.cr L).stlN (fun _ => true) = n3 at *
      clear I
      go_wp2_with (first
        | (go_at_call 42; refine hS.mono ?_; rintro e w5 ⟨rfl, g5, s5⟩; clear hS))
      go_returns
      exact ⟨_, rfl, how.step s5 (fun r hr hf => by have := hnw r hr; have := hFlt r hf; omega), hnw, by rw [hcar.out]; exact g5, hst.trans s5⟩
end Go.Proofs.YtdfifneikmlmoaaGreat
