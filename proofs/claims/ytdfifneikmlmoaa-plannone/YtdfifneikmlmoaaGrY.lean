/-
  Numbers of a list from its end (package slices): no statement is proved here.
-/
import Derived.Test.YtdfifneikmlmoaaGrW
import Derived.RangeFuncNested
import Derived.RangeFuncBound
import Derived.RangeFuncCalls
import Derived.RangeFuncLeaves
import Derived.RangeFuncWrites
import Derived.Shelf.Abstract
import Derived.Shelf.RegionOpen
import Derived.OwnWalkIn
import Derived.TacticsInMore
import Derived.LoopNIn
import Derived.LoopIn
namespace Go.Proofs.Ytdfifneikmlmoaa
open Go.ChangeShapes Go.WideShapes Go.ChangeAt Go.RowKit
set_option linter.unusedVariables false
set_option linter.unusedSimpArgs false

set_option maxRecDepth 100000
set_option maxHeartbeats 1000000
theorem add_nil (p : Pt) (d n : Sv) (w : World) : Calls Try.prog 21 #[.pointer none, .agg (p.cs d n).toArray] w fun e w' => e = .returned (.tuple #[.int .i64 0, .int .i64 1]) ∧ Below w.heap.size w w' := by
  have t1 : True := trivial
  go_enter Try.func21, Try.ntmps21
  go_wp2_with (first | (clear t1; refine at_boxP (by rfl) _ (by rfl) p d n (by rfl) ?_; intro g1 w1 a1 a2 r1 b1))
  go_returns
  exact ⟨rfl, b1⟩
theorem bld0 (w : World) : (Instr.build 40 #[]).run Try.prog w = .ok (.agg (Pt.zero.cs Sv.nil Sv.nil).toArray) w := by kernel_rfl
theorem at_bldP0 {ops : Array Oper} {rest : List Oper} {o : Oper} {a : Act} {w : World} {Q : Exit → Act → World → Prop} (hw : Region.wanted o (yielded ops a.tmps) = true) (ho : o.op = .build 40 #[]) (h : wpList Try.prog ops Q rest (a.put o.dst (.agg (Pt.zero.cs Sv.nil Sv.nil).toArray)) w) : wpList Try.prog ops Q (o :: rest) a w := by
  refine op_val hw _ _ ?_ h
  simp only [execOp, ho, Sem.run_bind, List.map_toArray, List.map_nil, bld0]; rfl
theorem get_nil (i : Int) (w : World) : Calls Try.prog 14 #[.pointer none, .int .i64 i] w fun e w' => e = .returned (.tuple #[.agg (Pt.zero.cs Sv.nil Sv.nil).toArray, .int .i64 1]) ∧ Below w.heap.size w w' := by
  have t1 : True := trivial
  have t2 : True := trivial
  have t3 : True := trivial
  go_enter Try.func14, Try.ntmps14
  go_wp2_with (first
    | (clear t1; refine at_newP (by rfl) (by rfl) ?_; intro g1 w1 a1 a2 r1 b1)
    | (clear t2; refine at_bldP0 (by rfl) (by rfl) ?_)
    | (clear t3; refine at_putP (by rfl) _ _ (by rfl) g1 (by rfl) Pt.zero Sv.nil Sv.nil (by rfl) _ r1 rfl ?_; intro w2 r2 s2))
  refine bodyPost_ret (retCt srtP rfl rfl rfl r2 rfl) rfl ⟨rfl, ?_⟩
  exact ((Stp.of_below b1 (fun _ => False)).next s2 (fun x e => .inr (by omega))).below (Nat.le_refl _) (fun x e => e.elim)
theorem write_nil (v : Value) (w : World) : Calls Try.prog 26 #[.pointer none, v] w fun e w' => e = .returned (.int .i64 1) ∧ w = w' := by
  go_enter Try.func26, Try.ntmps26
  go_wp2
  go_returns
  exact ⟨rfl, rfl⟩
theorem those_nil (v : Value) (w : World) : Calls Try.prog 34 #[.pointer none, v] w fun e w' => e = .returned (.slice none 0 0) ∧ w = w' := by
  go_enter Try.func34, Try.ntmps34
  go_wp2
  go_returns
  exact ⟨rfl, rfl⟩
theorem all_nil (w : World) : Calls Try.prog 11 #[.pointer none] w fun e w' => e = .returned (.slice none 0 0) ∧ w = w' := by
  go_enter Try.func11, Try.ntmps11
  go_wp2_with (first | (go_at_call 34; refine (those_nil _ _).mono ?_; rintro e w1 ⟨rfl, rfl⟩))
  go_returns
  exact ⟨rfl, rfl⟩
theorem written_nil (w : World) : Calls Try.prog 69 #[.pointer none] w fun e w' => e = .returned (.slice none 0 0) ∧ w = w' := by
  go_enter Try.func69, Try.ntmps69
  go_wp2_with (first | (go_at_call 34; refine (those_nil _ _).mono ?_; rintro e w1 ⟨rfl, rfl⟩))
  go_returns
  exact ⟨rfl, rfl⟩
theorem settle_nil (v : Value) (w : World) : Calls Try.prog 61 #[.pointer none, v] w fun e w' => e = .returned (.int .i64 0) ∧ w = w' := by
  go_enter Try.func61, Try.ntmps61
  go_wp2_with (first | (go_at_call 69; refine (written_nil _).mono ?_; rintro e w1 ⟨rfl, rfl⟩))
  refine wp_loop_rounds 1 ?_
  rw [rounds_succ]
  go_wp2
  go_returns
  exact ⟨rfl, rfl⟩
theorem settleAll_nil (w : World) : Calls Try.prog 36 #[.pointer none] w fun e w' => e = .returned (.int .i64 0) ∧ w = w' := by
  go_enter Try.func36, Try.ntmps36
  go_wp2_with (first | (go_at_call 61; refine (settle_nil _ _).mono ?_; rintro e w1 ⟨rfl, rfl⟩))
  go_returns
  exact ⟨rfl, rfl⟩
theorem ready_nil (x : Int) (w : World) : Calls Try.prog 17 #[.pointer none, .int .i64 x] w fun e w' => e = .returned (.slice none 0 0) ∧ w = w' := by
  go_enter Try.func17, Try.ntmps17
  go_wp2
  go_returns
  exact ⟨rfl, rfl⟩
theorem copy_nil (w : World) : Calls Try.prog 33 #[.pointer none] w fun e w' => e = .returned (.pointer none) ∧ w = w' := by
  go_enter Try.func33, Try.ntmps33
  go_wp2
  go_returns
  exact ⟨rfl, rfl⟩
end Go.Proofs.Ytdfifneikmlmoaa
namespace Go.Proofs.Ytdfifneikmlmoaa
open Go.ChangeShapes Go.WideShapes Go.ChangeAt Go.RowKit Go.Shelf
set_option linter.unusedVariables false
set_option linter.unusedSimpArgs false

theorem uSm : Try.prog.underlying 65 = some (.map 3 75) := by kernel_rfl
/-- Numbers as a set. -/
def stF (S : Int → Bool) : Int → Option Value := fun x => if S x then some (.agg #[]) else none
/-- Block b is a map of just the numbers of S, at most n. -/
def MpS (w : World) (b : Nat) (S : Int → Bool) (n : Nat) : Prop := ∃ D, w.ownsMap Try.prog 3 heldElem b n D ∧ Reads D (stF S)
section
variable {w w' : World} {b n : Nat} {S : Int → Bool} {F : Nat → Prop}
theorem MpS.lt (h : MpS w b S n) : b < w.heap.size := by obtain ⟨D, h, _⟩ := h; exact h.lt
theorem MpS.step (h : MpS w b S n) (k : Stp F w w') (hb : ¬ F b) : MpS w' b S n := by
  have hl := h.lt
  obtain ⟨D, ⟨es, clock, hh, rest⟩, hR⟩ := h
  exact ⟨D, ⟨es, clock, (k.block b hl hb).trans hh, rest⟩, hR⟩
theorem MpS.later (h : MpS w b S n) (k : Below w.heap.size w w') : MpS w' b S n := h.step (Stp.of_below k (fun _ => False)) id
theorem MpS.mp (h : MpS w b S n) (hn : n ≤ 4096) : MpI Try.prog 3 w b (stF S) := by obtain ⟨D, h1, h2⟩ := h; exact ⟨D, h1.mono hn, h2⟩
theorem MpS.made (w : World) : MpS (w.alloc (.map #[] 0)) w.heap.size (fun _ => false) 0 := ⟨_, World.ownsMap_made w Try.prog 3 heldElem, reads_empty⟩
theorem stF_put (S : Int → Bool) (k : Int) : upd (stF S) k (some (.agg #[])) = stF (fun x => S x || decide (x = k)) := by
  funext x; unfold upd stF
  by_cases e : x = k
  · simp [e]
  · simp [e]
theorem MpS.store (h : MpS w b S n) (hn : n < 4000) {k : Int} (hw : wfi k) : ∃ w', (Instr.mapUpdate 65 (.map (some b)) (.int .i64 k) (.agg #[])).run Try.prog w = .ok () w' ∧ MpS w' b (fun x => S x || decide (x = k)) (n + 1) ∧ Stp (fun x => x = b) w w' := by
  obtain ⟨D, h1, hR⟩ := h
  obtain ⟨w', r1, r2, r3⟩ := h1.store (Maps.int_keyed u3) uSm (by unfold maxLen; omega) (wfI hw u3) (val := .agg #[]) (d := .held (.agg #[])) (ps := []) rfl
  refine ⟨w', r1, ⟨_, r2, ?_⟩, turned_stp r3⟩
  rw [← stF_put]; exact hR.put h1.isMap k _
end
section
variable {ops : Array Oper} {rest : List Oper} {o : Oper} {a : Act} {w : World} {Q : Exit → Act → World → Prop}
theorem at_updS (hw : Region.wanted o (yielded ops a.tmps) = true) (m x y : Operand) (ho : o.op = .mapUpdate 65 m x y) (b n : Nat) (S : Int → Bool) (hm : a.eval m = .map (some b)) (k : Int) (hx : a.eval x = .int .i64 k) (hy : a.eval y = .agg #[]) (hM : MpS w b S n) (hn : n < 4000) (hk : wfi k)
    (h : ∀ w', MpS w' b (fun x => S x || decide (x = k)) (n + 1) → Stp (fun x => x = b) w w' → wpList Try.prog ops Q rest (a.put o.dst undef) w') : wpList Try.prog ops Q (o :: rest) a w := by
  obtain ⟨w', r1, r2, r3⟩ := hM.store hn hk
  refine op_unit hw _ ?_ (h w' r2 r3)
  simp [execOp, ho, hm, hx, hy, r1]
theorem bldE (w : World) : (Instr.build 75 #[]).run Try.prog w = .ok (.agg #[]) w := by kernel_rfl
theorem at_bldE (hw : Region.wanted o (yielded ops a.tmps) = true) (ho : o.op = .build 75 #[]) (h : wpList Try.prog ops Q rest (a.put o.dst (.agg #[])) w) : wpList Try.prog ops Q (o :: rest) a w := by
  refine op_val hw _ _ ?_ h
  simp only [execOp, ho, Sem.run_bind, List.map_toArray, List.map_nil, bldE]; rfl
end
set_option maxRecDepth 100000 in
set_option maxHeartbeats 2000000 in
theorem want_any {w : World} {b n : Nat} {S : Int → Bool} {s : Sv} {l : List Int} (hM : MpS w b S n) (hs : InsS w s l) (hl : n + l.length ≤ 3900) :
    Calls Try.prog 28 #[.map (some b), .slice s.a s.n s.c] w fun e w' => e = .returned (.tuple #[]) ∧ MpS w' b (fun x => S x || l.contains x) (n + l.length) ∧ Stp (fun x => x = b) w w' := by
  have hln := hs.i.len
  have hwf := hs.i.wf
  have hcell := hs.i.cell
  obtain ⟨sa, sn, sc⟩ := s
  simp only at hln hcell ⊢
  subst hln
  have hnc : ∀ p v, w.cell? p = some v → p.block ≠ b := fun p v hv e => by
    obtain ⟨D, ⟨es, clock, hh, _⟩, _⟩ := hM
    unfold World.cell? at hv; rw [e, hh] at hv; simp at hv
  go_enter Try.func28, Try.ntmps28
  go_wp2
  go_loopw [8] (fun x wr => ∃ k : Nat, k ≤ l.length ∧ x = .int .i64 (k : Int) ∧ MpS wr b (fun x => S x || (l.take k).contains x) (n + k) ∧ Stp (fun x => x = b) w wr) (fun x _ => l.length - (intOf x).toNat)
  case atStart =>
    refine ⟨0, Nat.zero_le _, rfl, ?_, Stp.refl _ _⟩
    have e : (fun x => S x || (l.take 0).contains x) = S := by funext x; simp
    rw [e]; exact hM
  case round =>
    obtain ⟨k, hk, rfl, hM4, st⟩ := hrel
    by_cases hkl : k < l.length
    · obtain ⟨bb, o, rfl, hcs⟩ := hcell (by omega)
      have ck := st.cell (hcs k hkl) (hnc _ _ (hcs k hkl))
      have hw0 : wfi (l.getD k 0) := by
        rw [List.getD_eq_getElem?_getD, List.getElem?_eq_getElem hkl]; exact hwf _ (List.getElem_mem _)
      have hT : (fun x => (S x || (l.take k).contains x) || decide (x = l.getD k 0)) = fun x => S x || (l.take (k + 1)).contains x := by
        funext x
        rw [List.take_add_one, List.getElem?_eq_getElem hkl, List.getD_eq_getElem?_getD, List.getElem?_eq_getElem hkl, Bool.or_assoc]
        congr 1
        rw [Bool.eq_iff_iff]
        simp only [Option.getD_some, Option.toList_some, Bool.or_eq_true, List.contains_iff_mem, decide_eq_true_eq, List.mem_append, List.mem_singleton]
      have hT' : Hid ((fun x => (S x || (l.take k).contains x) || decide (x = l.getD k 0)) = fun x => S x || (l.take (k + 1)).contains x) := hT
      clear hT hcs hcell
      generalize l.getD k 0 = y at *
      have a9 : (k : Int) < (l.length : Int) := by omega
      have t1 : True := trivial
      have t2 : True := trivial
      go_wp2_with (first
        | (clear t1; refine at_bldE (by rfl) (by rfl) ?_)
        | (clear t2; refine at_updS (by rfl) _ _ _ (by rfl) b (n + k) _ (by rfl) y (by rfl) (by rfl) hM4 (by omega) hw0 ?_; intro w5 m5 s5))
      go_roundw
      case rel => exact ⟨k + 1, by omega, by go_num, by rw [← hT'.out]; exact m5, st.trans s5⟩
      case measure => simp [intOf]; omega
    · have hk' : k = l.length := by omega
      subst hk'
      rw [List.take_length] at hM4
      go_wp2
      first | go_end0 | refine bodyPost_ret (results_none rfl _ _ _) rfl ?_
      exact ⟨rfl, hM4, st⟩
end Go.Proofs.Ytdfifneikmlmoaa
namespace Go.Proofs.Ytdfifneikmlmoaa
open Go.ChangeShapes Go.WideShapes Go.ChangeAt Go.RowKit Go.Shelf
set_option linter.unusedVariables false
set_option linter.unusedSimpArgs false
attribute [local go_sem] Oper.semAt_some

/-- What has come when those from j on have. -/
def bk {α : Type} (el : Nat → α) (len j : Nat) : List α := (((List.range len).drop j).reverse).map el
theorem bk_end {α : Type} (el : Nat → α) (len : Nat) : bk el len len = [] := by unfold bk; rw [List.drop_eq_nil_of_le (by simp)]; rfl
theorem bk_step {α : Type} (el : Nat → α) {len j : Nat} (h : j < len) : bk el len j = bk el len (j + 1) ++ [el j] := by
  unfold bk
  rw [List.drop_eq_getElem_cons (by simpa using h), List.reverse_cons, List.map_append]
  simp
theorem bk_len {α : Type} (el : Nat → α) (len j : Nat) : (bk el len j).length = len - j := by unfold bk; simp
/-- Two blocks are as they were. -/
def Kb (b c : Nat) (W W' : World) : Prop := W'.heap[b]? = W.heap[b]? ∧ W'.heap[c]? = W.heap[c]?
theorem Kb.refl (b c : Nat) (W : World) : Kb b c W W := ⟨rfl, rfl⟩
theorem Kb.trans {b c : Nat} {A B C : World} (h : Kb b c A B) (k : Kb b c B C) : Kb b c A C := ⟨k.1.trans h.1, k.2.trans h.2⟩
set_option maxRecDepth 100000 in
set_option maxHeartbeats 2000000 in
theorem back1_in {α : Type} (encs : α → Array Value) (el : Nat → α) (Fe : Fence) (n : Nat) (h57 : Fe.fn 55) (hro : Fe.round = none) (hn : 1 ≤ n) (l bx b off len cap : Nat) (zs : List Int) (hlen : len ≤ 100000) (hel : ∀ j, j < len → encs (el j) = #[.int .i64 (j : Int), .int .i64 (zs.getD j 0)]) (J Jx : List α → World → Prop)
    (hY : ∀ pre x W, J pre W → pre.length < len → YieldAt Fe (n - 1) Try.prog l (encs x) W fun e W' =>
      (e = .returned (.bool true) ∧ J (pre ++ [x]) W' ∧ Kb b bx W W') ∨ (e = .returned (.bool false) ∧ Jx (pre ++ [x]) W'))
    (W : World) (hbx : W.cell? ⟨bx, 0, none⟩ = some (.slice (some ⟨b, off, none⟩) len cap)) (hc : ∀ j, j < len → W.cell? ⟨b, off + j, none⟩ = some (.int .i64 (zs.getD j 0))) (h0 : J [] W) :
    CallsIn Fe n Try.prog 55 #[.func (.yield l) #[] #[], .pointer (some ⟨bx, 0, none⟩)] W fun e W' => (∃ v, e = .returned v) ∧
      ((∃ ys, ys = bk el len 0 ∧ J ys W') ∨ (∃ pre, True ∧ Jx pre W')) := by
  refine callsIn_of_wp Try.func55 rfl h57 ?_ hro
  simp only [Try.ntmps55, List.size_toArray, List.length_cons, List.length_nil, Nat.reduceAdd, Nat.reduceSub, Array.replicate_succ, Array.replicate_zero, List.push_toArray, List.append_toArray, List.nil_append, List.cons_append]
  gi_wp2
  gi_loopw [3] (fun i wr => ∃ j : Nat, j ≤ len ∧ i = .int .i64 ((j : Int) - 1) ∧ J (bk el len j) wr ∧ Kb b bx W wr)
    (fun i _ => (intOf i + 1).toNat)
  case atStart => exact ⟨len, Nat.le_refl _, by go_num, by rw [bk_end]; exact h0, Kb.refl _ _ _⟩
  case round =>
    obtain ⟨j, hj, rfl, hJs, hk⟩ := hrel
    cases j with
    | zero =>
      gi_wp2
      go_end0
      exact ⟨⟨_, rfl⟩, .inl ⟨_, rfl, hJs⟩⟩
    | succ j =>
      have hjl : j < len := by omega
      obtain ⟨fn, tmps, assign, body, hy, hR⟩ := hY _ (el j) wr hJs (by rw [bk_len]; omega)
      rw [hel j hjl] at hy
      have hcx : wr.cell? ⟨b, off + j, none⟩ = some (.int .i64 (zs.getD j 0)) := by rw [World.cell?_of_block (w := W) hk.1]; exact hc j hjl
      have hbx' : wr.cell? ⟨bx, 0, none⟩ = some (.slice (some ⟨b, off, none⟩) len cap) := by rw [World.cell?_of_block (w := W) hk.2]; exact hbx
      generalize zs.getD j 0 = y at *
      have a4 : ((j + 1 : Nat) : Int) - 1 = (j : Int) := by omega
      rw [a4]
      have a1 : (j : Int) < (len : Int) := by omega
      gi_wp2
      refine hR.mono ?_
      rintro e W3 (⟨rfl, hJ3, hk3⟩ | ⟨rfl, hJx3⟩)
      · gi_wp2
        go_roundw
        case rel => exact ⟨j, by omega, by go_num, by rw [bk_step el hjl]; exact hJ3, hk.trans hk3⟩
        case measure => simp [intOf]
      · gi_wp2
        refine bodyPost_ret (results_none rfl _ _ _) rfl ?_
        exact ⟨⟨_, rfl⟩, .inr ⟨_, trivial, hJx3⟩⟩
end Go.Proofs.Ytdfifneikmlmoaa
