/-
  Numbers of a list from its end (package slices): no statement is proved here.
-/
import Derived.Test.YtigchhogclofiaaGreatGrX
namespace Go.Proofs.YtigchhogclofiaaGreat
open Go.ChangeShapes Go.WideShapes Go.ChangeAt Go.RowKit Go.Shelf
set_option linter.unusedVariables false
set_option linter.unusedSimpArgs false
attribute [local go_sem] Oper.semAt_some

/-- What has come when those from j on have. -/
def bk {α : Type} (el : Nat → α) (len j : Nat) : List α := (((List.range len).drop j).reverse).map el
theorem bk_end {α : Type} (el : Nat → α) (len : Nat) : bk el len len = [] := by unfold bk; rw [List.drop_eq_nil_of_le (by simp)]; rfl
theorem bk_step {α : Type} (el : Nat → α) {len j : Nat} (h : j < len) : bk el len j = bk el len (j + 1) ++ [el j] := by
  unfold bk
  rw [List.drop_eq_getElem_cons (by simpa using h), List.reverse_cons, List.map_append]
  simp
theorem bk_len {α : Type} (el : Nat → α) (len j : Nat) : (bk el len j).length = len - j := by unfold bk; simp
/-- Two blocks are as they were. -/
def Kb (b c : Nat) (W W' : World) : Prop := W'.heap[b]? = W.heap[b]? ∧ W'.heap[c]? = W.heap[c]?
theorem Kb.refl (b c : Nat) (W : World) : Kb b c W W := ⟨rfl, rfl⟩
theorem Kb.trans {b c : Nat} {A B C : World} (h : Kb b c A B) (k : Kb b c B C) : Kb b c A C := ⟨k.1.trans h.1, k.2.trans h.2⟩
set_option maxRecDepth 100000 in
set_option maxHeartbeats 2000000 in
theorem back1_in {α : Type} (encs : α → Array Value) (el : Nat → α) (Fe : Fence) (n : Nat) (h57 : Fe.fn 80) (hro : Fe.round = none) (hn : 1 ≤ n) (l bx b off len cap : Nat) (zs : List Int) (hlen : len ≤ 100000) (hel : ∀ j, j < len → encs (el j) = #[.int .i64 (j : Int), .int .i64 (zs.getD j 0)]) (J Jx : List α → World → Prop)
    (hY : ∀ pre x W, J pre W → pre.length < len → YieldAt Fe (n - 1) Tryz.prog l (encs x) W fun e W' =>
      (e = .returned (.bool true) ∧ J (pre ++ [x]) W' ∧ Kb b bx W W') ∨ (e = .returned (.bool false) ∧ Jx (pre ++ [x]) W'))
    (W : World) (hbx : W.cell? ⟨bx, 0, none⟩ = some (.slice (some ⟨b, off, none⟩) len cap)) (hc : ∀ j, j < len → W.cell? ⟨b, off + j, none⟩ = some (.int .i64 (zs.getD j 0))) (h0 : J [] W) :
    CallsIn Fe n Tryz.prog 80 #[.func (.yield l) #[] #[], .pointer (some ⟨bx, 0, none⟩)] W fun e W' => (∃ v, e = .returned v) ∧
      ((∃ ys, ys = bk el len 0 ∧ J ys W') ∨ (∃ pre, True ∧ Jx pre W')) := by
  refine callsIn_of_wp Tryz.func80 rfl h57 ?_ hro
  simp only [Tryz.ntmps80, List.size_toArray, List.length_cons, List.length_nil, Nat.reduceAdd, Nat.reduceSub, Array.replicate_succ, Array.replicate_zero, List.push_toArray, List.append_toArray, List.nil_append, List.cons_append]
  gi_wp2
  gi_loopw [3] (fun i wr => ∃ j : Nat, j ≤ len ∧ i = .int .i64 ((j : Int) - 1) ∧ J (bk el len j) wr ∧ Kb b bx W wr)
    (fun i _ => (intOf i + 1).toNat)
  case atStart => exact ⟨len, Nat.le_refl _, by go_num, by rw [bk_end]; exact h0, Kb.refl _ _ _⟩
  case round =>
    obtain ⟨j, hj, rfl, hJs, hk⟩ := hrel
    cases j with
    | zero =>
      gi_wp2
      go_end0
      exact ⟨⟨_, rfl⟩, .inl ⟨_, rfl, hJs⟩⟩
    | succ j =>
      have hjl : j < len := by omega
      obtain ⟨fn, tmps, assign, body, hy, hR⟩ := hY _ (el j) wr hJs (by rw [bk_len]; omega)
      rw [hel j hjl] at hy
      have hcx : wr.cell? ⟨b, off + j, none⟩ = some (.int .i64 (zs.getD j 0)) := by rw [World.cell?_of_block (w := W) hk.1]; exact hc j hjl
      have hbx' : wr.cell? ⟨bx, 0, none⟩ = some (.slice (some ⟨b, off, none⟩) len cap) := by rw [World.cell?_of_block (w := W) hk.2]; exact hbx
      generalize zs.getD j 0 = y at *
      have a4 : ((j + 1 : Nat) : Int) - 1 = (j : Int) := by omega
      rw [a4]
      have a1 : (j : Int) < (len : Int) := by omega
      gi_wp2
      refine hR.mono ?_
      rintro e W3 (⟨rfl, hJ3, hk3⟩ | ⟨rfl, hJx3⟩)
      · gi_wp2
        go_roundw
        case rel => exact ⟨j, by omega, by go_num, by rw [bk_step el hjl]; exact hJ3, hk.trans hk3⟩
        case measure => simp [intOf]
      · gi_wp2
        refine bodyPost_ret (results_none rfl _ _ _) rfl ?_
        exact ⟨⟨_, rfl⟩, .inr ⟨_, trivial, hJx3⟩⟩
end Go.Proofs.YtigchhogclofiaaGreat
