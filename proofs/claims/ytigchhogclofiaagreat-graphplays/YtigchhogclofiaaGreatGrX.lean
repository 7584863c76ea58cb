/-
  What want of layer 14 does, and the numbers of a list from its end: no statement is proved here.
-/
import Derived.RangeFuncNested
import Derived.RangeFuncBound
import Derived.RangeFuncCalls
import Derived.RangeFuncLeaves
import Derived.RangeFuncWrites
import Derived.Shelf.Abstract
import Derived.Shelf.RegionOpen
import Derived.OwnWalkIn
import Derived.TacticsInMore
import Derived.LoopNIn
import Derived.LoopIn
import Derived.Test.YtigchhogclofiaaGreatGrV
namespace Go.Proofs.YtigchhogclofiaaGreat
open Go.ChangeShapes Go.WideShapes Go.ChangeAt Go.RowKit Go.Shelf
set_option linter.unusedVariables false
set_option linter.unusedSimpArgs false

theorem uSm : Tryz.prog.underlying 82 = some (.map 3 88) := by kernel_rfl
/-- Numbers as a set. -/
def stF (S : Int → Bool) : Int → Option Value := fun x => if S x then some (.agg #[]) else none
/-- Block b is a map of just the numbers of S, at most n. -/
def MpS (w : World) (b : Nat) (S : Int → Bool) (n : Nat) : Prop := ∃ D, w.ownsMap Tryz.prog 3 heldElem b n D ∧ Reads D (stF S)
section
variable {w w' : World} {b n : Nat} {S : Int → Bool} {F : Nat → Prop}
theorem MpS.lt (h : MpS w b S n) : b < w.heap.size := by obtain ⟨D, h, _⟩ := h; exact h.lt
theorem MpS.step (h : MpS w b S n) (k : Stp F w w') (hb : ¬ F b) : MpS w' b S n := by
  have hl := h.lt
  obtain ⟨D, ⟨es, clock, hh, rest⟩, hR⟩ := h
  exact ⟨D, ⟨es, clock, (k.block b hl hb).trans hh, rest⟩, hR⟩
theorem MpS.later (h : MpS w b S n) (k : Below w.heap.size w w') : MpS w' b S n := h.step (Stp.of_below k (fun _ => False)) id
theorem MpS.mp (h : MpS w b S n) (hn : n ≤ 4096) : MpI Tryz.prog 3 w b (stF S) := by obtain ⟨D, h1, h2⟩ := h; exact ⟨D, h1.mono hn, h2⟩
theorem MpS.made (w : World) : MpS (w.alloc (.map #[] 0)) w.heap.size (fun _ => false) 0 := ⟨_, World.ownsMap_made w Tryz.prog 3 heldElem, reads_empty⟩
theorem stF_put (S : Int → Bool) (k : Int) : upd (stF S) k (some (.agg #[])) = stF (fun x => S x || decide (x = k)) := by
  funext x; unfold upd stF
  by_cases e : x = k
  · simp [e]
  · simp [e]
theorem MpS.store (h : MpS w b S n) (hn : n < 4000) {k : Int} (hw : wfi k) : ∃ w', (Instr.mapUpdate 82 (.map (some b)) (.int .i64 k) (.agg #[])).run Tryz.prog w = .ok () w' ∧ MpS w' b (fun x => S x || decide (x = k)) (n + 1) ∧ Stp (fun x => x = b) w w' := by
  obtain ⟨D, h1, hR⟩ := h
  obtain ⟨w', r1, r2, r3⟩ := h1.store (Maps.int_keyed u3) uSm (by unfold maxLen; omega) (wfI hw u3) (val := .agg #[]) (d := .held (.agg #[])) (ps := []) rfl
  refine ⟨w', r1, ⟨_, r2, ?_⟩, turned_stp r3⟩
  rw [← stF_put]; exact hR.put h1.isMap k _
end
section
variable {ops : Array Oper} {rest : List Oper} {o : Oper} {a : Act} {w : World} {Q : Exit → Act → World → Prop}
theorem at_updS (hw : Region.wanted o (yielded ops a.tmps) = true) (m x y : Operand) (ho : o.op = .mapUpdate 82 m x y) (b n : Nat) (S : Int → Bool) (hm : a.eval m = .map (some b)) (k : Int) (hx : a.eval x = .int .i64 k) (hy : a.eval y = .agg #[]) (hM : MpS w b S n) (hn : n < 4000) (hk : wfi k)
    (h : ∀ w', MpS w' b (fun x => S x || decide (x = k)) (n + 1) → Stp (fun x => x = b) w w' → wpList Tryz.prog ops Q rest (a.put o.dst undef) w') : wpList Tryz.prog ops Q (o :: rest) a w := by
  obtain ⟨w', r1, r2, r3⟩ := hM.store hn hk
  refine op_unit hw _ ?_ (h w' r2 r3)
  simp [execOp, ho, hm, hx, hy, r1]
theorem bldE (w : World) : (Instr.build 88 #[]).run Tryz.prog w = .ok (.agg #[]) w := by kernel_rfl
theorem at_bldE (hw : Region.wanted o (yielded ops a.tmps) = true) (ho : o.op = .build 88 #[]) (h : wpList Tryz.prog ops Q rest (a.put o.dst (.agg #[])) w) : wpList Tryz.prog ops Q (o :: rest) a w := by
  refine op_val hw _ _ ?_ h
  simp only [execOp, ho, Sem.run_bind, List.map_toArray, List.map_nil, bldE]; rfl
end
set_option maxRecDepth 100000 in
set_option maxHeartbeats 2000000 in
theorem want_any {w : World} {b n : Nat} {S : Int → Bool} {s : Sv} {l : List Int} (hM : MpS w b S n) (hs : InsS w s l) (hl : n + l.length ≤ 3900) :
    Calls Tryz.prog 68 #[.map (some b), .slice s.a s.n s.c] w fun e w' => e = .returned (.tuple #[]) ∧ MpS w' b (fun x => S x || l.contains x) (n + l.length) ∧ Stp (fun x => x = b) w w' := by
  have hln := hs.i.len
  have hwf := hs.i.wf
  have hcell := hs.i.cell
  obtain ⟨sa, sn, sc⟩ := s
  simp only at hln hcell ⊢
  subst hln
  have hnc : ∀ p v, w.cell? p = some v → p.block ≠ b := fun p v hv e => by
    obtain ⟨D, ⟨es, clock, hh, _⟩, _⟩ := hM
    unfold World.cell? at hv; rw [e, hh] at hv; simp at hv
  go_enter Tryz.func68, Tryz.ntmps68
  go_wp2
  go_loopw [8] (fun x wr => ∃ k : Nat, k ≤ l.length ∧ x = .int .i64 (k : Int) ∧ MpS wr b (fun x => S x || (l.take k).contains x) (n + k) ∧ Stp (fun x => x = b) w wr) (fun x _ => l.length - (intOf x).toNat)
  case atStart =>
    refine ⟨0, Nat.zero_le _, rfl, ?_, Stp.refl _ _⟩
    have e : (fun x => S x || (l.take 0).contains x) = S := by funext x; simp
    rw [e]; exact hM
  case round =>
    obtain ⟨k, hk, rfl, hM4, st⟩ := hrel
    by_cases hkl : k < l.length
    · obtain ⟨bb, o, rfl, hcs⟩ := hcell (by omega)
      have ck := st.cell (hcs k hkl) (hnc _ _ (hcs k hkl))
      have hw0 : wfi (l.getD k 0) := by
        rw [List.getD_eq_getElem?_getD, List.getElem?_eq_getElem hkl]; exact hwf _ (List.getElem_mem _)
      have hT : (fun x => (S x || (l.take k).contains x) || decide (x = l.getD k 0)) = fun x => S x || (l.take (k + 1)).contains x := by
        funext x
        rw [List.take_add_one, List.getElem?_eq_getElem hkl, List.getD_eq_getElem?_getD, List.getElem?_eq_getElem hkl, Bool.or_assoc]
        congr 1
        rw [Bool.eq_iff_iff]
        simp only [Option.getD_some, Option.toList_some, Bool.or_eq_true, List.contains_iff_mem, decide_eq_true_eq, List.mem_append, List.mem_singleton]
      have hT' : Hid ((fun x => (S x || (l.take k).contains x) || decide (x = l.getD k 0)) = fun x => S x || (l.take (k + 1)).contains x) := hT
      clear hT hcs hcell
      generalize l.getD k 0 = y at *
      have a9 : (k : Int) < (l.length : Int) := by omega
      have t1 : True := trivial
      have t2 : True := trivial
      go_wp2_with (first
        | (clear t1; refine at_bldE (by rfl) (by rfl) ?_)
        | (clear t2; refine at_updS (by rfl) _ _ _ (by rfl) b (n + k) _ (by rfl) y (by rfl) (by rfl) hM4 (by omega) hw0 ?_; intro w5 m5 s5))
      go_roundw
      case rel => exact ⟨k + 1, by omega, by go_num, by rw [← hT'.out]; exact m5, st.trans s5⟩
      case measure => simp [intOf]; omega
    · have hk' : k = l.length := by omega
      subst hk'
      rw [List.take_length] at hM4
      go_wp2
      first | go_end0 | refine bodyPost_ret (results_none rfl _ _ _) rfl ?_
      exact ⟨rfl, hM4, st⟩
end Go.Proofs.YtigchhogclofiaaGreat
