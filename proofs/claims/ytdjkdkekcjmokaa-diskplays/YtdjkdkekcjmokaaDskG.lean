/-
  The chapter's example of layer 4 plays as it says: no statement is proved here.
-/
import Derived.Test.YtdjkdkekcjmokaaDskF
namespace Go.Proofs.Ytdjkdkekcjmokaa
open Go.ChangeShapes Go.WideShapes Go.ChangeAt Go.RowKit
set_option linter.unusedVariables false

def blkOf (x : UInt8) : Blk := ⟨x :: List.replicate 63 0, by simp⟩
theorem build1 (w : World) : (Instr.build 36 #[(0, .int .u8 1)]).run Try.prog w = .ok (.agg (blkOf 1).cs.toArray) w := by kernel_rfl
theorem build2 (w : World) : (Instr.build 36 #[(0, .int .u8 2)]).run Try.prog w = .ok (.agg (blkOf 2).cs.toArray) w := by kernel_rfl
section
variable {ops : Array Oper} {rest : List Oper} {o : Oper} {a : Act} {w : World} {Q : Exit → Act → World → Prop}
theorem at_build1 (hw : Region.wanted o (yielded ops a.tmps) = true) (ho : o.op = .build 36 #[(0, .const (.int .u8 1))]) (h : wpList Try.prog ops Q rest (a.put o.dst (.agg (blkOf 1).cs.toArray)) w) : wpList Try.prog ops Q (o :: rest) a w := by
  refine wpList_val hw _ _ ?_ h
  simp only [execOp, ho, Sem.run_bind, List.map_toArray, List.map_cons, List.map_nil]; exact congrArg (fun r => Result.andThen r _) (build1 w)
theorem at_build2 (hw : Region.wanted o (yielded ops a.tmps) = true) (ho : o.op = .build 36 #[(0, .const (.int .u8 2))]) (h : wpList Try.prog ops Q rest (a.put o.dst (.agg (blkOf 2).cs.toArray)) w) : wpList Try.prog ops Q (o :: rest) a w := by
  refine wpList_val hw _ _ ?_ h
  simp only [execOp, ho, Sem.run_bind, List.map_toArray, List.map_cons, List.map_nil]; exact congrArg (fun r => Result.andThen r _) (build2 w)
end
theorem ins_one (w : World) (x : Int) (hx : (Lit.int .i64 x).wf = true) : Ins (w.alloc (.cells #[.int .i64 x] 3)) (some ⟨w.heap.size, 0, none⟩) 1 1 [x] :=
  ⟨rfl, Nat.le_refl _, by decide, fun y hy => by simp at hy; subst hy; exact hx, fun _ => ⟨_, _, rfl, fun i hi => by
    have h0 : i = 0 := by omega
    subst h0; simp [go_sem]⟩⟩
theorem useP_none (S : DS) (i : Int) : useP S none i = none := by unfold useP; split <;> rfl
theorem ok_none : oOk none := fun _ h => by cases h

set_option maxRecDepth 100000 in
set_option maxHeartbeats 2000000 in
theorem works_any (w : World) :
    Calls Try.prog 16 #[] w fun e w' => e = .returned (.bool true) ∧ Below w.heap.size w w' := by
  have e36 := eq36
  have g36 := guard36
  have q1 : useRes (DS.new 2) none 0 = 0 := rfl
  have q2 : useRes ((DS.new 2).write none 0 (blkOf 1)) none 0 = 0 := rfl
  have q3 : checkErr ((((DS.new 2).write none 0 (blkOf 1)).write none 0 (blkOf 2)).crash [1]) 0 = 0 := rfl
  have q4 : ((((DS.new 2).write none 0 (blkOf 1)).write none 0 (blkOf 2)).crash [1]).shown 0 = blkOf 1 := rfl
  have f0 : ∀ k, ((DS.new 2).wt k).length < 100000 := fun k => by simp [DS.new]
  have f1 : (((DS.new 2).write none 0 (blkOf 1)).wt 0).length < 100000 := by decide
  have f2 : ∀ k, ((((DS.new 2).write none 0 (blkOf 1)).write none 0 (blkOf 2)).wt k).length < 100000 := fun k => by
    show ((if k = 0 then _ else if k = 0 then _ else []) : List Blk).length < 100000
    split
    · exact (by decide : ((((DS.new 2).write none 0 (blkOf 1)).wt 0 ++ [blkOf 2]) : List Blk).length < 100000)
    · simp
  go_enter Try.func16, Try.ntmps16
  go_wp2_with fail
  refine (new_any 2 none w (by omega) (by omega)).mono ?_
  rintro e w1 ⟨rfl, b1, z1, d1⟩
  have D1 : DD w1 (w.heap.size + 2) (.pointer none) (DS.new 2) none (fun x => w.heap.size ≤ x ∧ x < w.heap.size + 3) (fun _ => False) := ⟨d1, rfl, fun _ _ => id, fun _ h => h.elim⟩
  obtain ⟨g, hg⟩ : ∃ g, g = w.heap.size + 2 := ⟨_, rfl⟩
  rw [← hg] at D1 ⊢
  obtain ⟨F, hF⟩ : ∃ F : Nat → Prop, F = (fun x => w.heap.size ≤ x ∧ x < w.heap.size + 3) := ⟨_, rfl⟩
  rw [← hF] at D1
  have hFw : ∀ x, F x → w.heap.size ≤ x := fun x hx => by rw [hF] at hx; exact hx.1
  clear d1 z1 hg hF
  go_wp2_with (first
    | (refine at_build1 (by rfl) (by rfl) ?_))
  refine (write_any D1 ok_none 0 (blkOf 1) (f0 0)).mono ?_
  rintro e w2 ⟨rfl, F2, D2, k2, g2⟩
  rw [q1]
  rw [useP_none] at D2
  go_wp2_with (first
    | (refine at_build2 (by rfl) (by rfl) ?_))
  refine (write_any D2 ok_none 0 (blkOf 2) f1).mono ?_
  rintro e w3 ⟨rfl, F3, D3, k3, g3⟩
  rw [q2]
  rw [useP_none] at D3
  go_wp2_with fail
  have k4 : Stp (fun _ => False) w3 (w3.alloc (.cells #[.int .i64 1] 3)) := Stp.of_alloc _ _ _
  refine (crash_any (D3.d.step k4 (fun _ _ => id)) f2 (ins_one w3 1 (by decide)) (fun x _ e hx => by injection e with e; subst e; have := D3.d.lt _ hx; simp at this)).mono ?_
  rintro e w5 ⟨rfl, D5, k5⟩
  go_wp2_with fail
  refine (read_any D5 0 (by decide)).mono ?_
  rintro e w6 ⟨rfl, b6⟩
  rw [q3, q4]
  go_wp2_with (first
    | (refine at_alloc (by rfl) (by rfl) ?_)
    | (refine at_store (by rfl) _ _ (by rfl) _ _ (by rfl) (blkOf 1) (by rfl) (there_made w6) ?_; rw [setCells_made])
    | (refine at_load (by rfl) _ (by rfl) _ _ (by rfl) (blkOf 1) (made_range w6 _ _) ?_)
    | (refine at_build1 (by rfl) (by rfl) ?_))
  go_returns
  have s1 : Stp (fun x => w.heap.size ≤ x) w w3 := ((Stp.of_below b1 _).next k2 (fun x hx => .inl (by rcases hx with hx | hx; exact hFw x hx; exact hx.elim))).next k3 (fun x hx => .inl (by
    rcases hx with hx | hx
    · rcases g2 x hx with h | h
      · exact hFw x h
      · have := b1.size; omega
    · exact hx.elim))
  have s2 : Stp (fun x => w.heap.size ≤ x) w w5 := (s1.trans (Stp.of_alloc _ _ _)).next k5 (fun x hx => .inl (by
    rcases g3 x hx with h | h
    · rcases g2 x h with h | h
      · exact hFw x h
      · have := b1.size; omega
    · have := b1.size; have := k2.size; omega))
  have s3 := (s2.trans (Stp.of_below b6 _)).alloc (.cells (blkOf 1).cs.toArray 36)
  exact ⟨by simp, s3.below (Nat.le_refl _) (fun x hx => hx)⟩
end Go.Proofs.Ytdjkdkekcjmokaa
