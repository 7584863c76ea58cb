/-
  Texts of my own, joined: no statement is proved here.
-/
import Derived.Deep.DeepCutAuto
import Derived.Shelf.SlMaps.Clone
import Derived.Test.YtgdnhkdfcjpdiaaGreatDoorJbe
set_option linter.unusedSimpArgs false
set_option linter.unusedVariables false
namespace Go.Proofs.YtgdnhkdfcjpdiaaGreatDoor
open Go.ChangeShapes Go.WideShapes Go.ChangeAt Go.RowKit
set_option maxRecDepth 100000 in
set_option maxHeartbeats 2000000 in
theorem of_any {w : World} {g mp mw : Nat} {f fw : Int → Option Value} {Z : GZ} {E F : Nat → Prop} (H : Gr w g mp mw f fw Z E F) (s : Int) (hs : wfi s) (hnl : ∀ p ∈ Z.l, p.needs.length ≤ 100000) :
    Calls Tryz.prog 64 #[.pointer (some ⟨g, 0, none⟩), .int .i64 s] w fun e w' => ∃ v L', e = .returned v ∧ PoI w w' v L' (wtP Z.l s) := by
  have tok2 : True := trivial
  obtain ⟨z0, z1, z2⟩ := H.cells
  obtain ⟨⟨va, vn, vc⟩, e1, ov, iv, hob⟩ := H.wait s
  simp only at e1
  have hwm := H.wm
  go_enter Tryz.func64, Tryz.ntmps64
  go_wp2_with (first
    | (clear tok2; refine at_look1 176 34 uWm _ zI (by rfl) _ _ (by rfl) mw fw (by rfl) hwm s (by rfl) hs _ e1 ?_))
  have hvn : (wtP Z.l s).length = vn := by rw [← wts_len]; exact iv.i.len
  subst hvn
  have hfew := H.ok.fewW s
  have i0 : PoI w w (.slice none 0 0) [] ((wtP Z.l s).take 0) := ⟨⟨OwP.nil w, (fun r e => by cases e), Below.refl _ _⟩, rfl, fun t ht => by cases ht⟩
  clear hwm z0 z1 z2 e1 ov
  go_loopw [5, 17] (fun u x wr => ∃ (k : Nat) (sv : Sv) (L' : List Pe), k ≤ (wtP Z.l s).length ∧ x = .int .i64 (k : Int) ∧ u = .slice sv.a sv.n sv.c ∧ PoI w wr (.slice sv.a sv.n sv.c) L' ((wtP Z.l s).take k)) (fun _ x _ => (wtP Z.l s).length - (intOf x).toNat)
  case atStart => exact ⟨0, Sv.nil, [], Nat.zero_le _, rfl, rfl, i0⟩
  case round =>
    clear i0
    obtain ⟨k, sv, L', hk, rfl, rfl, I⟩ := hrel
    by_cases hkl : k < (wtP Z.l s).length
    · have iv4 := iv.later I.u.b
      have H4 := H.later I.u.b
      obtain ⟨b, o, e, hcs⟩ := iv4.i.cell (by simp only; omega)
      have ck := hcs k (by simp only; omega)
      rw [wts_get hkl] at ck
      simp only at e
      have hq := wtP_mem.1 (List.getElem_mem hkl)
      obtain ⟨d4, n4, e4, m4, _⟩ := H4.look ((wtP Z.l s)[k]).id
      rw [H.ok.gt_of hq.1] at e4 m4
      have hfq := fit_to (H.ok.ft _ hq.1)
      have hwq := (H.ok.wfp hq.1).i
      have hnq := hnl _ hq.1
      have hst : (wtP Z.l s).take (k + 1) = (wtP Z.l s).take k ++ [(wtP Z.l s)[k]] := by rw [List.take_add_one, List.getElem?_eq_getElem hkl]; rfl
      have hst' : Hid ((wtP Z.l s).take (k + 1) = (wtP Z.l s).take k ++ [(wtP Z.l s)[k]]) := hst
      have hLl : L'.length = k := by have := congrArg List.length I.eq; simp at this; omega
      have hbig : L'.length + 1 ≤ 1000000 := by omega
      have hdl : ((wtP Z.l s)[k]).data.length ≤ 100000 := by omega
      clear hst hLl hfq
      generalize (wtP Z.l s)[k] = q at *
      subst e
      have a9 : (k : Int) < ((wtP Z.l s).length : Int) := by omega
      have pm4 := H4.pm
      obtain ⟨z0, z1, z2⟩ := H4.cells
      have t1 : True := trivial
      have t2 : True := trivial
      have hO := own_any m4 hdl hnq
      clear hcs iv4 z0 z2
      go_wp2_with (first
        | (clear t1; refine at_look1 175 112 uPm _ zP (by rfl) _ _ (by rfl) mp f (by rfl) pm4 q.id (by rfl) hwq _ e4 ?_)
        | (go_at_call 89; refine hO.mono ?_; rintro e w5 ⟨d', n', rfl, m5, b5⟩
           have I5 := I.later b5
           have hnew := cell_new9 w5 ⟨q, d', n'⟩ 112)
        | (clear t2; refine at_bsP _ (by rfl) (by rfl) ⟨q, d', n'⟩ (by rfl) ?_)
        | (at_builtin; refine at_appR elP w.heap.size rfl _ _ (by rfl) (by rfl) (ro_later I5.u.ow ((Below.refl _ w5).alloc (Nat.le_refl _) _)) I5.u.nw (some ⟨w5.heap.size, 0, none⟩) 1 (Pe.cs ⟨q, d', n'⟩) (by rfl) (by rfl) (fun e => by cases e) (fun ad e => by injection e with e; subst e; exact hnew) (Pe.cs_one _) hbig (Nat.le_trans I5.u.b.size (by simp)) ?_; intro v' w9 hA
           have P9 := I5.app m5 I.u.b.size (fun r hr => I.u.ow.lt hr) hA
           obtain ⟨xa, xn, xc, rfl⟩ := P9.u.ow.shape'
           clear hA))
      go_roundw
      case rel => exact ⟨k + 1, ⟨xa, xn, xc⟩, L' ++ [⟨q, d', n'⟩], by omega, by go_num, rfl, by rw [hst'.out]; exact P9⟩
      case measure => simp [intOf]; omega
    · have a9 : ¬ (k : Int) < ((wtP Z.l s).length : Int) := by omega
      rw [List.take_of_length_le (by omega)] at I
      go_wp2_with fail
      go_returns
      exact ⟨_, rfl, L', I⟩
end Go.Proofs.YtgdnhkdfcjpdiaaGreatDoor
namespace Go.Proofs.YtgdnhkdfcjpdiaaGreatDoor
open Go.ChangeShapes Go.WideShapes Go.ChangeAt Go.RowKit Go.Shelf
section
variable {ops : Array Oper} {o : Oper} {a : Act} {w : World} {K : Act → World → Prop} {Q : Exit → Act → World → Prop} {R : Prop} {S : World → Prop}
theorem step_boxC (T : Nat) (hgd : o.guard = none) (x : Operand) (ho : o.op = .box T x) (cs : List Value) (hx : a.eval x = .agg cs.toArray) (h1 : ∀ v ∈ cs, v.oneCell' = true)
    (h : ∀ g w', w.heap.size ≤ g → g < w'.heap.size → Cs w' g cs → Below w.heap.size w w' → K (a.put o.dst (.pointer (some ⟨g, 0, none⟩))) w') : if Region.wanted o (yielded ops a.tmps) = true then Oper.wp Tryz.prog o a w K Q else R := by
  have hw : Region.wanted o (yielded ops a.tmps) = true := by simp [Region.wanted, hgd]
  rw [if_pos hw]
  have h0 : (Instr.box T (.agg cs.toArray)).run Tryz.prog w = .ok (.pointer (some ⟨w.heap.size, 0, none⟩)) (w.alloc (.cells cs.toArray T)) := by
    simp [Instr.box, newVar, Value.cells, go_sem]
  have hr : (execOp a.eval o).run Tryz.prog w = .ok (.value (.pointer (some ⟨w.heap.size, 0, none⟩))) (w.alloc (.cells cs.toArray T)) := by simp [execOp, ho, hx, h0]
  unfold Oper.wp
  rw [hr]
  exact h w.heap.size _ (Nat.le_refl _) (by simp) (Cs.made w cs T h1) ((Below.refl _ _).alloc (Nat.le_refl _) _)
end
end Go.Proofs.YtgdnhkdfcjpdiaaGreatDoor
