/-
  The chapter's example of layer 13 holds: no statement is proved here.
-/
import Derived.Test.YtecedklfdmbnpaaCacK
namespace Go.Proofs.Ytecedklfdmbnpaa
open Go.ChangeShapes Go.WideShapes Go.ChangeAt Go.RowKit
set_option linter.unusedVariables false
set_option linter.unusedSimpArgs false

def b7 : Blk := ⟨7 :: List.replicate 63 0, by simp⟩
theorem build7 (w : World) : (Instr.build 42 #[(0, .int .u8 7)]).run Try.prog w = .ok (.agg b7.cs.toArray) w := by
  kernel_rfl
theorem at_bld7 {ops : Array Oper} {rest : List Oper} {o : Oper} {a : Act} {w : World} {Q : Exit → Act → World → Prop} (hw : Region.wanted o (yielded ops a.tmps) = true) (ho : o.op = .build 42 #[(0, .const (.int .u8 7))])
    (h : wpList Try.prog ops Q rest (a.put o.dst (.agg b7.cs.toArray)) w) : wpList Try.prog ops Q (o :: rest) a w := by
  refine wpList_val hw _ _ ?_ h
  simp [execOp, ho, Act.eval, build7]
def z0 : CZ := CZ.new (DS.new 3) none 1
theorem z0_ok : z0.ok 0 := CZ.new_ok (by omega) (by omega) (fun i => Nat.le_refl _) (fun s h => by cases h)
theorem z0_h : z0.holdE 0 = 0 := by decide
theorem z1_h : (z0.put 0 b7).holdE 1 = 0 := by decide
theorem z2_l : keys ((z0.put 0 b7).hold 1).l = [1] := by decide
theorem z2_d : ((z0.put 0 b7).hold 1).d.shown 0 = b7 := by decide
set_option maxRecDepth 100000 in
set_option maxHeartbeats 2000000 in
theorem cworks_any (w : World) : Calls Try.prog 22 #[] w fun e w' => e = .returned (.bool true) ∧ Below w.heap.size w w' := by
  have e36 := eq36
  have g36 := guard36
  have hz1 := z0_ok.put 0 b7
  have hz2 := hz1.hold 1
  have q1 := z0_h
  have q2 := z1_h
  have q3 := z2_l
  have q4 := z2_d
  have hN := new_any 3 none w (by omega) (by omega)
  go_enter Try.func22, Try.ntmps22
  go_wp2_with fail
  refine hN.mono ?_
  rintro e w1 ⟨rfl, b1, s1, d1⟩
  have hD : DD w1 (w.heap.size + 2) (.pointer none) (DS.new 3) none (fun x => w.heap.size ≤ x ∧ x < w.heap.size + 3) (fun _ => False) := ⟨d1, rfl, fun _ _ => id, fun _ h => h.elim⟩
  have hC := cnew_ca hD 1 (by omega) (by omega)
  have s1' : Hid (w1.heap.size = w.heap.size + 3) := s1
  generalize w.heap.size + 2 = g at *
  clear hN s1 d1
  go_wp2_with fail
  refine hC.mono ?_
  rintro e w2 ⟨gc, U, rfl, c2, b2, u2⟩
  have B2 : Below w.heap.size w w2 := bnext b1 b2 (Nat.le_refl _)
  have hU : ∀ x, U x → w.heap.size ≤ x := fun x hx => by
    rcases u2 x hx with e | e | e
    · exact e.1
    · exact e.elim
    · have := b1.size; omega
  clear hC hD b1 b2 u2
  have hP := put_ca c2 z0_ok (by omega) 0 (by decide) b7
  rw [show CZ.holdE (CZ.new (DS.new 3) none 1) 0 = 0 from q1] at hP
  go_wp2_with (first
    | (refine at_bld7 (by rfl) (by rfl) ?_)
    | (go_at_call 24; refine hP.mono ?_; rintro e w3 ⟨rfl, U3, c3, s3, g3⟩
       have hU3 : ∀ x, U3 x → w.heap.size ≤ x := fun x hx => by
         rcases g3 x hx with e | e
         · exact hU x e
         · exact Nat.le_trans B2.size e.1
       have B3 : Below w.heap.size w w3 := ((Stp.of_below B2 (fun x => w.heap.size ≤ x)).next s3 (fun x e => .inl (hU x e))).below (Nat.le_refl _) (fun _ h => h)
       have hG := get_ca c3 hz1 (by omega) 1 (by decide)
       rw [show CZ.holdE (CZ.put (CZ.new (DS.new 3) none 1) 0 b7) 1 = 0 from q2] at hG
       clear hP)
    | (go_at_call 28; refine hG.mono ?_; rintro e w4 ⟨rfl, U4, c4, s4, g4⟩
       have hU4 : ∀ x, U4 x → w.heap.size ≤ x := fun x hx => by
         rcases g4 x hx with e | e
         · exact hU3 x e
         · exact Nat.le_trans B3.size e.1
       have B4 : Below w.heap.size w w4 := ((Stp.of_below B3 (fun x => w.heap.size ≤ x)).next s4 (fun x e => .inl (hU3 x e))).below (Nat.le_refl _) (fun _ h => h)
       clear hG
       have cX := c4
       have BX := B4)
    | (refine at_newB (by rfl) (by rfl) ?_; intro gb wA aA lA rA bA
       have hX := cX.lt
       have cX := cX.later bA
       have BA := bnext BX bA (Nat.le_refl _))
    | (refine at_putB (by rfl) _ _ (by rfl) gb (by rfl) _ (by rfl) _ rA ?_; intro wB rB sB
       have cX := cX.step sB (fun x hx e => by have := hX x hx; omega)
       have BX : Below w.heap.size w wB := ((Stp.of_below BA (fun x => w.heap.size ≤ x)).next sB (fun x e => .inl (by have := BX.size; omega))).below (Nat.le_refl _) (fun _ h => h)
       have hR := read_ca cX 0 (by decide))
    | (go_at_call 20; refine hR.mono ?_; rintro e w5 ⟨rfl, b5⟩
       rw [show (CZ.hold (CZ.put (CZ.new (DS.new 3) none 1) 0 b7) 1).d.shown 0 = b7 from q4]
       have cX := cX.later b5
       have BX := bnext BX b5 (Nat.le_refl _)
       clear hR)
    | (refine at_getB (by rfl) _ (by rfl) gb (by rfl) b7 rB.range ?_)
    | (go_at_call 15; refine (held_ca cX hz2).mono ?_; rintro e w6 ⟨v6, rfl, o6, b6⟩
       rw [show keys (CZ.hold (CZ.put (CZ.new (DS.new 3) none 1) 0 b7) 1).l = [1] from q3] at o6
       have BX := bnext BX b6 (Nat.le_refl _)
       have b7' : Below w6.heap.size w6 (w6.alloc (.cells #[.int .i64 1] 3)) := (Below.refl _ w6).alloc (Nat.le_refl _) _
       have o7 := o6.later b7'
       have o8 : OwV (w6.alloc (.cells #[.int .i64 1] 3)) (.slice (some ⟨w6.heap.size, 0, none⟩) 1 1) [1] := Rw1.own (l := [1]) (cur := #[.int .i64 1]) ⟨heap_alloc_new w6 _, Nat.le_refl _, by decide, rfl, rfl⟩
       have BX := bnext BX b7' (Nat.le_refl _))
    | (go_at_call 14; refine (same_any o7 o8 (by decide)).mono ?_; rintro e w8 ⟨rfl, b8⟩
       have BX := bnext BX b8 (Nat.le_refl _)))
  go_returns
  exact ⟨by simp, BX⟩
end Go.Proofs.Ytecedklfdmbnpaa
