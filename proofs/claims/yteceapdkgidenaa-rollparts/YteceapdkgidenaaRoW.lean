/-
  What works of the statements of layer 15 returns: no statement is proved here.
-/
import Derived.Test.YteceapdkgidenaaRoH
namespace Go.Proofs.Yteceapdkgidenaa
open Go.ChangeShapes Go.WideShapes Go.ChangeAt Go.RowKit
set_option linter.unusedVariables false
set_option linter.unusedSimpArgs false

/-- The examples. -/
def ex0 : Pt := ⟨0, 0, 3, [7], 0, [], 0, 0, false⟩
def ex4 : Pt := ⟨0, 0, 3, [7], 4, [], 0, 0, false⟩
theorem zero_kind : oK Blk.zero = 0 := by
  unfold oK
  have : rightB Blk.zero = false := by
    unfold rightB
    rw [show byt Blk.zero 54 = 0 from rfl]; rfl
  rw [this]; rfl
theorem zero_turn : nT Blk.zero = 1 := by unfold nT; rw [oT_none zero_kind]
theorem ex0_is : ((lyB Blk.zero ex0 1).l.getD 3 0).toNat = 7 ∧ lyE ex0 = 0 := by
  have hf : rfit ex0 = true := by decide
  constructor
  · unfold lyB
    rw [if_pos hf, if_pos (show ex0.kind = 0 from rfl), lyR_l hf rfl]; rfl
  · unfold lyE; rw [if_pos hf]
theorem ex4_is : nwE [ex4] = 0 ∧ ((gP 4 (nwB Blk.zero [ex4])).l.getD 3 0).toNat = 7 ∧ nT (nwB Blk.zero [ex4]) = 2 := by
  have hf : rfit ex4 = true := by decide
  have ha : [ex4].all rfit = true := by simp [hf]
  have hz : gP 4 Blk.zero = Ld.zero := by
    unfold gP
    rw [if_neg]
    unfold gE
    rw [zero_kind]; decide
  have hb : nwB Blk.zero [ex4] = sealK 4 1 (lyS Blk.zero ex4) := by
    unfold nwB
    rw [if_pos ha, ovB_cons, ovB_nil, zero_turn]
    unfold lyB
    rw [if_pos hf, if_neg (by decide)]
    unfold pB
    rw [show ex4.kind = 4 from rfl, if_pos (by decide)]; rfl
  have hk := seal_kind 4 1 (lyS Blk.zero ex4) (by omega) (by omega) (by omega)
  have hl := seal_load 4 1 (lyS Blk.zero ex4) (by omega) (by omega) (by omega)
  have ht := seal_turn 4 1 (lyS Blk.zero ex4) (by omega) (by omega) (by omega)
  refine ⟨by unfold nwE; rw [if_pos ha], ?_, ?_⟩
  · rw [hb]
    have := gP_own (b := sealK 4 1 (lyS Blk.zero ex4)) (k := 4) (by omega) hk
    rw [show ((4 : Int)) = ((4 : Nat) : Int) from rfl, this, hl, lyS_l hf (by decide), show ex4.kind = 4 from rfl, hz]; rfl
  · rw [hb]; unfold nT; rw [ht]
/-- 'x[i]' of a load by value. -/
theorem run_idxL (q : Ld) (k : Nat) (hk : k < 54) (w : World) : (Instr.index 35 (.agg q.cs.toArray) (.int .i64 (k : Int))).run Try.prog w = .ok (.int .u8 ((q.l.getD k 0).toNat : Int)) w := by
  have hu := arrL.und
  have hs : (sizeOf 5).run Try.prog w = .ok 1 w := sizeU8 w
  have hq := q.len
  have hg : q.cs[k]? = some (.int .u8 ((q.l.getD k 0).toNat : Int)) := by
    unfold Ld.cs
    rw [List.getElem?_map, List.getElem?_eq_getElem (by omega), List.getD_eq_getElem?_getD, List.getElem?_eq_getElem (by omega)]; rfl
  have hn : (0 : Int) ≤ (k : Int) ∧ (k : Int) < 54 := by omega
  have hi : Try.prog.underlying 5 = some (.int .u8) := by kernel_rfl
  have hg' : q.cs[k]? = some (.int .u8 ((q.l[k]?.getD 0).toNat : Int)) := by rw [hg, List.getD_eq_getElem?_getD]
  simp [Instr.index, run_underlying hu, asIntOf, hn, go_sem, hs, part]
  rw [if_pos hk, hg']; rfl
theorem at_idxL {ops : Array Oper} {rest : List Oper} {o : Oper} {a : Act} {w : World} {Q : Exit → Act → World → Prop} (hw : Region.wanted o (yielded ops a.tmps) = true) (x y : Operand) (ho : o.op = .index 35 x y) (q : Ld) (k : Nat) (hk : k < 54) (hx : a.eval x = .agg q.cs.toArray) (hy : a.eval y = .int .i64 (k : Int)) (v : Int) (hv : ((q.l.getD k 0).toNat : Int) = v)
    (h : wpList Try.prog ops Q rest (a.put o.dst (.int .u8 v)) w) : wpList Try.prog ops Q (o :: rest) a w := by
  refine op_val hw _ _ ?_ h
  rw [← hv]
  simp only [execOp, ho, hx, hy, Sem.run_bind, run_idxL q k hk]; rfl
/-- One patch, as a slice of its own. -/
theorem ps_one {w : World} {E : Nat → Prop} (t : Pe) (hw : t.p.wfp) (hm : PtM w E t.p t.d t.n) (hE : ∀ x, E x → x < w.heap.size) : Ps (w.alloc (.cells t.cs.toArray 27)) (fun x => x < (w.alloc (.cells t.cs.toArray 27)).heap.size) ⟨some ⟨w.heap.size, 0, none⟩, 1, 1⟩ [t] := by
  refine ⟨rfl, Nat.le_refl _, by show 1 ≤ maxLen; unfold maxLen; omega, (fun e => by cases e), fun hn => ⟨w.heap.size, 0, rfl, by simp, fun i u hu => ?_⟩, fun u hu => ?_, fun u hu => ?_⟩
  · have hi := (List.getElem?_eq_some_iff.1 hu).1
    obtain rfl : i = 0 := by simpa using hi
    injection hu with hu; subst hu
    exact (Cs.made w t.cs _ t.cs_one).range
  · rw [List.mem_singleton] at hu; subst hu; exact hw
  · rw [List.mem_singleton] at hu; subst hu
    exact (hm.later ((Below.refl _ _).alloc (Nat.le_refl _) _)).mono fun x hx => by have := hE x hx; simp; omega
theorem bs_seven {w : World} {g : Nat} (h : Cs w g [.int .u8 7]) : BsS w ⟨some ⟨g, 0, none⟩, 1, 1⟩ [7] := by
  refine ⟨rfl, Nat.le_refl _, by show 1 ≤ maxLen; unfold maxLen; omega, (fun e => by cases e), (fun x hx => by rw [List.mem_singleton] at hx; subst hx; omega), fun hn => ⟨g, 0, rfl, fun i hi => ?_⟩⟩
  obtain rfl : i = 0 := by simp at hi; omega
  exact h.cell 0 _ rfl
theorem ex_wf {p : Pt} (h : p = ex0 ∨ p = ex4) : p.wfp := by
  rcases h with rfl | rfl <;> exact ⟨rfl, rfl, rfl, rfl, rfl, rfl⟩
set_option maxRecDepth 100000 in
set_option maxHeartbeats 400000 in
theorem works15_any (w : World) : Calls Try.prog 15 #[] w fun e w' => e = .returned (.bool true) ∧ Below w.heap.size w w' := by
  obtain ⟨x1, x2⟩ := ex0_is
  obtain ⟨y1, y2, y3⟩ := ex4_is
  have hlB := (lyB Blk.zero ex0 1).len
  have hlC := (nwB Blk.zero [ex4]).len
  have HL : ∀ u g, Cs u g [.int .u8 7] → Calls Try.prog 9 #[.agg Blk.zero.cs.toArray, .agg #[.int .i64 0, .int .i64 0, .int .i64 3, .slice (some ⟨g, 0, none⟩) 1 1, .int .i64 0, .slice none 0 0, .int .i64 0, .int .i64 0, .bool false], .int .u32 1] u fun e w' => e = .returned (.tuple #[.agg (lyB Blk.zero ex0 1).cs.toArray, .int .i64 (lyE ex0)]) ∧ Below u.heap.size u w' :=
    fun u g h => rlay_any Blk.zero ex0 ⟨some ⟨g, 0, none⟩, 1, 1⟩ Sv.nil 1 (ex_wf (.inl rfl)) (bs_seven h) (by omega)
  have HN : ∀ (u : World) (n : Nat), (u.alloc (.cells #[.int .u8 7] 5)).heap.size = n → Calls Try.prog 17 #[.agg Blk.zero.cs.toArray, .slice (some ⟨n, 0, none⟩) 1 1] ((u.alloc (.cells #[.int .u8 7] 5)).alloc (.cells #[.int .i64 0, .int .i64 0, .int .i64 3, .slice (some ⟨u.heap.size, 0, none⟩) 1 1, .int .i64 4, .slice none 0 0, .int .i64 0, .int .i64 0, .bool false] 27)) fun e w' => e = .returned (.tuple #[.agg (nwB Blk.zero [ex4]).cs.toArray, .int .i64 (nwE [ex4])]) ∧ Below u.heap.size u w' := by
    intro u n hn
    subst hn
    have h := Cs.made u [.int .u8 7] 5 (by simp [Value.oneCell'])
    have b0 : Below u.heap.size u (u.alloc (.cells #[.int .u8 7] 5)) := (Below.refl _ u).alloc (Nat.le_refl _) _
    have b1 : Below _ _ ((u.alloc (.cells #[.int .u8 7] 5)).alloc (.cells (⟨ex4, ⟨some ⟨u.heap.size, 0, none⟩, 1, 1⟩, Sv.nil⟩ : Pe).cs.toArray 27)) := (Below.refl _ (u.alloc (.cells #[.int .u8 7] 5))).alloc (Nat.le_refl _) _
    refine Calls.mono (now_any (ps_one (w := u.alloc (.cells #[.int .u8 7] 5)) (E := fun x => x < (u.alloc (.cells #[.int .u8 7] 5)).heap.size) ⟨ex4, ⟨some ⟨u.heap.size, 0, none⟩, 1, 1⟩, Sv.nil⟩ (ex_wf (.inr rfl)) ⟨bs_seven h, InsS.nil _, (fun ad e hn => by injection e with e; subst e; exact h.lt), InE.nil _⟩ (fun x hx => hx)) Blk.zero (fun x hx => hx)) ?_
    rintro e w' ⟨rfl, b2⟩
    exact ⟨rfl, bnext (bnext b0 b1 (Nat.le_refl _)) b2 (Nat.le_refl _)⟩
  have HLo := rload_any (nwB Blk.zero [ex4]) 4
  have HT := rturn_any (nwB Blk.zero [ex4])
  rw [x2] at HL
  rw [y1] at HN
  rw [y3] at HT
  have q1 := hlB
  generalize lyB Blk.zero ex0 1 = B at *
  generalize nwB Blk.zero [ex4] = C at *
  generalize gP 4 C = P at *
  clear x2 y1 y3
  have t1 : True := trivial
  have t2 : True := trivial
  have t3 : True := trivial
  have t4 : True := trivial
  have t5 : True := trivial
  go_enter Try.func15, Try.ntmps15
  go_wp2_with (first
    | (refine at_bldB (by rfl) (by rfl) ?_)
    | (go_at_call 9; refine (HL _ _ (Cs.made w [.int .u8 7] _ (by simp [Value.oneCell']))).mono ?_; rintro e w1 ⟨rfl, b1⟩
       have B1 := bnext ((Below.refl _ w).alloc (Nat.le_refl _) _) b1 (Nat.le_refl _)
       clear HL b1)
    | (clear t1; refine at_new 23 64 arrB (by rfl) (by rfl) ?_; intro g2 w2 a2 z2 r2 b2)
    | (clear t2; refine at_put 23 64 arrB (by rfl) _ _ (by rfl) g2 (by rfl) B.l (by rfl) hlB _ r2 (by simp) ?_; intro w3 r3 s3
       have S3 : Stp (fun x => w.heap.size ≤ x) w w3 := (Stp.of_below (bnext B1 b2 (Nat.le_refl _)) _).next s3 (fun x hx => .inl (by subst hx; have := B1.size; omega))
       have B3 := S3.below (Nat.le_refl _) (fun _ h => h)
       clear r2 b2 s3 S3 B1 a2 z2)
    | (go_at_call 17; refine (HN w3 _ (by simp)).mono ?_; rintro e w5 ⟨rfl, b5⟩; clear HN)
    | (clear t3; refine at_new 23 64 arrB (by rfl) (by rfl) ?_; intro g6 w6 a6 z6 r6 b6)
    | (clear t4; refine at_put 23 64 arrB (by rfl) _ _ (by rfl) g6 (by rfl) C.l (by rfl) hlC _ r6 (by simp) ?_; intro w7 r7 s7
       have B56 := bnext b5 b6 (Nat.le_refl _)
       have S7 : Stp (fun x => w3.heap.size ≤ x) w3 w7 := (Stp.of_below B56 _).next s7 (fun x hx => .inl (by subst hx; have := b5.size; omega))
       have B7 := bnext B3 (S7.below (Nat.le_refl _) (fun _ h => h)) (Nat.le_refl _)
       have rB := r3.later (S7.below (Nat.le_refl _) (fun _ h => h))
       have cB : w7.cell? ⟨g2, 3, none⟩ = some (.int .u8 7) := by
         have := rB.cell 3 (by omega)
         rw [this, x1]; rfl
       clear r6 b6 s7 S7 b5 B56 B3 r3 a6 z6)
    | (have _t := t5; refine at_get 23 64 arrB (by rfl) _ (by rfl) g6 (by rfl) _ r7 hlC ?_; clear _t t5)
    | (go_at_call 13; refine (HLo _).mono ?_; rintro e w8 ⟨rfl, b8⟩; have r8 := r7.later b8)
    | (refine at_idxL (by rfl) _ _ (by rfl) P 3 (by omega) (by rfl) (by rfl) 7 (by rw [y2]; rfl) ?_)
    | (refine at_get 23 64 arrB (by rfl) _ (by rfl) g6 (by rfl) _ r8 hlC ?_)
    | (go_at_call 11; refine (HT _).mono ?_; rintro e w9 ⟨rfl, b9⟩))
  go_returns
  exact ⟨rfl, bnext (bnext B7 b8 (Nat.le_refl _)) b9 (Nat.le_refl _)⟩
end Go.Proofs.Yteceapdkgidenaa
