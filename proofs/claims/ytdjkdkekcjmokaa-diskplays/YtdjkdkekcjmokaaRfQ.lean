/-
  What an act leaves that writes: no statement is proved here.
-/
import Derived.Test.YtdjkdkekcjmokaaRfP
namespace Go.Proofs.Ytdjkdkekcjmokaa
open Go.ChangeShapes Go.WideShapes Go.ChangeAt Go.RowKit
set_option linter.unusedVariables false

set_option maxRecDepth 100000 in
set_option maxHeartbeats 1000000 in
theorem do_write {w : World} {g pg y q k : Nat} {S : DS} {p : PS} {F R : Nat → Prop} (h : Bth w g pg y q S p F R k) (hk : k ≤ 100) (x : AC) (m : Nat) (hm : m < 5) (hc : among x.d 11 = m) :
    Calls Try.prog 8 #[.pointer (some ⟨g, 0, none⟩), .pointer (some ⟨y, 0, none⟩), .pointer (some ⟨pg, 0, none⟩), .pointer (some ⟨q, 0, none⟩), .agg x.cs.toArray] w fun e w' => e = .returned (.bool true) ∧ Done w w' g pg y q k F R := by
  have sA : Stp (fun _ => False) w (w.alloc (.cells x.cs.toArray 39)) := Stp.of_alloc _ _ _
  have hA := h.step sA (fun _ _ => id)
  have hr : (w.alloc (.cells x.cs.toArray 39)).rangeAt w.heap.size 0 x.cs := made_range w _ _
  have c1 := AC.c1 hr
  have c2 := AC.c2 hr
  have c3 := AC.c3 hr
  have hlt := h.lt
  have hz := sA.size
  have s36 := size36 x.b
  have u36' := u36
  have one := x.b.cs_one
  have len := x.b.cs_len
  have n5 : ¬ ((m : Int) = 5) := by omega
  have n6 : ¬ ((m : Int) = 6) := by omega
  have n7 : ¬ ((m : Int) = 7) := by omega
  have n8 : ¬ ((m : Int) = 8) := by omega
  have n9 : ¬ ((m : Int) = 9) := by omega
  have n10 : ¬ ((m : Int) = 10) := by omega
  clear h hr
  go_enter Try.func8, Try.ntmps8
  go_wp2_with (first
    | (go_at_call 17; refine (among_any x.d 11 _ (by decide) (by decide)).mono ?_; rintro e u ⟨rfl, rfl⟩; rw [hc]))
  generalize w.alloc (.cells x.cs.toArray 39) = wr at *
  have hS : ∀ w', Stp (Foot pg q F R) wr w' → (Stp (Foot pg q F R) wr w' ∧ w'.cell? ⟨w.heap.size, 1, none⟩ = some (.int .i64 x.t) ∧ w'.rangeAt w.heap.size 2 x.b.cs) := fun w' h => ⟨h, h.cell c2 (fun e => by have := hlt _ e; simp at this), h.range c3 (fun e => by have := hlt _ e; simp at this)⟩
  have hd := hA.step (Stp.refl (fun _ => False) wr).drew (fun _ _ => id)
  have hFo := write_any hd.d (oOk_of hd.ok hk) x.t x.b (by have := hd.wt x.t; omega)
  rw [useP_some] at hFo
  refine wp_region_held_drew (S := fun w' => Stp (Foot pg q F R) wr w' ∧ w'.cell? ⟨w.heap.size, 1, none⟩ = some (.int .i64 x.t) ∧ w'.rangeAt w.heap.size 2 x.b.cs) (by kernel_rfl) (hS _ (Stp.refl _ _).drew) (fun hHeld => ?_)
  refine wpAnyH_take (i := 0) (oi := { dst := some 111, op := Op.move (Operand.tmp 0), type := 27, pos := _, after := #[], guard := none }) (v := .pointer (some ⟨g, 0, none⟩)) rfl (by kernel_rfl) (by kernel_rfl) (by kernel_rfl) (fun _ _ _ h => h) (Or.inl ⟨by rfl, ?_⟩) hHeld ?_
  · intro v hv
    obtain ⟨_, hv1, hv2⟩ := hv
    go_simp
  try simp only [Act.put, List.setIfInBounds_toArray, List.set_cons_zero, List.set_cons_succ]
  refine wpAnyH_take (i := 1) (oi := { dst := some 112, op := Op.fieldAddr 39 (Operand.tmp 9) 1, type := 0, pos := _, after := #[], guard := none }) (v := .pointer (some ⟨w.heap.size, 1, none⟩)) rfl (by kernel_rfl) (by kernel_rfl) (by kernel_rfl) (fun _ _ _ h => h) (Or.inl ⟨by rfl, ?_⟩) hHeld ?_
  · intro v hv
    obtain ⟨_, hv1, hv2⟩ := hv
    go_simp
  try simp only [Act.put, List.setIfInBounds_toArray, List.set_cons_zero, List.set_cons_succ]
  refine wpAnyH_take (i := 2) (oi := { dst := some 113, op := Op.load 3 (Operand.tmp 112), type := 3, pos := _, after := #[{ on := 1, ground := Ground.data }], guard := none }) (v := .int .i64 x.t) rfl (by kernel_rfl) (by kernel_rfl) (by kernel_rfl) (fun _ _ _ h => h) (Or.inl ⟨by rfl, ?_⟩) hHeld ?_
  · intro v hv
    obtain ⟨_, hv1, hv2⟩ := hv
    go_simp
  try simp only [Act.put, List.setIfInBounds_toArray, List.set_cons_zero, List.set_cons_succ]
  refine wpAnyH_take (i := 3) (oi := { dst := some 114, op := Op.fieldAddr 39 (Operand.tmp 9) 2, type := 0, pos := _, after := #[], guard := none }) (v := .pointer (some ⟨w.heap.size, 2, none⟩)) rfl (by kernel_rfl) (by kernel_rfl) (by kernel_rfl) (fun _ _ _ h => h) (Or.inl ⟨by rfl, ?_⟩) hHeld ?_
  · intro v hv
    obtain ⟨_, hv1, hv2⟩ := hv
    go_simp
  try simp only [Act.put, List.setIfInBounds_toArray, List.set_cons_zero, List.set_cons_succ]
  refine wpAnyH_take (i := 4) (oi := { dst := some 115, op := Op.load 36 (Operand.tmp 114), type := 36, pos := _, after := #[{ on := 3, ground := Ground.data }], guard := none }) (v := .agg x.b.cs.toArray) rfl (by kernel_rfl) (by kernel_rfl) (by kernel_rfl) (fun _ _ _ h => h)
    (yieldsIf_load_mid (by rfl) 36 (.tmp 114) rfl w.heap.size 2 rfl x.b.cs _ (fun v hv => hv.2.2) u36 rfl (size36 x.b)) hHeld ?_
  try simp only [Act.put, List.setIfInBounds_toArray, List.set_cons_zero, List.set_cons_succ]
  refine wpAnyH_take (i := 6) (oi := { dst := some 117, op := Op.move (Operand.tmp 1), type := 31, pos := _, after := #[], guard := none }) (v := .pointer (some ⟨y, 0, none⟩)) rfl (by kernel_rfl) (by kernel_rfl) (by kernel_rfl) (fun _ _ _ h => h) (Or.inl ⟨by rfl, ?_⟩) hHeld ?_
  · intro v hv
    obtain ⟨_, hv1, hv2⟩ := hv
    go_simp
  try simp only [Act.put, List.setIfInBounds_toArray, List.set_cons_zero, List.set_cons_succ]
  refine wpAnyH_take (i := 7) (oi := { dst := some 118, op := Op.fieldAddr 39 (Operand.tmp 9) 1, type := 0, pos := _, after := #[], guard := none }) (v := .pointer (some ⟨w.heap.size, 1, none⟩)) rfl (by kernel_rfl) (by kernel_rfl) (by kernel_rfl) (fun _ _ _ h => h) (Or.inl ⟨by rfl, ?_⟩) hHeld ?_
  · intro v hv
    obtain ⟨_, hv1, hv2⟩ := hv
    go_simp
  try simp only [Act.put, List.setIfInBounds_toArray, List.set_cons_zero, List.set_cons_succ]
  refine wpAnyH_take (i := 8) (oi := { dst := some 119, op := Op.load 3 (Operand.tmp 118), type := 3, pos := _, after := #[{ on := 7, ground := Ground.data }], guard := none }) (v := .int .i64 x.t) rfl (by kernel_rfl) (by kernel_rfl) (by kernel_rfl) (fun _ _ _ h => h) (Or.inl ⟨by rfl, ?_⟩) hHeld ?_
  · intro v hv
    obtain ⟨_, hv1, hv2⟩ := hv
    go_simp
  try simp only [Act.put, List.setIfInBounds_toArray, List.set_cons_zero, List.set_cons_succ]
  refine wpAnyH_take (i := 9) (oi := { dst := some 120, op := Op.fieldAddr 39 (Operand.tmp 9) 2, type := 0, pos := _, after := #[], guard := none }) (v := .pointer (some ⟨w.heap.size, 2, none⟩)) rfl (by kernel_rfl) (by kernel_rfl) (by kernel_rfl) (fun _ _ _ h => h) (Or.inl ⟨by rfl, ?_⟩) hHeld ?_
  · intro v hv
    obtain ⟨_, hv1, hv2⟩ := hv
    go_simp
  try simp only [Act.put, List.setIfInBounds_toArray, List.set_cons_zero, List.set_cons_succ]
  refine wpAnyH_take (i := 10) (oi := { dst := some 121, op := Op.load 36 (Operand.tmp 120), type := 36, pos := _, after := #[{ on := 9, ground := Ground.data }], guard := none }) (v := .agg x.b.cs.toArray) rfl (by kernel_rfl) (by kernel_rfl) (by kernel_rfl) (fun _ _ _ h => h)
    (yieldsIf_load_mid (by rfl) 36 (.tmp 120) rfl w.heap.size 2 rfl x.b.cs _ (fun v hv => hv.2.2) u36 rfl (size36 x.b)) hHeld ?_
  try simp only [Act.put, List.setIfInBounds_toArray, List.set_cons_zero, List.set_cons_succ]
  refine wpAnyH_ready (rs := [5]) (by kernel_rfl) (by simp) ?_
  refine AllReadyH.cons (o := { dst := some 116, op := Op.call { callee := Callee.value (Operand.func 31), args := #[Operand.tmp 111, Operand.tmp 113, Operand.tmp 115], argTypes := #[27, 3, 36] }, type := 28, pos := _, after := #[{ on := 0, ground := Ground.data }, { on := 2, ground := Ground.data }, { on := 4, ground := Ground.data }], guard := none }) rfl (fun K hK => ?_) AllReadyH.nil
  go_simp
  refine hFo.mono ?_
  rintro e w1 ⟨rfl, F1, d1, k1, g1⟩
  try go_wp2_with fail
  refine hK.out _ _ (hS _ (Stp.next (Stp.refl _ wr).drew k1 (fun x hx => .inl (hx.elim .inl (fun e => .inr (.inr (.inl e))))))) (fun hHeld => ?_)
  clear hK K
  try simp only [Act.put, List.setIfInBounds_toArray, List.set_cons_zero, List.set_cons_succ]
  refine wpAnyH_ready (rs := [11]) (by kernel_rfl) (by simp) ?_
  refine AllReadyH.cons (o := { dst := some 122, op := Op.call { callee := Callee.value (Operand.func 32), args := #[Operand.tmp 117, Operand.tmp 119, Operand.tmp 121], argTypes := #[31, 3, 36] }, type := 28, pos := _, after := #[{ on := 6, ground := Ground.data }, { on := 8, ground := Ground.data }, { on := 10, ground := Ground.data }, { on := 5, ground := Ground.chain }], guard := none }) rfl (fun K hK => ?_) AllReadyH.nil
  go_simp
  refine (rwrite_any (hd.mid k1).1 (hd.mid k1).2 hd.rq (hd.ok.rok hk) x.t x.b (by have := hd.wt x.t; omega)).mono ?_
  rintro e w2 ⟨rfl, R1, r2, s2, k2, g2⟩
  rw [res_same hd.ok]
  try go_wp2_with fail
  refine hK.out _ _ (hS _ (Stp.next (Stp.next (Stp.refl _ wr).drew k1 (fun x hx => .inl (hx.elim .inl (fun e => .inr (.inr (.inl e)))))) k2 (fun x hx => .inl (hx.elim (fun e => .inr (.inl e)) (fun e => .inr (.inr (.inr e))))))) (fun hHeld => ?_)
  clear hK K
  try simp only [Act.put, List.setIfInBounds_toArray, List.set_cons_zero, List.set_cons_succ]
  refine wpAnyH_take (i := 12) (oi := { dst := some 123, op := Op.binOp BinOp.eql 28 (Operand.tmp 116) (Operand.tmp 122) 28, type := 4, pos := _, after := #[{ on := 5, ground := Ground.data }, { on := 11, ground := Ground.data }], guard := none }) (v := .bool true) rfl (by kernel_rfl) (by kernel_rfl) (by kernel_rfl) (fun _ _ _ h => h) (Or.inl ⟨by rfl, ?_⟩) hHeld ?_
  · intro v hv
    obtain ⟨_, hv1, hv2⟩ := hv
    go_simp
  try simp only [Act.put, List.setIfInBounds_toArray, List.set_cons_zero, List.set_cons_succ]
  refine wpAnyH_take (i := 13) (oi := { dst := some 10, op := Op.assign (Operand.tmp 123), type := 4, pos := _, after := #[{ on := 12, ground := Ground.data }, { on := 11, ground := Ground.chain }, { on := 0, ground := Ground.phase }, { on := 1, ground := Ground.phase }, { on := 2, ground := Ground.phase }, { on := 3, ground := Ground.phase }, { on := 4, ground := Ground.phase }, { on := 5, ground := Ground.phase }, { on := 6, ground := Ground.phase }, { on := 7, ground := Ground.phase }, { on := 8, ground := Ground.phase }, { on := 9, ground := Ground.phase }, { on := 10, ground := Ground.phase }, { on := 11, ground := Ground.phase }, { on := 12, ground := Ground.phase }], guard := none }) (v := .bool true) rfl (by kernel_rfl) (by kernel_rfl) (by kernel_rfl) (fun _ _ _ h => h) (Or.inl ⟨by rfl, ?_⟩) hHeld ?_
  · intro v hv
    obtain ⟨_, hv1, hv2⟩ := hv
    go_simp
  try simp only [Act.put, List.setIfInBounds_toArray, List.set_cons_zero, List.set_cons_succ]
  refine wpAnyH_done (by kernel_rfl) ?_ _
  rw [write_same hd.ok] at r2
  rw [use_same hd.ok] at s2
  have D : Done w w2 g pg y q k F R := Done.before ⟨_, _, _, _, hd.both d1 k1 g1 r2 s2 k2 g2 (ok_useP1 hd.ok _ _) (wt_write hd.wt _ _ _)⟩ (sA.drew)
  go_wp2_with fail
  go_returns
  exact ⟨rfl, D⟩
end Go.Proofs.Ytdjkdkekcjmokaa
