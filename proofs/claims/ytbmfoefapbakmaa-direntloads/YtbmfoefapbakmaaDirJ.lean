/-
  Slices of entries in memory; what All, Find and Room of layer 12, and the document's, return, for every load: no statement is proved here.
-/
import Derived.Test.YtbmfoefapbakmaaDirI
import Derived.Great.BuildSlice
namespace Go.Proofs.Ytbmfoefapbakmaa
open Go.ChangeShapes Go.WideShapes Go.ChangeAt Go.RowKit
set_option linter.unusedVariables false

def flatE (l : List Ent) : List Value := l.flatMap Ent.cs
theorem ecs_len (x : Ent) : x.cs.length = 2 := rfl
theorem flatE_len (l : List Ent) : (flatE l).length = l.length * 2 := by
  unfold flatE
  induction l with
  | nil => rfl
  | cons a r ih => rw [List.flatMap_cons, List.length_append, ih, ecs_len, List.length_cons]; omega
theorem flatE_get : ∀ (l : List Ent) (i j : Nat), i < l.length → j < 2 → (flatE l)[i * 2 + j]? = (l.getD i Ent.zero).cs[j]?
  | [], i, j, h, _ => by simp at h
  | a :: r, 0, j, _, hj => by
    unfold flatE; rw [List.flatMap_cons, List.getElem?_append_left (by rw [ecs_len]; omega)]; simp
  | a :: r, i + 1, j, h, hj => by
    have := flatE_get r i j (by simpa using h) hj
    unfold flatE at *
    rw [List.flatMap_cons, List.getElem?_append_right (by rw [ecs_len]; omega), ecs_len, show (i + 1) * 2 + j - 2 = i * 2 + j by omega, this]; simp
theorem flatE_snoc (l : List Ent) (x : Ent) : flatE (l ++ [x]) = flatE l ++ x.cs := by unfold flatE; simp
theorem infoE : (Try.prog.info? 23).map (fun i => (i.zero, i.size, i.bytes)) = some (some (.agg Ent.zero.cs.toArray), 2, 24) := by kernel_rfl
theorem uEs : Try.prog.underlying 45 = some (.slice 23) := by kernel_rfl
theorem bsliceE (n : Int) (s : List UInt8) (w : World) : (Instr.buildSlice 45 1 #[(0, .agg (Ent.mk n s).cs.toArray)]).run Try.prog w = .ok (.slice (some ⟨w.heap.size, 0, none⟩) 1 1) (w.alloc (.cells (Ent.mk n s).cs.toArray 23)) := by kernel_rfl
theorem bsliceE' (x : Ent) (w : World) : (Instr.buildSlice 45 1 #[(0, .agg x.cs.toArray)]).run Try.prog w = .ok (.slice (some ⟨w.heap.size, 0, none⟩) 1 1) (w.alloc (.cells x.cs.toArray 23)) := bsliceE x.n x.s w
/-- The slice is a call's own, and holds these entries (it may be nil where there are none). -/
def OwE (B : Nat) (w : World) (v : Value) (l : List Ent) : Prop := w.ownsRow B 23 2 v l.length (flatE l)
section
variable {B : Nat} {w w' : World} {v : Value} {l : List Ent} {F : Nat → Prop}
theorem OwE.later (h : OwE B w v l) (k : Below w.heap.size w w') : OwE B w' v l := by
  refine ⟨h.1, ?_⟩
  rcases h.2 with h2 | ⟨g', c', cur, e1, e2, e3, e4⟩
  · exact .inl h2
  · exact .inr ⟨g', c', cur, e1, e2, by rw [k.block g' (Array.getElem?_eq_some_iff.1 e3).1]; exact e3, e4⟩
theorem OwE.made (w : World) (hB : B ≤ w.heap.size) : OwE B (w.alloc (.cells #[] 23)) (.slice (some ⟨w.heap.size, 0, none⟩) 0 0) [] := World.ownsRow_made w #[] 0 hB (Nat.zero_le _) rfl
theorem OwE.none (w : World) : OwE B w (.slice none 0 0) [] := ⟨rfl, .inl ⟨rfl, rfl⟩⟩
theorem OwE.own (h : OwE B w v l) (x : Nat) (hx : v.ownBlock = some x) : B ≤ x := by
  rcases h.2 with ⟨e, _⟩ | ⟨g', c', cur, e1, e2, e3, e4⟩
  · subst e; cases hx
  · subst e1
    have e' : some g' = some x := hx
    injection e' with e'; subst e'; exact e2
end
/-- A slice of entries that reads as the list L. -/
def EsV (w : World) (v : Value) (L : List Ent) : Prop := ∃ a c, v = .slice a L.length c ∧ L.length ≤ c ∧ c ≤ maxLen ∧ (0 < L.length → ∃ g, a = some ⟨g, 0, none⟩ ∧ ∀ j, j < L.length → w.rangeAt g (j * 2) (L.getD j Ent.zero).cs)
theorem EsV.later {w w' : World} {v : Value} {L : List Ent} (h : EsV w v L) (k : Below w.heap.size w w') : EsV w' v L := by
  obtain ⟨a, c, e, h1, h2, h3⟩ := h
  refine ⟨a, c, e, h1, h2, fun h0 => ?_⟩
  obtain ⟨g, e2, h4⟩ := h3 h0
  exact ⟨g, e2, fun j hj => (Stp.of_below k (fun _ => False)).range (h4 j hj) id⟩
theorem OwE.read {B : Nat} {w : World} {v : Value} {L : List Ent} (h : OwE B w v L) : EsV w v L := by
  have hh := h
  rcases h.2 with ⟨e, e0⟩ | ⟨g', c', cur, e1, e2, e3, e4, e5, e6, e7⟩
  · rw [e]
    refine ⟨.none, 0, by rw [e0], by omega, Nat.zero_le _, fun h => absurd h (by omega)⟩
  · refine ⟨_, c', e1, e4, e5, fun _ => ⟨g', rfl, fun j hj i u hu => ?_⟩⟩
    have hi : i < 2 := by have := (List.getElem?_eq_some_iff.1 hu).1; rw [ecs_len] at this; exact this
    rw [cell_of_row w g' (j * 2 + i) _ _ (0, 0) e3, ← Array.getElem?_toList]
    have hx : (flatE L)[j * 2 + i]? = some u := by rw [flatE_get L j i hj hi]; exact hu
    rw [← e7, List.getElem?_take, if_pos (by omega)] at hx
    exact hx
section
variable {ops : Array Oper} {rest : List Oper} {o : Oper} {a : Act} {w : World} {Q : Exit → Act → World → Prop}
theorem at_bsE (hw : Region.wanted o (yielded ops a.tmps) = true) (x : Operand) (ho : o.op = .buildSlice 45 1 #[(0, x)]) (y : Ent) (hx : a.eval x = .agg y.cs.toArray)
    (h : ∀ g w', w.heap.size ≤ g → Cs w' g y.cs → Below w.heap.size w w' → wpList Try.prog ops Q rest (a.put o.dst (.slice (some ⟨g, 0, none⟩) 1 1)) w') : wpList Try.prog ops Q (o :: rest) a w := by
  refine op_val hw _ _ ?_ (h w.heap.size _ (Nat.le_refl _) (Cs.made w y.cs 23 y.cs_one) ((Below.refl _ _).alloc (Nat.le_refl _) _))
  simp [execOp, ho, hx, bsliceE']
theorem at_bs0E {B : Nat} (hw : Region.wanted o (yielded ops a.tmps) = true) (ho : o.op = .buildSlice 45 0 #[]) (hB : B ≤ w.heap.size)
    (h : ∀ g w', OwE B w' (.slice (some ⟨g, 0, none⟩) 0 0) [] → Below w.heap.size w w' → wpList Try.prog ops Q rest (a.put o.dst (.slice (some ⟨g, 0, none⟩) 0 0)) w') : wpList Try.prog ops Q (o :: rest) a w := by
  refine op_val hw _ _ ?_ (h w.heap.size _ (OwE.made w hB) ((Below.refl _ _).alloc (Nat.le_refl _) _))
  have : (Instr.buildSlice 45 0 #[]).run Try.prog w = .ok (.slice (some ⟨w.heap.size, 0, none⟩) 0 0) (w.alloc (.cells #[] 23)) := by kernel_rfl
  simp [execOp, ho, this]
theorem at_appE {B : Nat} {v : Value} {l : List Ent} (hgd : o.guard = none) (s x : Operand)
    (ho : o.op = .call { callee := .builtin .append, args := #[s, x], argTypes := #[45, 45] }) (hs : a.eval s = v) (h0 : OwE B w v l)
    (g2 : Nat) (y : Ent) (hx : a.eval x = .slice (some ⟨g2, 0, none⟩) 1 1) (hr : Cs w g2 y.cs) (hbig : l.length ≤ 100) (hB : B ≤ w.heap.size)
    (h : ∀ v' w', OwE B w' v' (l ++ [y]) → Stp (fun x => B ≤ x) w w' → wpList Try.prog ops Q rest (a.put o.dst v') w') : wpList Try.prog ops Q (o :: rest) a w := by
  obtain ⟨i0, hi, hz0, hz1, hz2⟩ := info_parts infoE
  refine wpList_append_own_at w hgd s x 45 ho B 23 i0 _ 2 24 uEs hi hz0 hz1 hz2 rfl (by decide) _ l.length (flatE l) hs h0 ⟨g2, 0, none⟩ 1 1 y.cs hx rfl (fun j u hj => by rw [Addr.add_mid]; exact hr.range j u hj) y.cs_one (by unfold maxLen; omega) (by omega) hB ?_
  intro v' w' h1 h2 h3 h4
  have hle : (l ++ [y]).length = l.length + 1 := by simp
  refine h v' w' ?_ (Stp.of_grown h2 (fun x e => .inl (h0.own x e)))
  unfold OwE; rw [hle, flatE_snoc]; exact h1
end
theorem alls_succ (p : Ld) (k : Nat) : alls p (k + 1) = alls p k ++ (if tI (dslot p k) = 1 then [tE (dslot p k)] else []) := rfl
set_option maxRecDepth 100000 in
set_option maxHeartbeats 1000000 in
theorem dall_any (p : Ld) (w : World) : Calls Try.prog 21 #[.agg p.cs.toArray] w fun e w' => ∃ v, e = .returned v ∧ EsV w' v (alls p 4) ∧ Below w.heap.size w w' := by
  have hp := p.len
  go_enter Try.func21, Try.ntmps21
  go_wp2_with (first
    | (refine at_box 36 54 arrL (by rfl) _ (by rfl) p.l (by rfl) hp ?_; intro g1 W a1 z1 r1 b1))
  go_loopw [3, 7] (fun sv iv wr => ∃ k : Nat, k ≤ 4 ∧ iv = .int .i64 k ∧ OwE W.heap.size wr sv (alls p k) ∧ Below W.heap.size W wr) (fun _ iv _ => 4 - (intOf iv).toNat)
  case atStart => exact ⟨0, by omega, rfl, OwE.none _, Below.refl _ _⟩
  case round =>
    rename_i sv iv
    obtain ⟨k, hk, rfl, hO, hB⟩ := hrel
    by_cases hlt : k < 4
    · have hlt' : (k : Int) < 4 := by omega
      have y2 := r1.later hB
      have hS := alls_succ p k
      have hle := alls_le p k
      have H2 := fun w => bytesOf_at p k w (by omega)
      have H3 := fun w => tell_any (dslot p k) w (dslot_len p k (by omega))
      generalize tE (dslot p k) = X at *
      generalize tI (dslot p k) = I at *
      generalize dslot p k = D at *
      have hS' : Hid (alls p (k + 1) = alls p k ++ (if I = 1 then [X] else [])) := hS
      clear hS
      by_cases h1 : I = 1
      · have e1 : Hid (alls p (k + 1) = alls p k ++ [X]) := by have := hS'.out; rwa [if_pos h1] at this
        subst h1
        clear hS'
        go_wp2_with (first
          | (refine at_getL (by rfl) _ (by rfl) g1 (by rfl) p y2 ?_)
          | (go_at_call 34; refine (H2 _).mono ?_; rintro e w3 ⟨rfl, b3⟩)
          | (go_at_call 33; refine (H3 _).mono ?_; rintro e w4 ⟨rfl, b4⟩)
          | (refine at_newE (by rfl) (by rfl) ?_; intro gx w5 a5 z5 r5 b5)
          | (refine at_putE (by rfl) _ _ (by rfl) gx (by rfl) X (by rfl) Ent.zero r5 ?_; intro w6 x6 s6
             have c5 := bnext (bnext b3 b4 (Nat.le_refl _)) b5 (Nat.le_refl _)
             have S6 : Stp (fun y => wr.heap.size ≤ y) wr w6 := (Stp.of_below c5 _).next s6 (fun y hy => .inl (by subst hy; have := b3.size; have := b4.size; omega))
             have c6 := S6.below (Nat.le_refl _) (fun _ h => h)
             have o6 := hO.later c6
             have B6 := bnext hB c6 (Nat.le_refl _)
             clear S6 c5 b3 b4 b5 r5 a5 z5 s6 hO hB y2)
          | (refine at_getE (by rfl) _ (by rfl) gx (by rfl) X x6 ?_)
          | (refine at_bsE (by rfl) _ (by rfl) X (by rfl) ?_; intro g7 w7 a7 r7 b7; have o7 := o6.later b7; have B7 := bnext B6 b7 (Nat.le_refl _))
          | (refine at_appE rfl _ _ (by rfl) (by rfl) o7 g7 X (by rfl) r7 (by omega) B7.size ?_; intro v8 w8 o8 s8))
        rw [← e1.out] at o8
        go_roundw
        case rel => exact ⟨k + 1, by omega, by go_num, o8, ((Stp.of_below B7 (fun x => W.heap.size ≤ x)).next s8 (fun _ h => .inl h)).below (Nat.le_refl _) (fun _ h => h)⟩
        case measure => simp [intOf]; omega
      · have e1 : Hid (alls p (k + 1) = alls p k) := by have := hS'.out; rwa [if_neg h1, List.append_nil] at this
        clear hS'
        go_wp2_with (first
          | (refine at_getL (by rfl) _ (by rfl) g1 (by rfl) p y2 ?_)
          | (go_at_call 34; refine (H2 _).mono ?_; rintro e w3 ⟨rfl, b3⟩)
          | (go_at_call 33; refine (H3 _).mono ?_; rintro e w4 ⟨rfl, b4⟩)
          | (refine at_newE (by rfl) (by rfl) ?_; intro gx w5 a5 z5 r5 b5)
          | (refine at_putE (by rfl) _ _ (by rfl) gx (by rfl) X (by rfl) Ent.zero r5 ?_; intro w6 x6 s6
             have c5 := bnext (bnext b3 b4 (Nat.le_refl _)) b5 (Nat.le_refl _)
             have S6 : Stp (fun y => wr.heap.size ≤ y) wr w6 := (Stp.of_below c5 _).next s6 (fun y hy => .inl (by subst hy; have := b3.size; have := b4.size; omega))
             have c6 := S6.below (Nat.le_refl _) (fun _ h => h)
             have o6 := hO.later c6
             have B6 := bnext hB c6 (Nat.le_refl _)
             clear S6 c5 b3 b4 b5 r5 a5 z5 s6 hO hB y2))
        rw [← e1.out] at o6
        go_roundw
        case rel => exact ⟨k + 1, by omega, by go_num, o6, B6⟩
        case measure => simp [intOf]; omega
    · obtain rfl : k = 4 := by omega
      go_wp2
      go_returns
      exact ⟨_, rfl, hO.read, bnext b1 hB (Nat.le_refl _)⟩
end Go.Proofs.Ytbmfoefapbakmaa
