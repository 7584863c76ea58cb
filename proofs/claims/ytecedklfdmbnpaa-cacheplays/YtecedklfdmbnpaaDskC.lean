/-
  What settle of a disk of layer 4 does: no statement is proved here.
-/
import Derived.Test.YtecedklfdmbnpaaDskB
namespace Go.Proofs.Ytecedklfdmbnpaa
open Go.ChangeShapes Go.WideShapes Go.ChangeAt Go.RowKit
set_option linter.unusedVariables false

section
variable {ops : Array Oper} {rest : List Oper} {o : Oper} {a : Act} {w : World} {Q : Exit → Act → World → Prop}
theorem at_drop {t : TypeId} {b : Nat} {k : Int} {R : World → Prop} (hw : Region.wanted o (yielded ops a.tmps) = true) (x y : Operand) (ho : o.op = Op.call { callee := Callee.builtin Builtin.delete, args := #[x, y], argTypes := #[t, 3] })
    (hx : a.eval x = .map (some b)) (hy : a.eval y = .int .i64 k) (hd : ∀ ty, ∃ w', (Builtin.delete_ #[t, 3] ty #[.map (some b), .int .i64 k]).run Try.prog w = .ok (.tuple #[]) w' ∧ R w')
    (h : ∀ w', R w' → wpList Try.prog ops Q rest (a.put o.dst (.tuple #[])) w') : wpList Try.prog ops Q (o :: rest) a w := by
  obtain ⟨w', hr, hR⟩ := hd o.type
  refine wpList_val hw _ w' ?_ (h w' hR)
  simp [execOp, ho, resolve, invoke, builtin, hx, hy, hr, Result.andThen]
theorem at_range' {t : TypeId} {b : Nat} {v : Value} {R : World → Prop} (hw : Region.wanted o (yielded ops a.tmps) = true) (x : Operand) (ho : o.op = Op.range t x)
    (hx : a.eval x = .map (some b)) (hd : ∃ w', (Instr.range t (.map (some b))).run Try.prog w = .ok v w' ∧ R w')
    (h : ∀ w', R w' → wpList Try.prog ops Q rest (a.put o.dst v) w') : wpList Try.prog ops Q (o :: rest) a w := by
  obtain ⟨w', hr, hR⟩ := hd
  refine wpList_val hw _ w' ?_ (h w' hR)
  simp [execOp, ho, hx, hr, Result.andThen]
/-- A step of a range over a map. -/
theorem at_next' {b r : Nat} {f : Int → Option Value} {left : Int → Bool} {cnt : Nat} (hw : Region.wanted o (yielded ops a.tmps) = true) (x : Operand) (ho : o.op = Op.next x false)
    (hx : a.eval x = .pointer (some ⟨r, 0, none⟩)) (h : RgI Try.prog 3 w b r f left cnt)
    (h0 : (∀ k, left k = false) → wpList Try.prog ops Q rest (a.put o.dst (.tuple #[.bool false])) w)
    (h1 : ∀ k v w' cnt', (Lit.int .i64 k).wf = true → left k = true → f k = some v → RgI Try.prog 3 w' b r f (fun x => left x && !decide (x = k)) cnt' → cnt' < cnt → Stp (fun x => x = r) w w' → w'.heap.size = w.heap.size →
      (Instr.entry (.pointer (some ⟨r, 0, none⟩))).run Try.prog w' = .ok (.tuple #[.int .i64 k, v]) w' → wpList Try.prog ops Q rest (a.put o.dst (.tuple #[.bool true, .int .i64 k, v])) w') : wpList Try.prog ops Q (o :: rest) a w := by
  rcases h.next u3 o.type with ⟨hl, hr⟩ | ⟨k, v, w', cnt', hk, hl, hf, hr, hR, hc, hg, hs, he⟩
  · refine wpList_val hw _ w ?_ (h0 hl)
    simp [execOp, ho, hx, hr, Result.andThen]
  · refine wpList_val hw _ w' ?_ (h1 k v w' cnt' hk hl hf hR hc (Stp.of_grown hg (by rintro x e; injection e with e; exact .inl e.symm)) hs he)
    simp [execOp, ho, hx, hr, Result.andThen]
end

def DS.settle (S : DS) (i : Int) (b : Blk) : DS := { S with st := fun k => if k = i then b else S.st k, wt := fun k => if k = i then [] else S.wt k }
theorem DS.ok.settle {S : DS} (h : S.ok) {i : Int} (hi : S.inn i) (b : Blk) : (S.settle i b).ok :=
  ⟨h.n1, h.n2, fun k hk => by have : k ≠ i := fun e => hk (e ▸ hi); simp only [DS.settle, if_neg this]; exact h.st k hk, fun k hk => by have : k ≠ i := fun e => hk (e ▸ hi); simp only [DS.settle, if_neg this]; exact h.wt k hk⟩
theorem stF_settle0 (S : DS) (i : Int) : stF (S.settle i Blk.zero) = upd (stF S) i none := by
  funext k; unfold stF upd DS.settle; by_cases e : k = i <;> simp [e]
theorem stF_settle1 (S : DS) (i : Int) {b : Blk} (hb : b ≠ Blk.zero) : stF (S.settle i b) = upd (stF S) i (some (.agg b.cs.toArray)) := by
  funext k; unfold stF upd DS.settle; by_cases e : k = i <;> simp [e, hb]
theorem own_map_ne {w : World} {r n c b : Nat} {xs : List Value} {P : Program} {K : TypeId} {f : Int → Option Value} (h : w.ownsRow 0 42 64 (.slice (some ⟨r, 0, none⟩) n c) n xs) (hm : MpI P K w b f) : r ≠ b := fun e => by
  obtain ⟨D, ⟨es, clock, hh, _⟩, _⟩ := hm
  rcases h.2 with ⟨e1, _⟩ | ⟨g, cap, cur, e1, _, hg, _⟩
  · injection e1 with e1; cases e1
  · injection e1 with e1; injection e1 with e1; injection e1 with e1; subst e1; rw [e, hh] at hg; cases hg
theorem own_step {B : Nat → Prop} {w w' : World} {r n c : Nat} {xs : List Value} (h : w.ownsRow 0 42 64 (.slice (some ⟨r, 0, none⟩) n c) n xs) (k : Stp B w w') (hB : ¬ B r) : w'.ownsRow 0 42 64 (.slice (some ⟨r, 0, none⟩) n c) n xs := by
  refine ⟨h.1, ?_⟩
  rcases h.2 with h2 | ⟨g', cap, cur, e2, e3, e4, e5⟩
  · exact .inl h2
  · refine .inr ⟨g', cap, cur, e2, e3, ?_, e5⟩
    have : g' = r := by injection e2 with e2; injection e2 with e2; injection e2 with e2; exact e2.symm
    subst this
    rw [k.block g' (Array.getElem?_eq_some_iff.1 e4).1 hB]; exact e4
/-- The disk when both maps have turned at one key. -/
theorem Dk.settled {F : Nat → Prop} {w w' : World} {g m1 m2 : Nat} {sp : Value} {S : DS} {f : Int → Option Value} (h : Dk w g sp m1 m2 S f F) (hm : MpI Try.prog 3 w m2 f) (k : Stp (fun x => x = m1 ∨ x = m2) w w') {i : Int} (hi : S.inn i) (b : Blk)
    (hs : MpI Try.prog 3 w' m1 (stF (S.settle i b))) : Dk w' g sp m1 m2 (S.settle i b) (upd f i none) F := by
  have hg : ¬ (g = m1 ∨ g = m2) := fun e => by rcases e with e | e; exact h.st.notCell h.c0 e; exact hm.notCell h.c0 e
  refine ⟨k.cell h.c0 hg, k.cell h.c1 hg, k.cell h.c2 hg, k.cell h.c3 hg, k.cell h.c4 hg, by rw [k.frozen (p := ⟨g, 4, none⟩) (h.lt g h.fg) hg]; exact h.z4, hs, h.ok.settle hi b, h.fg, h.f1, h.f2, h.ne,
    fun x hx => Nat.lt_of_lt_of_le (h.lt x hx) k.size, fun j hj => ?_, fun j hj => ?_, fun j j' r e1 e2 => ?_⟩
  · unfold upd; split
    · rfl
    · rename_i hne; refine h.w0 j ?_; simp only [DS.settle, if_neg hne] at hj; exact hj
  · have hne : j ≠ i := fun e => hj (by simp [DS.settle, e])
    have e3 : (S.settle i b).wt j = S.wt j := by simp only [DS.settle, if_neg hne]
    rw [e3] at hj ⊢
    obtain ⟨r, c, e, hF, hr, ho⟩ := h.w1 j hj
    refine ⟨r, c, by unfold upd; rw [if_neg hne]; exact e, hF, hr, own_step ho k (fun e => ?_)⟩
    rcases e with e | e
    · exact own_map_ne ho h.st e
    · exact own_map_ne ho hm e
  · unfold upd at e1 e2
    by_cases n1 : j = i
    · rw [if_pos n1] at e1; cases e1
    · by_cases n2 : j' = i
      · rw [if_pos n2] at e2; cases e2
      · rw [if_neg n1] at e1; rw [if_neg n2] at e2; exact h.apart j j' r e1 e2
theorem turned_stp {w w' : World} {b : Nat} (h : w.mapTurned w' b) : Stp (fun x => x = b) w w' := Stp.of_grown h.grown (by rintro x e; injection e with e; exact .inl e.symm)

set_option maxRecDepth 100000 in
set_option maxHeartbeats 1000000 in
theorem settle_core {F : Nat → Prop} {w : World} {g m1 m2 : Nat} {sp : Value} {S : DS} {f : Int → Option Value} (h : Dk w g sp m1 m2 S f F) (i : Int) (hi : S.inn i) (b : Blk)
    (M : World → (Int → Option Value) → Prop) (r : Nat → Prop) (hM : M w f) (hMm : ∀ u f, M u f → MpI Try.prog 3 u m2 f) (hr1 : ¬ r m1)
    (hstep : ∀ u u' f B, M u f → Stp B u u' → ¬ B m2 → (∀ x, r x → ¬ B x) → M u' f)
    (hdrop : ∀ u f ty, M u f → ∃ u', (Builtin.delete_ #[70, 3] ty #[.map (some m2), .int .i64 i]).run Try.prog u = .ok (.tuple #[]) u' ∧ (M u' (upd f i none) ∧ u.mapTurned u' m2)) :
    Calls Try.prog 63 #[.pointer (some ⟨g, 0, none⟩), .int .i64 i, .agg b.cs.toArray] w fun e w' => e = .returned (.tuple #[]) ∧ Dk w' g sp m1 m2 (S.settle i b) (upd f i none) F ∧ M w' (upd f i none) ∧ Stp (fun x => x = m1 ∨ x = m2) w w' := by
  have hwf : (Lit.int .i64 i).wf = true := by have := h.ok.n2; unfold DS.inn at hi; simp [Lit.wf, IntKind.min, IntKind.max, IntKind.bits, IntKind.signed]; omega
  have c2 := h.c2
  have c3 := h.c3
  have hlt := h.lt g h.fg
  have hm := hMm w f hM
  have hg : ¬ (g = m1 ∨ g = m2) := fun e => by rcases e with e | e; exact h.st.notCell h.c0 e; exact hm.notCell h.c0 e
  have l1 := h.lt m1 h.f1
  have l2 := h.lt m2 h.f2
  have hne := h.ne
  have e36 := eq36
  have g36 := guard36
  have s0 : Stp (fun _ => False) w (w.alloc (.cells b.cs.toArray 42)) := Stp.of_alloc _ _ _
  have hM0 := hstep _ _ _ _ hM s0 id (fun _ _ => id)
  have fin : ∀ w1 w2 : World, (w.alloc (.cells b.cs.toArray 42)).mapTurned w1 m2 → M w1 (upd f i none) → Stp (fun x => x = m1) w1 w2 → MpI Try.prog 3 w2 m1 (stF (S.settle i b)) →
      Dk w2 g sp m1 m2 (S.settle i b) (upd f i none) F ∧ M w2 (upd f i none) ∧ Stp (fun x => x = m1 ∨ x = m2) w w2 := fun w1 w2 t1 hM1 t2 hs => by
    have k : Stp (fun x => x = m1 ∨ x = m2) w w2 := ((s0.mono (fun x hx => hx.elim)).next (turned_stp t1) (fun x hx => .inl (.inr hx))).next t2 (fun x hx => .inl (.inl hx))
    exact ⟨h.settled hm k hi b hs, hstep _ _ _ _ hM1 t2 (fun e => hne e.symm) (fun x hx e => hr1 (e ▸ hx)), k⟩
  have fact : ∀ w1 : World, (w.alloc (.cells b.cs.toArray 42)).mapTurned w1 m2 → w1.cell? ⟨g, 2, none⟩ = some (.map (some m1)) ∧ w1.rangeAt w.heap.size 0 b.cs ∧ MpI Try.prog 3 w1 m1 (stF S) ∧ w.heap.size < w1.heap.size := fun w1 t1 =>
    ⟨(turned_stp t1).cell (s0.cell c2 id) (fun e => hg (.inr e)), (turned_stp t1).range (made_range w _ _) (by omega), (h.st.step s0 id).step (turned_stp t1) hne, by have := (turned_stp t1).size; simp at this; omega⟩
  by_cases hb : b = Blk.zero
  · subst hb
    rw [stF_settle0] at fin
    go_enter Try.func63, Try.ntmps63
    go_wp2_with (first
      | (refine at_drop (t := 70) (by rfl) _ _ (by rfl) (by rfl) (by rfl) (fun ty => hdrop _ f ty hM0) ?_; rintro w1 ⟨hM1, ht1⟩; obtain ⟨d1, d2, d3, d4⟩ := fact w1 ht1)
      | (refine at_load (by rfl) _ (by rfl) _ _ (by rfl) Blk.zero d2 ?_)
      | (refine at_build (by rfl) (by rfl) ?_)
      | (refine at_drop (t := 69) (by rfl) _ _ (by rfl) (by rfl) (by rfl) (fun ty => d3.drop u3 u63 hwf ty) ?_; rintro w2 ⟨d5, d6⟩))
    first | go_end0 | refine bodyPost_ret (results_none rfl _ _ _) rfl ?_
    exact ⟨rfl, fin w1 w2 ht1 hM1 (turned_stp d6) d5⟩
  · rw [stF_settle1 S i hb] at fin
    go_enter Try.func63, Try.ntmps63
    go_wp2_with (first
      | (refine at_drop (t := 70) (by rfl) _ _ (by rfl) (by rfl) (by rfl) (fun ty => hdrop _ f ty hM0) ?_; rintro w1 ⟨hM1, ht1⟩; obtain ⟨d1, d2, d3, d4⟩ := fact w1 ht1)
      | (refine at_load (by rfl) _ (by rfl) _ _ (by rfl) b d2 ?_)
      | (refine at_build (by rfl) (by rfl) ?_))
    obtain ⟨w2, hr2, d5, d6⟩ := (d3.step (Stp.refl (fun _ => False) w1).drew id).store (t := 69) u3 u63 (stF_few h.ok) hwf (.agg b.cs.toArray)
    have hSa : w1.drew.cell? ⟨g, 2, none⟩ = some (.map (some m1)) ∧ w1.drew.rangeAt w.heap.size 0 b.cs := ⟨d1, d2⟩
    have hSb : w2.cell? ⟨g, 2, none⟩ = some (.map (some m1)) ∧ w2.rangeAt w.heap.size 0 b.cs := ⟨(turned_stp d6).cell hSa.1 (fun e => hg (.inl e)), (turned_stp d6).range hSa.2 (by omega)⟩
    have u36' := u36
    have s36 := size36 b
    clear d3
    go_region_held3 (fun w' => w'.cell? ⟨g, 2, none⟩ = some (.map (some m1)) ∧ w'.rangeAt w.heap.size 0 b.cs) (first | exact hSa | exact hSb) (fail)
    go_wp2
    first | go_end0 | refine bodyPost_ret (results_none rfl _ _ _) rfl ?_
    exact ⟨rfl, fin w1 w2 ht1 hM1 ((Stp.refl _ w1).drew.trans (turned_stp d6)) d5⟩
end Go.Proofs.Ytecedklfdmbnpaa
