/-
  Slices of patches in memory: no statement is proved here.
-/
import Derived.Test.YtdfifneikmlmoaaGreatMadeA
import Derived.Great.BuildSlice
namespace Go.Proofs.YtdfifneikmlmoaaGreat
open Go.ChangeShapes Go.WideShapes Go.ChangeAt Go.RowKit
set_option linter.unusedVariables false
set_option linter.unusedSimpArgs false

/-- A patch, and where its lists lie. -/
structure Pe where
  p : Pt
  d : Sv
  n : Sv
def Pe.cs (t : Pe) : List Value := t.p.cs t.d t.n
theorem Pe.cs_len (t : Pe) : t.cs.length = 9 := rfl
theorem Pe.cs_one (t : Pe) : ∀ v ∈ t.cs, v.oneCell' = true := t.p.cs_one t.d t.n
def Pe.zero : Pe := ⟨Pt.zero, Sv.nil, Sv.nil⟩
/-- One behind the other. -/
def fl (L : List Pe) : List Value := L.flatMap Pe.cs
theorem fl_nil : fl [] = [] := rfl
theorem fl_cons (t : Pe) (L : List Pe) : fl (t :: L) = t.cs ++ fl L := by unfold fl; rw [List.flatMap_cons]
theorem fl_append (L L' : List Pe) : fl (L ++ L') = fl L ++ fl L' := by unfold fl; rw [List.flatMap_append]
theorem fl_len : ∀ L : List Pe, (fl L).length = L.length * 9
  | [] => rfl
  | t :: L => by rw [fl_cons, List.length_append, t.cs_len, fl_len L, List.length_cons]; omega
theorem fl_one : ∀ L : List Pe, ∀ v ∈ fl L, v.oneCell' = true := fun L v hv => by
  unfold fl at hv
  obtain ⟨t, _, h⟩ := List.mem_flatMap.1 hv
  exact t.cs_one v h
theorem fl_get : ∀ (L : List Pe) (i j : Nat) (t : Pe), L[i]? = some t → j < 9 → (fl L)[i * 9 + j]? = t.cs[j]?
  | [], i, j, t, h, _ => by cases h
  | a :: L, 0, j, t, h, hj => by
    injection h with h; subst h
    rw [fl_cons, List.getElem?_append_left (by rw [a.cs_len]; omega)]
    congr 1; omega
  | a :: L, i + 1, j, t, h, hj => by
    have h' : L[i]? = some t := by simpa using h
    rw [fl_cons, List.getElem?_append_right (by rw [a.cs_len]; omega), a.cs_len, ← fl_get L i j t h' hj]
    congr 1; omega
theorem fl_set : ∀ (L : List Pe) (k : Nat) (t t' : Pe) (j : Nat) (v : Value), L[k]? = some t → j < 9 → t'.cs = t.cs.set j v → (fl L).set (k * 9 + j) v = fl (L.set k t')
  | [], k, t, t', j, v, h, _, _ => by cases h
  | a :: L, 0, t, t', j, v, h, hj, e => by
    injection h with h; subst h
    rw [fl_cons, List.set_cons_zero, fl_cons, List.set_append_left _ _ (by rw [a.cs_len]; omega), e]
    congr 2; omega
  | a :: L, k + 1, t, t', j, v, h, hj, e => by
    have h' : L[k]? = some t := by simpa using h
    rw [fl_cons, List.set_cons_succ, fl_cons, List.set_append_right _ _ (by rw [a.cs_len]; omega), a.cs_len, ← fl_set L k t t' j v h' hj e]
    congr 2; omega
/-- A slice of patches of one's own. -/
def OwP (w : World) (v : Value) (L : List Pe) : Prop := w.ownsRow 0 54 9 v L.length (fl L)
section
variable {w w' : World} {v : Value} {L : List Pe} {F : Nat → Prop}
theorem OwP.nil (w : World) : OwP w (.slice none 0 0) [] := ⟨rfl, .inl ⟨rfl, rfl⟩⟩
theorem OwP.step (h : OwP w v L) (k : Stp F w w') (hF : ∀ r, v.ownBlock = some r → ¬ F r) : OwP w' v L := ro_step h k hF
theorem OwP.later (h : OwP w v L) (k : Below w.heap.size w w') : OwP w' v L := ro_later h k
theorem OwP.shape (h : OwP w v L) : ∃ a c, v = .slice a L.length c ∧ L.length ≤ maxLen ∧ (a = none → L.length = 0 ∧ c = 0) := by
  rcases h.2 with ⟨h1, h2⟩ | ⟨g, cap, cur, h1, _, h3, h4, h5, h6, h7⟩
  · exact ⟨none, 0, by rw [h1, h2], by rw [h2]; exact Nat.zero_le _, fun _ => ⟨h2, rfl⟩⟩
  · exact ⟨_, cap, h1, Nat.le_trans h4 h5, fun e => by cases e⟩
theorem OwP.one (h : OwP w v L) : v.oneCell' = true := by obtain ⟨a, c, rfl, _⟩ := h.shape; rfl
theorem OwP.lt (h : OwP w v L) {r : Nat} (hr : v.ownBlock = some r) : r < w.heap.size := (World.ownsRow.lt (show w.ownsRow 0 54 9 v L.length (fl L) from h) r hr).2
end
/-- Its cells. -/
theorem OwP.cells {w : World} {a : Option Addr} {c : Nat} {L : List Pe} (h : OwP w (.slice a L.length c) L) (hn : 0 < L.length) : ∃ b, a = some ⟨b, 0, none⟩ ∧ (∀ j v, (fl L)[j]? = some v → w.cell? ⟨b, j, none⟩ = some v) ∧ (∀ j, w.frozen? ⟨b, j, none⟩ = false) := by
  rcases h.2 with ⟨h1, h2⟩ | ⟨g, cap, cur, h1, _, h3, h4, h5, h6, h7⟩
  · omega
  · injection h1 with e1 e2 e3
    refine ⟨g, e1, fun j v hv => ?_, fun j => by simp [World.frozen?, h3]⟩
    rw [cell_of_row w g j _ _ (0, 0) h3]
    have hj := (List.getElem?_eq_some_iff.1 hv).1
    rw [fl_len] at hj
    rw [← h7, List.getElem?_take, if_pos hj] at hv
    simpa using hv
theorem OwP.el {w : World} {a : Option Addr} {c : Nat} {L : List Pe} (h : OwP w (.slice a L.length c) L) (k : Nat) (hk : k < L.length) : ∃ b t, a = some ⟨b, 0, none⟩ ∧ L[k]? = some t ∧ w.rangeAt b (k * 9) t.cs := by
  obtain ⟨b, e, hc, _⟩ := h.cells (by omega)
  refine ⟨b, L[k], e, List.getElem?_eq_getElem hk, fun j v hv => hc _ _ ?_⟩
  have hj := (List.getElem?_eq_some_iff.1 hv).1
  rw [Pe.cs_len] at hj
  rw [fl_get L k j L[k] (List.getElem?_eq_getElem hk) hj]; exact hv
theorem OwP.news {w : World} {a : Option Addr} {c : Nat} {L : List Pe} (h : OwP w (.slice a L.length c) L) : ∀ ad, a = some ad → ∀ j u, (fl L)[j]? = some u → w.cell? (ad.add j) = some u := fun ad e j u hu => by
  have hj := (List.getElem?_eq_some_iff.1 hu).1
  rw [fl_len] at hj
  obtain ⟨b, e1, hc, _⟩ := h.cells (by omega)
  rw [e] at e1; injection e1 with e1; subst e1
  rw [Addr.add_lit, Nat.zero_add]; exact hc j u hu
/-- One cell anew. -/
theorem OwP.set {w : World} {b c : Nat} {L : List Pe} (h : OwP w (.slice (some ⟨b, 0, none⟩) L.length c) L) (k j : Nat) (t t' : Pe) (v : Value) (hk : L[k]? = some t) (hj : j < 9) (e : t'.cs = t.cs.set j v) : OwP (w.setCell ⟨b, k * 9 + j, none⟩ v) (.slice (some ⟨b, 0, none⟩) L.length c) (L.set k t') := by
  rcases h.2 with ⟨h1, h2⟩ | ⟨g, cap, cur, h1, h2, h3, h4, h5, h6, h7⟩
  · cases h1
  · injection h1 with e1 e2 e3
    injection e1 with e1; injection e1 with e1
    subst e1; subst e3
    have e4 : (w.setCell ⟨b, k * 9 + j, none⟩ v).heap[b]? = some (.cells (cur.setIfInBounds (k * 9 + j) v) 54 (0, 0)) := by
      rw [setCell_eq_setRow w b (k * 9 + j) _ _ (0, 0) _ h3, setRow_heap w b _ _ _ _ h3]
    have hl : (L.set k t').length = L.length := List.length_set
    refine ⟨by rw [fl_len], .inr ⟨b, c, cur.setIfInBounds (k * 9 + j) v, by rw [hl], h2, e4, by rw [hl]; exact h4, h5, by simp [h6], ?_⟩⟩
    rw [hl, Array.toList_setIfInBounds, List.take_set, h7, fl_set L k t t' j v hk hj e]
/-- The cells of a patch in a row. -/
theorem Pe.at9 {w : World} {b o : Nat} {t : Pe} (h : w.rangeAt b o t.cs) : w.cell? ⟨b, o, none⟩ = some (.int .i64 t.p.id) ∧ w.cell? ⟨b, o + 1, none⟩ = some (.int .i64 t.p.at') ∧ w.cell? ⟨b, o + 2, none⟩ = some (.int .i64 t.p.off) ∧ w.cell? ⟨b, o + 3, none⟩ = some (.slice t.d.a t.d.n t.d.c) ∧ w.cell? ⟨b, o + 4, none⟩ = some (.int .i64 t.p.kind) ∧ w.cell? ⟨b, o + 5, none⟩ = some (.slice t.n.a t.n.n t.n.c) ∧ w.cell? ⟨b, o + 6, none⟩ = some (.int .i64 t.p.own) ∧ w.cell? ⟨b, o + 7, none⟩ = some (.int .i64 t.p.child) ∧ w.cell? ⟨b, o + 8, none⟩ = some (.bool t.p.wr) :=
  ⟨h 0 _ rfl, h 1 _ rfl, h 2 _ rfl, h 3 _ rfl, h 4 _ rfl, h 5 _ rfl, h 6 _ rfl, h 7 _ rfl, h 8 _ rfl⟩
theorem OwP.shape' {w : World} {v : Value} {L : List Pe} (h : OwP w v L) : ∃ a n c, v = .slice a n c := by obtain ⟨a, c, h, _⟩ := h.shape; exact ⟨a, _, c, h⟩
/-- A list of patches that is being made. -/
structure PuI (w wr : World) (v : Value) (L : List Pe) : Prop where
  ow : OwP wr v L
  nw : New w.heap.size v
  b : Below w.heap.size w wr
theorem PuI.later {w wr w' : World} {v : Value} {l : List Pe} (h : PuI w wr v l) (k : Below wr.heap.size wr w') : PuI w w' v l := ⟨h.ow.later k, h.nw, bnext h.b k (Nat.le_refl _)⟩
theorem PuI.made (w wr : World) (b : Below w.heap.size w wr) : PuI w (wr.alloc (.cells #[] 54)) (.slice (some ⟨wr.heap.size, 0, none⟩) 0 0) [] :=
  ⟨World.ownsRow_made wr #[] 0 (Nat.zero_le _) (Nat.zero_le _) rfl, fun r e => by
    have : wr.heap.size = r := by simpa [Value.ownBlock] using e
    have := b.size
    omega, bnext b ((Below.refl _ wr).alloc (Nat.le_refl _) _) (Nat.le_refl _)⟩
theorem PuI.app {w wr w1 w' : World} {v v' : Value} {l : List Pe} {t : Pe} (h : PuI w wr v l) (b1 : Below wr.heap.size wr w1) (hA : Apd w1 w.heap.size 54 9 v l.length 1 (fl l ++ t.cs) v' w') : PuI w w' v' (l ++ [t]) := by
  obtain ⟨h1, h2, h3, h4, h5⟩ := hA
  refine ⟨?_, h2, ?_⟩
  · unfold OwP
    rw [fl_append, fl_cons, fl_nil, List.append_nil]
    simpa using h1
  · exact ((Stp.of_below (bnext h.b b1 (Nat.le_refl _)) (fun _ => False)).next h4 (fun x e => .inr (h.nw x e))).below (Nat.le_refl _) (fun x e => e.elim)
theorem flt_stepE {l : List Pe} {k : Nat} {p : Pe} (h : l[k]? = some p) (q : Pe → Bool) : (l.take (k + 1)).filter q = (l.take k).filter q ++ (if q p = true then [p] else []) := by
  rw [List.take_add_one, h, List.filter_append]
  congr 1
  simp [List.filter_cons]
theorem cell_new9 (w : World) (t : Pe) (T : TypeId) : ∀ j u, t.cs[j]? = some u → (w.alloc (.cells t.cs.toArray T)).cell? ((⟨w.heap.size, 0, none⟩ : Addr).add j) = some u := fun j u hu => by
  rw [Addr.add_lit, Nat.zero_add]
  exact (Cs.made w t.cs T t.cs_one).cell j u hu
theorem cell_new9' (w : World) (t : Pe) (f : Bool) (hf : t.p.wr = f) (T : TypeId) : ∀ j u, t.cs[j]? = some u → (w.alloc (.cells #[.int .i64 t.p.id, .int .i64 t.p.at', .int .i64 t.p.off, .slice t.d.a t.d.n t.d.c, .int .i64 t.p.kind, .slice t.n.a t.n.n t.n.c, .int .i64 t.p.own, .int .i64 t.p.child, .bool f] T)).cell? ((⟨w.heap.size, 0, none⟩ : Addr).add j) = some u := by
  subst hf; exact cell_new9 w t T
theorem infoP : (Tryz.prog.info? 54).map (fun i => (i.zero, i.size, i.bytes)) = some (some (.agg (Pt.zero.cs Sv.nil Sv.nil).toArray), 9, 104) := by kernel_rfl
theorem bslice_p (t : Pe) (w : World) : (Instr.buildSlice 22 1 #[(0, .agg t.cs.toArray)]).run Tryz.prog w = .ok (.slice (some ⟨w.heap.size, 0, none⟩) 1 1) (w.alloc (.cells t.cs.toArray 54)) := by
  obtain ⟨ie, hie, hz, hs, hb⟩ := info_parts infoP
  refine run_buildSlice w _ _ 1 _ t.cs.toArray ie _ elP.und hie hz (by rw [hs]; omega) (by rw [hs]; omega) ?_
  rw [hs]
  have := Great.fill_whole (s := 9) (by omega) [.agg t.cs.toArray] ((Array.range (1 * 9)).map ((Value.agg (Pt.zero.cs Sv.nil Sv.nil).toArray).cells[· % (Value.agg (Pt.zero.cs Sv.nil Sv.nil).toArray).cells.size]!)) (by intro v hv; simp at hv; subst hv; simp [Value.cells, t.cs_len]) (by simp)
  simpa [Value.cells] using this
theorem at_bsP {ops : Array Oper} {rest : List Oper} {o : Oper} {a : Act} {w : World} {Q : Exit → Act → World → Prop} (x : Operand) (ho : o.op = .buildSlice 22 1 #[(0, x)]) (hw : Region.wanted o (yielded ops a.tmps) = true) (t : Pe) (hx : a.eval x = .agg t.cs.toArray)
    (h : wpList Tryz.prog ops Q rest (a.put o.dst (.slice (some ⟨w.heap.size, 0, none⟩) 1 1)) (w.alloc (.cells t.cs.toArray 54))) : wpList Tryz.prog ops Q (o :: rest) a w := by
  refine op_val hw _ _ ?_ h
  simp [execOp, ho, hx, bslice_p]
theorem uPat : ∃ d, Tryz.prog.underlying 54 = some d ∧ d.isRow = true := ⟨_, Tryz.underlying54, rfl⟩
theorem szPat : (Tryz.prog.info? 54).map (·.size) = some 9 := by kernel_rfl
theorem at_getE {ops : Array Oper} {rest : List Oper} {o : Oper} {a : Act} {w : World} {Q : Exit → Act → World → Prop} (x : Operand) (ho : o.op = .load 54 x) (hw : Region.wanted o (yielded ops a.tmps) = true) (g i : Nat) (hx : a.eval x = .pointer (some ⟨g, i, none⟩)) (t : Pe) (hr : w.rangeAt g i t.cs)
    (h : wpList Tryz.prog ops Q rest (a.put o.dst (.agg t.cs.toArray)) w) : wpList Tryz.prog ops Q (o :: rest) a w := by
  refine op_val hw _ _ ?_ h
  obtain ⟨d, h1, h2⟩ := uPat
  have : (loadVar 54 ⟨g, i, none⟩).run Tryz.prog w = .ok (.agg t.cs.toArray) w := run_loadVar_mid w g i _ t.cs _ hr h1 h2 (by rw [szPat]; rfl)
  simp [execOp, ho, hx, Instr.loadAt, Instr.sureAddr, this]
end Go.Proofs.YtdfifneikmlmoaaGreat
