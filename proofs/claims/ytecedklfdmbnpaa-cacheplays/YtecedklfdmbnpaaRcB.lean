/-
  Laws at operations on the document's held sectors; the document's cache in memory: no statement is proved here.
-/
import Derived.Test.YtecedklfdmbnpaaRcA
namespace Go.Proofs.Ytecedklfdmbnpaa
open Go.ChangeShapes Go.WideShapes Go.ChangeAt Go.RowKit
set_option linter.unusedVariables false
set_option linter.unusedSimpArgs false

section
variable {ops : Array Oper} {rest : List Oper} {o : Oper} {a : Act} {w : World} {Q : Exit → Act → World → Prop}
theorem at_newO (hw : Region.wanted o (yielded ops a.tmps) = true) (ho : o.op = .alloc 82)
    (h : ∀ g w', w.heap.size ≤ g → g < w'.heap.size → Cs w' g (onc e0) → Below w.heap.size w w' → wpList Try.prog ops Q rest (a.put o.dst (.pointer (some ⟨g, 0, none⟩))) w') : wpList Try.prog ops Q (o :: rest) a w := by
  refine wpList_val hw _ _ ?_ (h w.heap.size (w.alloc (.cells (onc e0).toArray 82)) (Nat.le_refl _) (by simp) (Cs.made _ _ _ (onc_one _)) ((Below.refl _ _).alloc (Nat.le_refl _) _))
  have : (Instr.alloc 82 true (.tuple #[])).run Try.prog w = .ok (.pointer (some ⟨w.heap.size, 0, none⟩)) (w.alloc (.cells (onc e0).toArray 82)) := by
    unfold Instr.alloc; rw [Sem.run_bind, zeroO]; rfl
  simp only [execOp, ho, Sem.run_bind, this]; rfl
theorem at_boxO (hw : Region.wanted o (yielded ops a.tmps) = true) (x : Operand) (ho : o.op = .box 82 x) (e : Int × Pg) (hx : a.eval x = .agg (onc e).toArray)
    (h : ∀ g w', w.heap.size ≤ g → g < w'.heap.size → Cs w' g (onc e) → Below w.heap.size w w' → wpList Try.prog ops Q rest (a.put o.dst (.pointer (some ⟨g, 0, none⟩))) w') : wpList Try.prog ops Q (o :: rest) a w :=
  at_boxC _ hw x ho (onc e) hx (onc_one e) h
theorem at_getO (hw : Region.wanted o (yielded ops a.tmps) = true) (x : Operand) (ho : o.op = .load 82 x) (g off : Nat) (hx : a.eval x = .pointer (some ⟨g, off, none⟩)) (e : Int × Pg) (hR : w.rangeAt g off (onc e))
    (h : wpList Try.prog ops Q rest (a.put o.dst (.agg (onc e).toArray)) w) : wpList Try.prog ops Q (o :: rest) a w := by
  refine wpList_val hw _ _ ?_ h
  simp [execOp, ho, hx, Instr.loadAt, Instr.sureAddr, loadO hR]
theorem at_putO (hw : Region.wanted o (yielded ops a.tmps) = true) (x y : Operand) (ho : o.op = .store 82 x y) (g : Nat) (hx : a.eval x = .pointer (some ⟨g, 0, none⟩)) (e : Int × Pg) (hy : a.eval y = .agg (onc e).toArray) (e' : Int × Pg) (hR : Cs w g (onc e'))
    (h : ∀ w', Cs w' g (onc e) → Stp (fun x => x = g) w w' → wpList Try.prog ops Q rest (a.put o.dst undef) w') : wpList Try.prog ops Q (o :: rest) a w := by
  have hc := hR.setCells 0 (onc e) (by rw [onc_len, onc_len]; omega) (onc_one e)
  have e1 : (onc e').take 0 ++ onc e ++ (onc e').drop (0 + (onc e).length) = onc e := by
    rw [List.drop_eq_nil_of_le (by rw [onc_len, onc_len]; omega)]; simp
  rw [e1] at hc
  refine wpList_unit hw _ ?_ (h _ hc (Stp.of_setCells w g 0 (onc e) (.inl rfl)))
  simp only [execOp, ho, hx, hy, Instr.storeAt, Instr.sureAddr, Sem.run_bind, Sem.run_pure, Result.andThen_ok]
  rw [run_storeVar_mid w g 0 _ (onc e).toArray (by have := hR.there; rw [onc_len] at this; rw [List.size_toArray, onc_len]; exact this) (by rw [szO, List.size_toArray, onc_len]) (all_oneCell_toArray (onc_one e))]
  simp
theorem at_bldO (hw : Region.wanted o (yielded ops a.tmps) = true) (x y : Operand) (ho : o.op = .build 82 #[(0, x), (1, y)]) (k : Int) (hx : a.eval x = .int .i64 k) (b : Blk) (hy : a.eval y = .agg b.cs.toArray)
    (h : wpList Try.prog ops Q rest (a.put o.dst (.agg (onc (k, ⟨b, false, 0⟩)).toArray)) w) : wpList Try.prog ops Q (o :: rest) a w := by
  refine wpList_val hw _ _ ?_ h
  simp [execOp, ho, hx, hy, build_one]
theorem at_bsO (hw : Region.wanted o (yielded ops a.tmps) = true) (x : Operand) (ho : o.op = .buildSlice 47 1 #[(0, x)]) (e : Int × Pg) (hx : a.eval x = .agg (onc e).toArray)
    (h : ∀ g w', w.heap.size ≤ g → g < w'.heap.size → Cs w' g (onc e) → OwL w' (.slice (some ⟨g, 0, none⟩) 1 1) [e] → Below w.heap.size w w' → wpList Try.prog ops Q rest (a.put o.dst (.slice (some ⟨g, 0, none⟩) 1 1)) w') : wpList Try.prog ops Q (o :: rest) a w := by
  refine wpList_val hw _ _ ?_ (h w.heap.size (w.alloc (.cells (onc e).toArray 82)) (Nat.le_refl _) (by simp) (Cs.made _ _ _ (onc_one _)) ?_ ((Below.refl _ _).alloc (Nat.le_refl _) _))
  · simp [execOp, ho, hx, bslice_one]
  · exact RwL.own (l := [e]) (cur := (onc e).toArray) ⟨heap_alloc_new w _, Nat.le_refl _, by decide, by simp [onc_len], by simp only [flN, List.flatMap_cons, List.flatMap_nil, List.append_nil]; exact List.take_of_length_le (by simp [onc_len])⟩
theorem at_appO {B : Nat} {v : Value} {l : El} (hgd : o.guard = none) (s x : Operand) (ho : o.op = .call { callee := .builtin .append, args := #[s, x], argTypes := #[47, 47] }) (hs : a.eval s = v) (h0 : OwL w v l) (hN : New B v)
    (g2 : Nat) (e : Int × Pg) (hx : a.eval x = .slice (some ⟨g2, 0, none⟩) 1 1) (hr : w.rangeAt g2 0 (onc e)) (hbig : l.length ≤ 1000) (hB : B ≤ w.heap.size)
    (h : ∀ v' w', OwL w' v' (l ++ [e]) → New B v' → Stp (fun x => v.ownBlock = some x) w w' → wpList Try.prog ops Q rest (a.put o.dst v') w') : wpList Try.prog ops Q (o :: rest) a w := by
  obtain ⟨i0, hi, hz0, hz1, hz2⟩ := info_parts infoO
  refine wpList_append_own_at w hgd s x 47 ho B 82 i0 _ 67 88 uOs hi hz0 hz1 hz2 (by simp [Value.cells, onc_len]) (by decide) v l.length (flN l) hs (h0.base hN) ⟨g2, 0, none⟩ 1 1 (onc e) hx (by rw [onc_len]) (fun j u hj => by rw [Addr.add_mid]; exact hr j u hj) (onc_one e) (by unfold maxLen; omega) (by omega) hB ?_
  intro v' w' h1 h2 h3 h4
  refine h v' w' ?_ (fun r hr => ?_) (Stp.of_grown h2 (fun x e => .inl e))
  · have h5 : w'.ownsRow 0 82 67 v' (l.length + 1) (flN l ++ onc e) := by
      rcases h1.2 with ⟨e, e2⟩ | ⟨g, cap, cur, e, _, e3⟩
      · exact ⟨h1.1, .inl ⟨e, e2⟩⟩
      · exact ⟨h1.1, .inr ⟨g, cap, cur, e, Nat.zero_le _, e3⟩⟩
    unfold OwL
    rw [flN_app, List.length_append]
    simpa [flN] using h5
  · rcases h4 with e | e
    · exact hN r (by rw [← e]; exact hr)
    · rw [hr] at e; injection e with e; omega
end
section
variable {ops : Array Oper} {o : Oper} {a : Act} {w : World} {K : Act → World → Prop} {Q : Exit → Act → World → Prop} {E : Prop}
/-- '[]One{}', in a region that draws. -/
theorem step_bs0 (hgd : o.guard = none) (ho : o.op = .buildSlice 47 0 #[])
    (h : ∀ g w', w.heap.size ≤ g → g < w'.heap.size → OwL w' (.slice (some ⟨g, 0, none⟩) 0 0) [] → Below w.heap.size w w' → K (a.put o.dst (.slice (some ⟨g, 0, none⟩) 0 0)) w') : if Region.wanted o (yielded ops a.tmps) = true then Oper.wp Try.prog o a w K Q else E := by
  have hw : Region.wanted o (yielded ops a.tmps) = true := by simp [Region.wanted, hgd]
  rw [if_pos hw]
  have hb : (Instr.buildSlice 47 0 #[]).run Try.prog w = .ok (.slice (some ⟨w.heap.size, 0, none⟩) 0 0) (w.alloc (.cells #[] 82)) := by kernel_rfl
  have hr : (execOp a.eval o).run Try.prog w = .ok (.value (.slice (some ⟨w.heap.size, 0, none⟩) 0 0)) (w.alloc (.cells #[] 82)) := by
    simp [execOp, ho, hb]
  unfold Oper.wp
  rw [hr]
  exact h w.heap.size _ (Nat.le_refl _) (by simp) (RwL.own (l := []) (cur := #[]) ⟨heap_alloc_new w _, Nat.le_refl _, by decide, rfl, rfl⟩) ((Below.refl _ _).alloc (Nat.le_refl _) _)
/-- 'append' of a part of a row, in a region that draws. -/
theorem step_appO {B : Nat} {v : Value} {l l2 : El} (hgd : o.guard = none) (s x : Operand) (ho : o.op = .call { callee := .builtin .append, args := #[s, x], argTypes := #[47, 47] }) (hs : a.eval s = v) (h0 : OwL w v l) (hN : New B v) (hv : v ≠ .slice none 0 0)
    (ad : Addr) (c : Nat) (hx : a.eval x = .slice (some ad) l2.length c) (hnews : ∀ j u, (flN l2)[j]? = some u → w.cell? (ad.add j) = some u) (hbig : l.length + l2.length ≤ 1000) (hB : B ≤ w.heap.size)
    (h : ∀ g' c' w', OwL w' (.slice (some ⟨g', 0, none⟩) (l.length + l2.length) c') (l ++ l2) → B ≤ g' → Stp (fun x => v.ownBlock = some x) w w' → K (a.put o.dst (.slice (some ⟨g', 0, none⟩) (l.length + l2.length) c')) w') : if Region.wanted o (yielded ops a.tmps) = true then Oper.wp Try.prog o a w K Q else E := by
  have hw : Region.wanted o (yielded ops a.tmps) = true := by simp [Region.wanted, hgd]
  rw [if_pos hw]
  obtain ⟨i0, hi, hz0, hz1, hz2⟩ := info_parts infoO
  obtain ⟨v', w', hr, h1, h2, h3, h4⟩ := run_append_own_at (P := Try.prog) w B 47 o.type 82 i0 _ 67 88 uOs hi hz0 hz1 hz2 (by simp [Value.cells, onc_len]) (by decide) v l.length (flN l) (h0.base hN) ad l2.length c (flN l2) (flN_len l2) hnews (flN_one' l2) (by unfold maxLen; omega) (by omega) hB
  obtain ⟨g', cap', rfl, _⟩ := own_some h1 (fun e => hv (h3.1 e).1)
  unfold Oper.wp execOp
  simp only [ho, resolve, invoke, builtin, Sem.run_bind, Sem.run_pure, Result.andThen_ok, List.map_toArray, List.map_cons, List.map_nil, hs, hx, hr]
  refine h g' cap' w' ?_ ?_ (Stp.of_grown h2 (fun x e => .inl e))
  · have hle : (l ++ l2).length = l.length + l2.length := List.length_append
    unfold OwL
    rw [hle, flN_app]
    rcases h1.2 with ⟨e, e2⟩ | ⟨g, cap, cur, e, _, e3⟩
    · exact ⟨h1.1, .inl ⟨e, e2⟩⟩
    · exact ⟨h1.1, .inr ⟨g, cap, cur, e, Nat.zero_le _, e3⟩⟩
  · have : (Value.slice (some ⟨g', 0, none⟩) (l.length + l2.length) cap').ownBlock = some g' := rfl
    rcases h4 with e | e
    · exact hN g' (by rw [← e, this])
    · rw [this] at e; injection e with e; omega
end
/-- The document's cache at yc, of its disk at y, whose supply is at q; lv: its list; E: the blocks of the cache, R: those of the disk. -/
structure Rx (w : World) (yc y q : Nat) (Z : CZ) (s : PS) (lv : Value) (E R : Nat → Prop) : Prop where
  rd : RD w y q Z.d R
  rw : Rw w q (ref s)
  hp : Z.p = some s
  c : Cs w yc [.pointer (some ⟨y, 0, none⟩), .int .i64 Z.n, lv, .int .i64 Z.h, .int .i64 Z.m]
  ow : OwL w lv Z.l
  eg : E yc
  eo : ∀ r, lv.ownBlock = some r → E r ∧ r ≠ yc
  er : ∀ x, E x → ¬ R x
  eq : ¬ E q
  nq : ¬ R q
  lt : ∀ x, E x → x < w.heap.size
  qt : q < w.heap.size
def Rl (q : Nat) (E R : Nat → Prop) : Nat → Prop := fun x => E x ∨ R x ∨ x = q
section
variable {w w' : World} {yc y q : Nat} {Z Z' : CZ} {s s' : PS} {lv lv' : Value} {E E' R R' B : Nat → Prop}
theorem rw_step {B : Nat → Prop} {w w' : World} {q : Nat} {p : RS} (h : Rw w q p) (k : Stp B w w') (hq : ¬ B q) (hl : q < w.heap.size) : Rw w' q p :=
  ⟨k.cell h.c0 hq, k.cell h.c1 hq, k.cell h.c2 hq, by rw [k.frozen (p := ⟨q, 0, none⟩) hl hq]; exact h.f0, by rw [k.frozen (p := ⟨q, 1, none⟩) hl hq]; exact h.f1, by rw [k.frozen (p := ⟨q, 2, none⟩) hl hq]; exact h.f2⟩
theorem Rx.step (H : Rx w yc y q Z s lv E R) (k : Stp B w w') (h1 : ∀ x, E x → ¬ B x) (h2 : ∀ x, R x → ¬ B x) (h3 : ¬ B q) : Rx w' yc y q Z s lv E R :=
  ⟨H.rd.step k h2, rw_step H.rw k h3 H.qt, H.hp, H.c.step k (h1 _ H.eg), H.ow.step k (fun r hr => h1 r (H.eo r hr).1), H.eg, H.eo, H.er, H.eq, H.nq, fun x hx => Nat.lt_of_lt_of_le (H.lt x hx) k.size, Nat.lt_of_lt_of_le H.qt k.size⟩
theorem Rx.later (H : Rx w yc y q Z s lv E R) (k : Below w.heap.size w w') : Rx w' yc y q Z s lv E R := H.step (Stp.of_below k (fun _ => False)) (fun _ _ => id) (fun _ _ => id) id
theorem Rx.far (H : Rx w yc y q Z s lv E R) (x : Nat) (hx : w.heap.size ≤ x) : ¬ Rl q E R x := fun e => by
  rcases e with e | e | e
  · have := H.lt x e; omega
  · have := H.rd.lt x e; omega
  · have := H.qt; omega
theorem Rx.cells (H : Rx w yc y q Z s lv E R) : w.cell? ⟨yc, 0, none⟩ = some (.pointer (some ⟨y, 0, none⟩)) ∧ w.cell? ⟨yc, 1, none⟩ = some (.int .i64 Z.n) ∧ w.cell? ⟨yc, 2, none⟩ = some lv ∧ w.cell? ⟨yc, 3, none⟩ = some (.int .i64 Z.h) ∧ w.cell? ⟨yc, 4, none⟩ = some (.int .i64 Z.m) :=
  ⟨H.c.cell 0 _ rfl, H.c.cell 1 _ rfl, H.c.cell 2 _ rfl, H.c.cell 3 _ rfl, H.c.cell 4 _ rfl⟩
/-- Only the cache changed. -/
theorem Rx.own (H : Rx w yc y q Z s lv E R) (k : Stp E w w') (hd : Z'.d = Z.d) (hp : Z'.p = Z.p) (hc : Cs w' yc [.pointer (some ⟨y, 0, none⟩), .int .i64 Z'.n, lv', .int .i64 Z'.h, .int .i64 Z'.m]) (ho : OwL w' lv' Z'.l) (hE : Grew E E' w w') (eg : E' yc) (eo : ∀ r, lv'.ownBlock = some r → E' r ∧ r ≠ yc) (hlt : ∀ x, E' x → x < w'.heap.size) : Rx w' yc y q Z' s lv' E' R := by
  refine ⟨by rw [hd]; exact H.rd.step k (fun x hx e => H.er x e hx), rw_step H.rw k H.eq H.qt, by rw [hp]; exact H.hp, hc, ho, eg, eo, fun x hx hR => ?_, fun e => ?_, H.nq, hlt, Nat.lt_of_lt_of_le H.qt k.size⟩
  · rcases hE x hx with e | e
    · exact H.er x e hR
    · have := H.rd.lt x hR; omega
  · rcases hE q e with e | e
    · exact H.eq e
    · have := H.qt; omega
/-- Its list is another. -/
theorem Rx.list (H : Rx w yc y q Z s lv E R) (k : Stp (fun x => lv.ownBlock = some x) w w') (hd : Z'.d = Z.d) (hp : Z'.p = Z.p) (hn : Z'.n = Z.n) (hh : Z'.h = Z.h) (hm : Z'.m = Z.m) (ho : OwL w' lv' Z'.l) (hb : ∀ r, lv'.ownBlock = some r → lv.ownBlock = some r ∨ (w.heap.size ≤ r ∧ r < w'.heap.size)) :
    ∃ E', Rx (w'.setCell ⟨yc, 2, none⟩ lv') yc y q Z' s lv' E' R ∧ Stp E w (w'.setCell ⟨yc, 2, none⟩ lv') ∧ Grew E E' w (w'.setCell ⟨yc, 2, none⟩ lv') := by
  have s2 : Stp (fun x => x = yc) w' (w'.setCell ⟨yc, 2, none⟩ lv') := (Stp.refl (fun x => x = yc) w').setCell (p := ⟨yc, 2, none⟩) (.inl rfl) _
  have hyc : lv.ownBlock ≠ some yc := fun e => (H.eo yc e).2 rfl
  have c1 := H.c.step k hyc
  have hnew : ∀ r, lv'.ownBlock = some r → r ≠ yc := fun r hr => by
    rcases hb r hr with e | e
    · exact (H.eo r e).2
    · have := H.lt yc H.eg; omega
  have st : Stp E w (w'.setCell ⟨yc, 2, none⟩ lv') := (k.mono (fun x e => .inl (H.eo x e).1)).next s2 (fun x e => .inl (e ▸ H.eg))
  have hg : Grew E (fun x => E x ∨ lv'.ownBlock = some x) w (w'.setCell ⟨yc, 2, none⟩ lv') := fun x hx => by
    rcases hx with hx | hx
    · exact .inl hx
    · rcases hb x hx with e | e
      · exact .inl (H.eo x e).1
      · exact .inr ⟨e.1, Nat.lt_of_lt_of_le e.2 s2.size⟩
  refine ⟨_, H.own st hd hp ?_ (ho.step s2 hnew) hg (.inl H.eg) (fun r hr => ⟨.inr hr, hnew r hr⟩) (fun x hx => ?_), st, hg⟩
  · rw [hn, hh, hm]; exact c1.set 2 lv' ho.one
  · rcases hg x hx with e | e
    · exact Nat.lt_of_lt_of_le (H.lt x e) st.size
    · exact e.2
/-- Hits and misses. -/
theorem Rx.count (H : Rx w yc y q Z s lv E R) (h' m' : Int) (k : Stp (fun x => x = yc) w w') (hc : Cs w' yc [.pointer (some ⟨y, 0, none⟩), .int .i64 Z.n, lv, .int .i64 h', .int .i64 m']) : Rx w' yc y q { Z with h := h', m := m' } s lv E R :=
  H.own (k.mono (fun x e => .inl (e ▸ H.eg))) rfl rfl hc (H.ow.step k (fun r hr => (H.eo r hr).2)) (Grew.refl _ _ _) H.eg H.eo (fun x hx => Nat.lt_of_lt_of_le (H.lt x hx) k.size)
theorem Rx.hit (H : Rx w yc y q Z s lv E R) (h' : Int) : Rx (w.setCell ⟨yc, 3, none⟩ (.int .i64 h')) yc y q { Z with h := h' } s lv E R :=
  H.count h' Z.m ((Stp.refl (fun x => x = yc) w).setCell (p := ⟨yc, 3, none⟩) (.inl rfl) _) (H.c.set 3 (.int .i64 h') rfl)
theorem Rx.missed (H : Rx w yc y q Z s lv E R) (m' : Int) : Rx (w.setCell ⟨yc, 4, none⟩ (.int .i64 m')) yc y q { Z with m := m' } s lv E R :=
  H.count Z.h m' ((Stp.refl (fun x => x = yc) w).setCell (p := ⟨yc, 4, none⟩) (.inl rfl) _) (H.c.set 4 (.int .i64 m') rfl)
/-- Some cells of a held sector, anew. -/
theorem Rx.set {g cap : Nat} {cur : Array Value} (H : Rx w yc y q Z s (.slice (some ⟨g, 0, none⟩) Z.l.length cap) E R) (hw : RwL w g cap Z.l cur) (k : Nat) (hk : k < Z.l.length) (o : Nat) (vs : List Value) (e : Int × Pg) (ho : o + vs.length ≤ 67) (h1 : ∀ v ∈ vs, v.oneCell' = true) (he : onc e = (onc (Z.l.getD k e0)).take o ++ vs ++ (onc (Z.l.getD k e0)).drop (o + vs.length)) :
    Rx (w.setCells g (k * 67 + o) vs) yc y q { Z with l := Z.l.set k e } s (.slice (some ⟨g, 0, none⟩) Z.l.length cap) E R := by
  obtain ⟨cur', hw'⟩ := hw.set k hk o vs e ho h1 he
  have k1 : Stp (fun x => x = g) w (w.setCells g (k * 67 + o) vs) := Stp.of_setCells w g _ vs (.inl rfl)
  have hE := H.eo g rfl
  refine H.own (k1.mono (fun x e => .inl (e ▸ hE.1))) rfl rfl (H.c.step k1 (fun e => hE.2 e.symm)) ?_ (Grew.refl _ _ _) H.eg H.eo (fun x hx => Nat.lt_of_lt_of_le (H.lt x hx) k1.size)
  have := hw'.own
  rwa [List.length_set] at this
end
end Go.Proofs.Ytecedklfdmbnpaa
