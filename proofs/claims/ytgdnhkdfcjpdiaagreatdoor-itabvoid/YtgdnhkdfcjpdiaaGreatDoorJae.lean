/-
  Texts of my own, joined: no statement is proved here.
-/
import Derived.Laws.AppendOwnNone
import Derived.Lib.Walk
import Derived.Test.YtgdnhkdfcjpdiaaGreatDoorJad
set_option linter.unusedSimpArgs false
set_option linter.unusedVariables false
namespace Go.Proofs.YtgdnhkdfcjpdiaaGreatDoor
open Go.ChangeShapes Go.WideShapes Go.ChangeAt Go.RowKit
structure ElT (T e : TypeId) (sz : Nat) : Prop where
  und : Tryz.prog.underlying T = some (.slice e)
  inf : ∃ z b, (Tryz.prog.info? e).map (fun i => (i.zero, i.size, i.bytes)) = some (some z, sz, b) ∧ z.cells.size = sz ∧ b ≤ 128
  pos : 0 < sz
def New (B : Nat) (v : Value) : Prop := ∀ r, v.ownBlock = some r → B ≤ r
section
variable {ops : Array Oper} {rest : List Oper} {o : Oper} {a : Act} {w : World} {Q : Exit → Act → World → Prop} {T e : TypeId} {sz n m B : Nat} {xs : List Value} {v : Value}
theorem ro_base (h : w.ownsRow 0 e sz v n xs) (hN : New B v) : w.ownsRow B e sz v n xs := by
  rcases h.2 with ⟨e1, e2⟩ | ⟨g, cap, cur, e1, _, e3⟩
  · exact ⟨h.1, .inl ⟨e1, e2⟩⟩
  · exact ⟨h.1, .inr ⟨g, cap, cur, e1, hN g (by rw [e1]; rfl), e3⟩⟩
theorem ro_zero (h : w.ownsRow B e sz v n xs) : w.ownsRow 0 e sz v n xs := by
  rcases h.2 with ⟨e1, e2⟩ | ⟨g, cap, cur, e1, _, e3⟩
  · exact ⟨h.1, .inl ⟨e1, e2⟩⟩
  · exact ⟨h.1, .inr ⟨g, cap, cur, e1, Nat.zero_le _, e3⟩⟩
theorem ro_step {w' : World} {F : Nat → Prop} (h : w.ownsRow B e sz v n xs) (k : Stp F w w') (hF : ∀ r, v.ownBlock = some r → ¬ F r) : w'.ownsRow B e sz v n xs := by
  refine ⟨h.1, ?_⟩
  rcases h.2 with h2 | ⟨g', cap, cur, e2, e3, e4, e5⟩
  · exact .inl h2
  · exact .inr ⟨g', cap, cur, e2, e3, by rw [k.block g' (Array.getElem?_eq_some_iff.1 e4).1 (hF g' (by rw [e2]; rfl))]; exact e4, e5⟩
theorem ro_later {w' : World} (h : w.ownsRow B e sz v n xs) (k : Below w.heap.size w w') : w'.ownsRow B e sz v n xs := ro_step h (Stp.of_below k (fun _ => False)) (fun _ _ => id)
def Apd (w : World) (B : Nat) (e : TypeId) (sz : Nat) (v : Value) (n m : Nat) (xs : List Value) (v' : Value) (w' : World) : Prop :=
  w'.ownsRow 0 e sz v' (n + m) xs ∧ New B v' ∧ (v'.ownBlock = v.ownBlock ∨ (v'.ownBlock = some w.heap.size ∧ w.heap.size < w'.heap.size)) ∧ Stp (fun x => v.ownBlock = some x) w w' ∧ (v' = .slice none 0 0 ↔ v = .slice none 0 0 ∧ m = 0)
theorem apd_run (hE : ElT T e sz) (ty : TypeId) (h0 : w.ownsRow 0 e sz v n xs) (hN : New B v) (xa : Option Addr) (c : Nat) (news : List Value) (hl : news.length = m * sz) (hnil : xa = none → m = 0 ∧ c = 0) (hnews : ∀ ad, xa = some ad → ∀ j u, news[j]? = some u → w.cell? (ad.add j) = some u) (h1 : ∀ u ∈ news, u.oneCell' = true) (hbig : n + m ≤ 1000000) (hB : B ≤ w.heap.size) :
    ∃ v' w', (Builtin.append_ #[T, T] ty #[v, .slice xa m c]).run Tryz.prog w = .ok v' w' ∧ Apd w B e sz v n m (xs ++ news) v' w' := by
  obtain ⟨z, b, hi', hz, hb⟩ := hE.inf
  obtain ⟨i0, hi, hz0, hz1, hz2⟩ := info_parts hi'
  cases xa with
  | none =>
    obtain ⟨rfl, rfl⟩ := hnil rfl
    obtain rfl : news = [] := List.eq_nil_of_length_eq_zero (by rw [hl, Nat.zero_mul])
    have hrun := run_append_owned_none (P := Tryz.prog) (w := w) 0 T ty e i0 sz hE.und hi v n xs h0
    exact ⟨v, w, hrun, by simpa using h0, hN, .inl rfl, Stp.refl _ _, by simp⟩
  | some ad =>
    obtain ⟨v', w', hr, h2, h3, h4, h5⟩ := run_append_own_at (P := Tryz.prog) w B T ty e i0 z sz b hE.und hi hz0 hz1 hz2 hz hE.pos v n xs (ro_base h0 hN) ad m c news hl (hnews ad rfl) h1 (by unfold maxLen; omega) (Nat.le_trans (Nat.mul_le_mul hbig hb) (by omega)) hB
    have hlt := h2.lt
    refine ⟨v', w', hr, ro_zero h2, fun r hr => (hlt r hr).1, ?_, Stp.of_grown h3 (fun x e => .inl e), h4⟩
    rcases h5 with e5 | e5
    · exact .inl e5
    · exact .inr ⟨e5, (hlt _ e5).2⟩
theorem at_appR (hE : ElT T e sz) (B : Nat) (hgd : o.guard = none) (s x : Operand) (ho : o.op = .call { callee := .builtin .append, args := #[s, x], argTypes := #[T, T] }) (hs : a.eval s = v) (h0 : w.ownsRow 0 e sz v n xs) (hN : New B v) (xa : Option Addr) (c : Nat) (news : List Value) (hx : a.eval x = .slice xa m c) (hl : news.length = m * sz) (hnil : xa = none → m = 0 ∧ c = 0) (hnews : ∀ ad, xa = some ad → ∀ j u, news[j]? = some u → w.cell? (ad.add j) = some u) (h1 : ∀ u ∈ news, u.oneCell' = true) (hbig : n + m ≤ 1000000) (hB : B ≤ w.heap.size)
    (h : ∀ v' w', Apd w B e sz v n m (xs ++ news) v' w' → wpList Tryz.prog ops Q rest (a.put o.dst v') w') : wpList Tryz.prog ops Q (o :: rest) a w := by
  have hw : Region.wanted o (yielded ops a.tmps) = true := by simp [Region.wanted, hgd]
  obtain ⟨v', w', hr, hA⟩ := apd_run hE o.type h0 hN xa c news hl hnil hnews h1 hbig hB
  refine op_val hw v' w' ?_ (h v' w' hA)
  simp only [execOp, ho, resolve, invoke, builtin, Sem.run_bind, Sem.run_pure, Result.andThen_ok, List.map_toArray, List.map_cons, List.map_nil, hs, hx, hr]
theorem step_appR {K : Act → World → Prop} {R : Prop} (hE : ElT T e sz) (B : Nat) (hgd : o.guard = none) (s x : Operand) (ho : o.op = .call { callee := .builtin .append, args := #[s, x], argTypes := #[T, T] }) (hs : a.eval s = v) (h0 : w.ownsRow 0 e sz v n xs) (hN : New B v) (xa : Option Addr) (c : Nat) (news : List Value) (hx : a.eval x = .slice xa m c) (hl : news.length = m * sz) (hnil : xa = none → m = 0 ∧ c = 0) (hnews : ∀ ad, xa = some ad → ∀ j u, news[j]? = some u → w.cell? (ad.add j) = some u) (h1 : ∀ u ∈ news, u.oneCell' = true) (hbig : n + m ≤ 1000000) (hB : B ≤ w.heap.size)
    (h : ∀ v' w', Apd w B e sz v n m (xs ++ news) v' w' → K (a.put o.dst v') w') : if Region.wanted o (yielded ops a.tmps) = true then Oper.wp Tryz.prog o a w K Q else R := by
  have hw : Region.wanted o (yielded ops a.tmps) = true := by simp [Region.wanted, hgd]
  rw [if_pos hw]
  obtain ⟨v', w', hr, hA⟩ := apd_run hE o.type h0 hN xa c news hl hnil hnews h1 hbig hB
  unfold Oper.wp execOp
  simp only [ho, resolve, invoke, builtin, Sem.run_bind, Sem.run_pure, Result.andThen_ok, List.map_toArray, List.map_cons, List.map_nil, hs, hx, hr]
  exact h v' w' hA
end
theorem elB : ElT 105 5 1 := ⟨by kernel_rfl, ⟨.int .u8 0, 1, by kernel_rfl, rfl, by omega⟩, by omega⟩
theorem elI : ElT 34 3 1 := ⟨by kernel_rfl, ⟨.int .i64 0, 8, by kernel_rfl, rfl, by omega⟩, by omega⟩
structure Sv where
  a : Option Addr
  n : Nat
  c : Nat
abbrev Sv.v (s : Sv) : Value := .slice s.a s.n s.c
def Sv.nil : Sv := ⟨none, 0, 0⟩
def InE (E : Nat → Prop) (s : Sv) : Prop := ∀ ad : Addr, s.a = some ad → 0 < s.n → E ad.block
theorem InE.nil (E : Nat → Prop) : InE E Sv.nil := fun ad h => by cases h
theorem InE.mono {E E' : Nat → Prop} {s : Sv} (h : InE E s) (k : ∀ x, E x → E' x) : InE E' s := fun ad h1 h2 => k _ (h ad h1 h2)
abbrev BsS (w : World) (s : Sv) (l : List Int) : Prop := Bs w s.a s.n s.c l
structure InsS (w : World) (s : Sv) (l : List Int) : Prop where
  i : Ins w s.a s.n s.c l
  nl : s.a = none → s.c = 0
section
variable {w w' : World} {s : Sv} {l : List Int} {E F : Nat → Prop}
theorem BsS.step (h : BsS w s l) (k : Stp F w w') (he : InE E s) (hE : ∀ x, E x → ¬ F x) : BsS w' s l := by
  refine ⟨h.len, h.le, h.cap, h.nil, h.byte, fun hn => ?_⟩
  obtain ⟨b, o, e, hc⟩ := h.cell hn
  exact ⟨b, o, e, fun i hi => k.cell (hc i hi) (hE b (he ⟨b, o, none⟩ e hn))⟩
theorem InsS.step (h : InsS w s l) (k : Stp F w w') (he : InE E s) (hE : ∀ x, E x → ¬ F x) : InsS w' s l :=
  ⟨h.i.step k (fun x hn e => hE _ (he x e hn)), h.nl⟩
theorem InsS.later (h : InsS w s l) (k : Below w.heap.size w w') : InsS w' s l := h.step (E := fun _ => True) (Stp.of_below k (fun _ => False)) (fun _ _ _ => trivial) (fun _ _ => id)
theorem InsS.nil (w : World) : InsS w Sv.nil [] := ⟨Ins.nilSlice w, fun _ => rfl⟩
theorem bsS_nil (w : World) : BsS w Sv.nil [] := Bs.nilSlice w
theorem InsS.zero (h : InsS w s l) (e : s.a = none) : s.n = 0 ∧ s.c = 0 ∧ l = [] := by
  have h1 := h.nl e
  have h2 := h.i.le
  have h3 := h.i.len
  exact ⟨by omega, h1, List.eq_nil_of_length_eq_zero (by omega)⟩
theorem InsS.cells (h : InsS w s l) : ∀ ad, s.a = some ad → ∀ j u, (l.map (Value.int .i64))[j]? = some u → w.cell? (ad.add j) = some u := fun ad e j u hu => by
  have hj := (List.getElem?_eq_some_iff.1 hu).1
  rw [List.length_map] at hj
  have hl := h.i.len
  obtain ⟨b, o, e1, hc⟩ := h.i.cell (by omega)
  rw [e] at e1; injection e1 with e1; subst e1
  rw [Addr.add_lit, hc j (by omega), ← hu, List.getElem?_map, List.getElem?_eq_getElem hj, List.getD_eq_getElem?_getD, List.getElem?_eq_getElem hj]; rfl
theorem BsS.cells (h : BsS w s l) : ∀ ad, s.a = some ad → ∀ j u, (l.map (Value.int .u8))[j]? = some u → w.cell? (ad.add j) = some u := fun ad e j u hu => by
  have h' : Bs w (some ad) s.n s.c l := by rw [← e]; exact h
  exact h'.cells j u hu
theorem BsS.zero (h : BsS w s l) (e : s.a = none) : s.n = 0 ∧ s.c = 0 ∧ l = [] := by
  have h1 := h.nil e
  have h2 := h.le
  have h3 := h.len
  exact ⟨by omega, h1, List.eq_nil_of_length_eq_zero (by omega)⟩
end
theorem ro_bs {w : World} {v : Value} {l : List Int} {B : Nat} (h : w.ownsRow 0 5 1 v l.length (l.map (Value.int .u8))) (hl : ∀ x ∈ l, 0 ≤ x ∧ x ≤ 255) (hN : New B v) : ∃ s : Sv, v = s.v ∧ s.n = l.length ∧ BsS w s l ∧ InE (fun x => B ≤ x ∧ x < w.heap.size) s := by
  obtain ⟨a, c, rfl, hb⟩ := own_bs h hl
  exact ⟨⟨a, l.length, c⟩, rfl, rfl, hb, fun ad e hn => ⟨hN _ (by show Value.ownBlock (.slice a _ _) = _; rw [show a = some ad from e]; rfl), (h.lt _ (by show Value.ownBlock (.slice a _ _) = _; rw [show a = some ad from e]; rfl)).2⟩⟩
theorem ro_ins {w : World} {v : Value} {l : List Int} {B : Nat} (h : w.ownsRow 0 3 1 v l.length (l.map (Value.int .i64))) (hl : ∀ x ∈ l, wfi x) (hN : New B v) : ∃ s : Sv, v = s.v ∧ s.n = l.length ∧ InsS w s l ∧ InE (fun x => B ≤ x ∧ x < w.heap.size) s := by
  have hlt := h.lt
  rcases h.2 with ⟨rfl, h2⟩ | ⟨g, cap, cur, rfl, _, hg, hle, hm, hs, ht⟩
  · obtain rfl : l = [] := List.eq_nil_of_length_eq_zero h2
    exact ⟨Sv.nil, rfl, rfl, InsS.nil w, InE.nil _⟩
  · refine ⟨⟨some ⟨g, 0, none⟩, l.length, cap⟩, rfl, rfl, ⟨⟨rfl, hle, hm, hl, fun hn => ⟨g, 0, rfl, fun i hi => ?_⟩⟩, (fun e => by cases e)⟩, fun ad e hn => ⟨?_, ?_⟩⟩
    · rw [Nat.zero_add, cell_of_row w g i _ _ (0, 0) hg]
      have h1 : (cur.toList.take (l.length * 1))[i]? = (l.map (Value.int .i64))[i]? := by rw [ht]
      have hi' : i < l.length := hi
      rw [Nat.mul_one, List.getElem?_take, if_pos hi', List.getElem?_map, List.getElem?_eq_getElem hi'] at h1
      rw [List.getD_eq_getElem?_getD, List.getElem?_eq_getElem hi']
      simpa using h1
    · injection e with e; subst e; exact hN g rfl
    · injection e with e; subst e; exact (hlt g rfl).2
def Pt.cs (p : Pt) (d n : Sv) : List Value := [.int .i64 p.id, .int .i64 p.at', .int .i64 p.off, .slice d.a d.n d.c, .int .i64 p.kind, .slice n.a n.n n.c, .int .i64 p.own, .int .i64 p.child, .bool p.wr]
theorem Pt.cs_one (p : Pt) (d n : Sv) : ∀ v ∈ p.cs d n, v.oneCell' = true := by
  intro v hv; unfold Pt.cs at hv; simp at hv
  rcases hv with h | h | h | h | h | h | h | h | h <;> subst h <;> rfl
structure Pt.wfp (p : Pt) : Prop where
  i : wfi p.id
  s : wfi p.at'
  o : wfi p.off
  k : wfi p.kind
  w : wfi p.own
  c : wfi p.child
structure PtM (w : World) (E : Nat → Prop) (p : Pt) (d n : Sv) : Prop where
  bs : BsS w d p.data
  is : InsS w n p.needs
  ed : InE E d
  en : InE E n
section
variable {w w' : World} {E E' F : Nat → Prop} {p : Pt} {d n : Sv}
theorem PtM.step (h : PtM w E p d n) (k : Stp F w w') (hE : ∀ x, E x → ¬ F x) : PtM w' E p d n := ⟨h.bs.step k h.ed hE, h.is.step k h.en hE, h.ed, h.en⟩
theorem PtM.later (h : PtM w E p d n) (k : Below w.heap.size w w') : PtM w' E p d n := h.step (Stp.of_below k (fun _ => False)) (fun _ _ => id)
theorem PtM.mono (h : PtM w E p d n) (k : ∀ x, E x → E' x) : PtM w E' p d n := ⟨h.bs, h.is, h.ed.mono k, h.en.mono k⟩
theorem PtM.zero (w : World) (E : Nat → Prop) : PtM w E Pt.zero Sv.nil Sv.nil := ⟨bsS_nil w, InsS.nil w, InE.nil _, InE.nil _⟩
theorem PtM.other {p' : Pt} (h : PtM w E p d n) (h1 : p'.data = p.data) (h2 : p'.needs = p.needs) : PtM w E p' d n := ⟨by rw [h1]; exact h.bs, by rw [h2]; exact h.is, h.ed, h.en⟩
end
theorem srtP : Srt 112 9 (Pt.zero.cs Sv.nil Sv.nil) :=
  ⟨⟨_, Tryz.underlying112, rfl⟩, by kernel_rfl, fun w => (zero_of_info (v := .agg (Pt.zero.cs Sv.nil Sv.nil).toArray) (n := 9) (by kernel_rfl)).1 w, rfl, Pt.cs_one _ _ _⟩
theorem elP : ElT 151 112 9 := ⟨by kernel_rfl, ⟨.agg (Pt.zero.cs Sv.nil Sv.nil).toArray, 104, by kernel_rfl, rfl, by omega⟩, by omega⟩
section
variable {ops : Array Oper} {rest : List Oper} {o : Oper} {a : Act} {w : World} {Q : Exit → Act → World → Prop}
theorem at_boxP (hw : Region.wanted o (yielded ops a.tmps) = true) (y : Operand) (ho : o.op = .box 112 y) (p : Pt) (d n : Sv) (hx : a.eval y = .agg (p.cs d n).toArray)
    (h : ∀ g w', w.heap.size ≤ g → g < w'.heap.size → Cs w' g (p.cs d n) → Below w.heap.size w w' → wpList Tryz.prog ops Q rest (a.put o.dst (.pointer (some ⟨g, 0, none⟩))) w') : wpList Tryz.prog ops Q (o :: rest) a w :=
  at_boxC 112 hw y ho (p.cs d n) hx (p.cs_one d n) h
theorem at_newP (hw : Region.wanted o (yielded ops a.tmps) = true) (ho : o.op = .alloc 112)
    (h : ∀ g w', w.heap.size ≤ g → g < w'.heap.size → Cs w' g (Pt.zero.cs Sv.nil Sv.nil) → Below w.heap.size w w' → wpList Tryz.prog ops Q rest (a.put o.dst (.pointer (some ⟨g, 0, none⟩))) w') : wpList Tryz.prog ops Q (o :: rest) a w :=
  at_newC 112 9 _ srtP hw ho h
theorem at_getP0 (hw : Region.wanted o (yielded ops a.tmps) = true) (y : Operand) (ho : o.op = .load 112 y) (g : Nat) (hx : a.eval y = .pointer (some ⟨g, 0, none⟩)) (p : Pt) (d n : Sv) (hR : Cs w g (p.cs d n))
    (h : wpList Tryz.prog ops Q rest (a.put o.dst (.agg (p.cs d n).toArray)) w) : wpList Tryz.prog ops Q (o :: rest) a w :=
  at_getC 112 9 _ srtP hw y ho g hx (p.cs d n) hR rfl h
theorem at_putP (hw : Region.wanted o (yielded ops a.tmps) = true) (y z : Operand) (ho : o.op = .store 112 y z) (g : Nat) (hx : a.eval y = .pointer (some ⟨g, 0, none⟩)) (p : Pt) (d n : Sv) (hy : a.eval z = .agg (p.cs d n).toArray) (cs : List Value) (hR : Cs w g cs) (hl : cs.length = 9)
    (h : ∀ w', Cs w' g (p.cs d n) → Stp (fun x => x = g) w w' → wpList Tryz.prog ops Q rest (a.put o.dst undef) w') : wpList Tryz.prog ops Q (o :: rest) a w :=
  at_putC 112 9 _ srtP hw y z ho g hx (p.cs d n) hy rfl (p.cs_one d n) cs hR hl h
end
section
variable {ops : Array Oper} {o : Oper} {a : Act} {w : World} {S : World → Prop}
theorem yields_P (hw : Region.wanted o (yielded ops a.tmps) = true) (y : Operand) (ho : o.op = .load 112 y) (g : Nat) (hx : a.eval y = .pointer (some ⟨g, 0, none⟩)) (p : Pt) (d n : Sv) (hS : ∀ w, S w → Cs w g (p.cs d n)) :
    YieldsIf Tryz.prog ops S o (.agg (p.cs d n).toArray) a :=
  yields_C 112 9 _ srtP hw y ho g hx (p.cs d n) rfl hS
end
section
variable {w : World} {g : Nat} {p : Pt} {d n : Sv}
theorem Pt.cells (h : Cs w g (p.cs d n)) : w.cell? ⟨g, 0, none⟩ = some (.int .i64 p.id) ∧ w.cell? ⟨g, 1, none⟩ = some (.int .i64 p.at') ∧ w.cell? ⟨g, 2, none⟩ = some (.int .i64 p.off) ∧ w.cell? ⟨g, 3, none⟩ = some (.slice d.a d.n d.c) ∧ w.cell? ⟨g, 4, none⟩ = some (.int .i64 p.kind) ∧ w.cell? ⟨g, 5, none⟩ = some (.slice n.a n.n n.c) ∧ w.cell? ⟨g, 6, none⟩ = some (.int .i64 p.own) ∧ w.cell? ⟨g, 7, none⟩ = some (.int .i64 p.child) ∧ w.cell? ⟨g, 8, none⟩ = some (.bool p.wr) :=
  ⟨h.cell 0 _ rfl, h.cell 1 _ rfl, h.cell 2 _ rfl, h.cell 3 _ rfl, h.cell 4 _ rfl, h.cell 5 _ rfl, h.cell 6 _ rfl, h.cell 7 _ rfl, h.cell 8 _ rfl⟩
end
set_option maxRecDepth 100000 in
set_option maxHeartbeats 2000000 in
theorem fits_any (p : Pt) (d n : Sv) (w : World) (hp : p.wfp) (hd : d.n = p.data.length) (hb : p.data.length ≤ 1000000) :
    Calls Tryz.prog 94 #[.agg (p.cs d n).toArray] w fun e w' => e = .returned (.bool (fit p)) ∧ Below w.heap.size w w' := by
  have h1 := wfi_to hp.s
  have h2 := wfi_to hp.o
  have h3 := wfi_to hp.k
  have hl : (0 : Int) ≤ (d.n : Int) := by omega
  have hl2 : (d.n : Int) ≤ 1000000 := by omega
  have hE : Hid (fit p = (decide (0 ≤ p.at') && decide (p.at' < 2048) && decide (0 ≤ p.kind) && decide (p.kind ≤ 6) && decide (0 < (d.n : Int)) && decide (0 ≤ p.off) && decide (p.off ≤ (if p.kind = 0 then 64 else 54) - (d.n : Int)))) := by
    show _ = _; unfold fit; rw [hd]
  clear hd hb hp
  have tok : True := trivial
  go_enter Tryz.func94, Tryz.ntmps94
  go_wp2_with (first
    | (clear tok; refine at_boxP (by rfl) _ (by rfl) p d n (by rfl) ?_; intro g1 w1 a1 a2 r1 b1; obtain ⟨c0, c1, c2, c3, c4, c5, c6, c7, c8⟩ := Pt.cells r1; clear c0 c5 c6 c7 c8))
  all_goals
    go_returns
    refine ⟨ret_bool ?_, b1⟩
    rw [hE.out]
    clear hE c1 c2 c3 c4 r1 b1
    simp_all
    try omega
set_option maxRecDepth 100000 in
set_option maxHeartbeats 2000000 in
theorem clone_b {w : World} {s : Sv} {l : List Int} (h : BsS w s l) (hl : l.length ≤ 100000) :
    Calls Tryz.prog 124 #[.slice s.a s.n s.c] w fun e w' => ∃ s' : Sv, e = .returned (.slice s'.a s'.n s'.c) ∧ BsS w' s' l ∧ InE (fun x => w.heap.size ≤ x ∧ x < w'.heap.size) s' ∧ Below w.heap.size w w' := by
  have hlen : l.length = s.n := h.len
  have hcs := h.cells
  have qnB : ∀ (w : World) (a : Option Addr) (n c n' c' : Nat), (binOp .eql 105 (.slice a n c) (.slice none n' c')).run Tryz.prog w = .ok (.bool a.isNone) w := fun w a n c n' c' => Lib.run_eql_slice_nil w _ _ a n c n' c' elB.und
  have qnI : ∀ (w : World) (a : Option Addr) (n c n' c' : Nat), (binOp .eql 34 (.slice a n c) (.slice none n' c')).run Tryz.prog w = .ok (.bool a.isNone) w := fun w a n c n' c' => Lib.run_eql_slice_nil w _ _ a n c n' c' elI.und
  have hz := h.zero
  have hby := h.byte
  obtain ⟨sa, sn, sc⟩ := s
  simp only at hlen hcs hz ⊢
  subst hlen
  have fin : ∀ v' w', Apd (w.alloc (.cells #[] 5)) w.heap.size 5 1 (.slice (some ⟨w.heap.size, 0, none⟩) 0 0) 0 l.length ([] ++ l.map (Value.int .u8)) v' w' →
      ∃ s' : Sv, Ending.returned v' = .returned (.slice s'.a s'.n s'.c) ∧ BsS w' s' l ∧ InE (fun x => w.heap.size ≤ x ∧ x < w'.heap.size) s' ∧ Below w.heap.size w w' := by
    intro v' w' hA
    obtain ⟨h1, h2, h3, h4, h5⟩ := hA
    rw [Nat.zero_add, List.nil_append] at h1
    obtain ⟨s', rfl, e2, e3, e4⟩ := ro_bs h1 hby h2
    refine ⟨s', rfl, e3, e4, ?_⟩
    have k0 : Stp (fun _ => False) w (w.alloc (.cells #[] 5)) := Stp.of_alloc _ _ _
    exact (k0.next h4 (F' := fun x => some w.heap.size = some x) (fun x e => .inr (by injection e with e; omega))).below (Nat.le_refl _) (fun x e => e.elim)
  have q0 : (w.alloc (.cells #[] 5)).ownsRow 0 5 1 (.slice (some ⟨w.heap.size, 0, none⟩) 0 0) 0 [] := World.ownsRow_made w #[] 0 (Nat.zero_le _) (Nat.zero_le _) rfl
  have hN : New w.heap.size (.slice (some ⟨w.heap.size, 0, none⟩) 0 0) := fun r e => by
    have : w.heap.size = r := by simpa [Value.ownBlock] using e
    omega
  have hcs' : ∀ ad, sa = some ad → ∀ j u, (l.map (Value.int .u8))[j]? = some u → (w.alloc (.cells #[] 5)).cell? (ad.add j) = some u := fun ad e j u hu => by
    have := hcs ad e j u hu
    rw [((Below.refl _ w).alloc (Nat.le_refl _) (.cells #[] 5)).cell (World.block_lt_of_cell? w _ this)]; exact this
  cases sa with
  | none =>
    obtain ⟨z1, z2, rfl⟩ := hz rfl
    subst z2
    simp only [List.length_nil] at fin hcs' ⊢
    go_enter Tryz.func124, Tryz.ntmps124
    go_wp2
    go_returns
    exact ⟨Sv.nil, rfl, bsS_nil w, InE.nil _, Below.refl _ _⟩
  | some ad =>
    go_enter Tryz.func124, Tryz.ntmps124
    go_wp2_with (first
      | (refine at_appR elB w.heap.size rfl _ _ (by rfl) (by rfl) q0 hN (some ad) sc (l.map (Value.int .u8)) (by rfl) (by simp) (fun e => by cases e) hcs' (fun u hu => by obtain ⟨x, _, rfl⟩ := List.mem_map.1 hu; rfl) (by omega) (by simp) ?_; intro v' w' hA; obtain ⟨s', e1, e2⟩ := fin v' w' hA; injection e1 with e1; subst e1))
    go_returns
    exact ⟨s', rfl, e2⟩
set_option maxRecDepth 100000 in
set_option maxHeartbeats 2000000 in
theorem clone_i {w : World} {s : Sv} {l : List Int} (h : InsS w s l) (hl : l.length ≤ 100000) :
    Calls Tryz.prog 125 #[.slice s.a s.n s.c] w fun e w' => ∃ s' : Sv, e = .returned (.slice s'.a s'.n s'.c) ∧ InsS w' s' l ∧ InE (fun x => w.heap.size ≤ x ∧ x < w'.heap.size) s' ∧ Below w.heap.size w w' := by
  have hlen : l.length = s.n := h.i.len
  have hcs := h.cells
  have qnB : ∀ (w : World) (a : Option Addr) (n c n' c' : Nat), (binOp .eql 105 (.slice a n c) (.slice none n' c')).run Tryz.prog w = .ok (.bool a.isNone) w := fun w a n c n' c' => Lib.run_eql_slice_nil w _ _ a n c n' c' elB.und
  have qnI : ∀ (w : World) (a : Option Addr) (n c n' c' : Nat), (binOp .eql 34 (.slice a n c) (.slice none n' c')).run Tryz.prog w = .ok (.bool a.isNone) w := fun w a n c n' c' => Lib.run_eql_slice_nil w _ _ a n c n' c' elI.und
  have hz := h.zero
  have hby := h.i.wf
  obtain ⟨sa, sn, sc⟩ := s
  simp only at hlen hcs hz ⊢
  subst hlen
  have fin : ∀ v' w', Apd (w.alloc (.cells #[] 3)) w.heap.size 3 1 (.slice (some ⟨w.heap.size, 0, none⟩) 0 0) 0 l.length ([] ++ l.map (Value.int .i64)) v' w' →
      ∃ s' : Sv, Ending.returned v' = .returned (.slice s'.a s'.n s'.c) ∧ InsS w' s' l ∧ InE (fun x => w.heap.size ≤ x ∧ x < w'.heap.size) s' ∧ Below w.heap.size w w' := by
    intro v' w' hA
    obtain ⟨h1, h2, h3, h4, h5⟩ := hA
    rw [Nat.zero_add, List.nil_append] at h1
    obtain ⟨s', rfl, e2, e3, e4⟩ := ro_ins h1 hby h2
    refine ⟨s', rfl, e3, e4, ?_⟩
    have k0 : Stp (fun _ => False) w (w.alloc (.cells #[] 3)) := Stp.of_alloc _ _ _
    exact (k0.next h4 (F' := fun x => some w.heap.size = some x) (fun x e => .inr (by injection e with e; omega))).below (Nat.le_refl _) (fun x e => e.elim)
  have q0 : (w.alloc (.cells #[] 3)).ownsRow 0 3 1 (.slice (some ⟨w.heap.size, 0, none⟩) 0 0) 0 [] := World.ownsRow_made w #[] 0 (Nat.zero_le _) (Nat.zero_le _) rfl
  have hN : New w.heap.size (.slice (some ⟨w.heap.size, 0, none⟩) 0 0) := fun r e => by
    have : w.heap.size = r := by simpa [Value.ownBlock] using e
    omega
  have hcs' : ∀ ad, sa = some ad → ∀ j u, (l.map (Value.int .i64))[j]? = some u → (w.alloc (.cells #[] 3)).cell? (ad.add j) = some u := fun ad e j u hu => by
    have := hcs ad e j u hu
    rw [((Below.refl _ w).alloc (Nat.le_refl _) (.cells #[] 3)).cell (World.block_lt_of_cell? w _ this)]; exact this
  cases sa with
  | none =>
    obtain ⟨z1, z2, rfl⟩ := hz rfl
    subst z2
    simp only [List.length_nil] at fin hcs' ⊢
    go_enter Tryz.func125, Tryz.ntmps125
    go_wp2
    go_returns
    exact ⟨Sv.nil, rfl, InsS.nil w, InE.nil _, Below.refl _ _⟩
  | some ad =>
    go_enter Tryz.func125, Tryz.ntmps125
    go_wp2_with (first
      | (refine at_appR elI w.heap.size rfl _ _ (by rfl) (by rfl) q0 hN (some ad) sc (l.map (Value.int .i64)) (by rfl) (by simp) (fun e => by cases e) hcs' (fun u hu => by obtain ⟨x, _, rfl⟩ := List.mem_map.1 hu; rfl) (by omega) (by simp) ?_; intro v' w' hA; obtain ⟨s', e1, e2⟩ := fin v' w' hA; injection e1 with e1; subst e1))
    go_returns
    exact ⟨s', rfl, e2⟩
end Go.Proofs.YtgdnhkdfcjpdiaaGreatDoor
