/-
  Rows of one's own, slices of bytes and of ints, and patches in memory: no statement is proved here.
-/
import Derived.Test.YtddglkejegmmmaaGrB
import Derived.Laws.AppendOwnNone
namespace Go.Proofs.Ytddglkejegmmmaa
open Go.ChangeShapes Go.WideShapes Go.ChangeAt Go.RowKit
set_option linter.unusedVariables false
set_option linter.unusedSimpArgs false

/-- The slice type T has elements of type e, of so many cells. -/
structure ElT (T e : TypeId) (sz : Nat) : Prop where
  und : Try.prog.underlying T = some (.slice e)
  inf : ∃ z b, (Try.prog.info? e).map (fun i => (i.zero, i.size, i.bytes)) = some (some z, sz, b) ∧ z.cells.size = sz ∧ b ≤ 128
  pos : 0 < sz
/-- It lies behind B. -/
def New (B : Nat) (v : Value) : Prop := ∀ r, v.ownBlock = some r → B ≤ r
section
variable {ops : Array Oper} {rest : List Oper} {o : Oper} {a : Act} {w : World} {Q : Exit → Act → World → Prop} {T e : TypeId} {sz n m B : Nat} {xs : List Value} {v : Value}
theorem ro_base (h : w.ownsRow 0 e sz v n xs) (hN : New B v) : w.ownsRow B e sz v n xs := by
  rcases h.2 with ⟨e1, e2⟩ | ⟨g, cap, cur, e1, _, e3⟩
  · exact ⟨h.1, .inl ⟨e1, e2⟩⟩
  · exact ⟨h.1, .inr ⟨g, cap, cur, e1, hN g (by rw [e1]; rfl), e3⟩⟩
theorem ro_zero (h : w.ownsRow B e sz v n xs) : w.ownsRow 0 e sz v n xs := by
  rcases h.2 with ⟨e1, e2⟩ | ⟨g, cap, cur, e1, _, e3⟩
  · exact ⟨h.1, .inl ⟨e1, e2⟩⟩
  · exact ⟨h.1, .inr ⟨g, cap, cur, e1, Nat.zero_le _, e3⟩⟩
theorem ro_step {w' : World} {F : Nat → Prop} (h : w.ownsRow B e sz v n xs) (k : Stp F w w') (hF : ∀ r, v.ownBlock = some r → ¬ F r) : w'.ownsRow B e sz v n xs := by
  refine ⟨h.1, ?_⟩
  rcases h.2 with h2 | ⟨g', cap, cur, e2, e3, e4, e5⟩
  · exact .inl h2
  · exact .inr ⟨g', cap, cur, e2, e3, by rw [k.block g' (Array.getElem?_eq_some_iff.1 e4).1 (hF g' (by rw [e2]; rfl))]; exact e4, e5⟩
theorem ro_later {w' : World} (h : w.ownsRow B e sz v n xs) (k : Below w.heap.size w w') : w'.ownsRow B e sz v n xs := ro_step h (Stp.of_below k (fun _ => False)) (fun _ _ => id)
/-- What append of a slice of n cells leaves. -/
def Apd (w : World) (B : Nat) (e : TypeId) (sz : Nat) (v : Value) (n m : Nat) (xs : List Value) (v' : Value) (w' : World) : Prop :=
  w'.ownsRow 0 e sz v' (n + m) xs ∧ New B v' ∧ (v'.ownBlock = v.ownBlock ∨ (v'.ownBlock = some w.heap.size ∧ w.heap.size < w'.heap.size)) ∧ Stp (fun x => v.ownBlock = some x) w w' ∧ (v' = .slice none 0 0 ↔ v = .slice none 0 0 ∧ m = 0)
theorem apd_run (hE : ElT T e sz) (ty : TypeId) (h0 : w.ownsRow 0 e sz v n xs) (hN : New B v) (xa : Option Addr) (c : Nat) (news : List Value) (hl : news.length = m * sz) (hnil : xa = none → m = 0 ∧ c = 0) (hnews : ∀ ad, xa = some ad → ∀ j u, news[j]? = some u → w.cell? (ad.add j) = some u) (h1 : ∀ u ∈ news, u.oneCell' = true) (hbig : n + m ≤ 1000000) (hB : B ≤ w.heap.size) :
    ∃ v' w', (Builtin.append_ #[T, T] ty #[v, .slice xa m c]).run Try.prog w = .ok v' w' ∧ Apd w B e sz v n m (xs ++ news) v' w' := by
  obtain ⟨z, b, hi', hz, hb⟩ := hE.inf
  obtain ⟨i0, hi, hz0, hz1, hz2⟩ := info_parts hi'
  cases xa with
  | none =>
    obtain ⟨rfl, rfl⟩ := hnil rfl
    obtain rfl : news = [] := List.eq_nil_of_length_eq_zero (by rw [hl, Nat.zero_mul])
    have hrun := run_append_owned_none (P := Try.prog) (w := w) 0 T ty e i0 sz hE.und hi v n xs h0
    exact ⟨v, w, hrun, by simpa using h0, hN, .inl rfl, Stp.refl _ _, by simp⟩
  | some ad =>
    obtain ⟨v', w', hr, h2, h3, h4, h5⟩ := run_append_own_at (P := Try.prog) w B T ty e i0 z sz b hE.und hi hz0 hz1 hz2 hz hE.pos v n xs (ro_base h0 hN) ad m c news hl (hnews ad rfl) h1 (by unfold maxLen; omega) (Nat.le_trans (Nat.mul_le_mul hbig hb) (by omega)) hB
    have hlt := h2.lt
    refine ⟨v', w', hr, ro_zero h2, fun r hr => (hlt r hr).1, ?_, Stp.of_grown h3 (fun x e => .inl e), h4⟩
    rcases h5 with e5 | e5
    · exact .inl e5
    · exact .inr ⟨e5, (hlt _ e5).2⟩
theorem at_appR (hE : ElT T e sz) (B : Nat) (hgd : o.guard = none) (s x : Operand) (ho : o.op = .call { callee := .builtin .append, args := #[s, x], argTypes := #[T, T] }) (hs : a.eval s = v) (h0 : w.ownsRow 0 e sz v n xs) (hN : New B v) (xa : Option Addr) (c : Nat) (news : List Value) (hx : a.eval x = .slice xa m c) (hl : news.length = m * sz) (hnil : xa = none → m = 0 ∧ c = 0) (hnews : ∀ ad, xa = some ad → ∀ j u, news[j]? = some u → w.cell? (ad.add j) = some u) (h1 : ∀ u ∈ news, u.oneCell' = true) (hbig : n + m ≤ 1000000) (hB : B ≤ w.heap.size)
    (h : ∀ v' w', Apd w B e sz v n m (xs ++ news) v' w' → wpList Try.prog ops Q rest (a.put o.dst v') w') : wpList Try.prog ops Q (o :: rest) a w := by
  have hw : Region.wanted o (yielded ops a.tmps) = true := by simp [Region.wanted, hgd]
  obtain ⟨v', w', hr, hA⟩ := apd_run hE o.type h0 hN xa c news hl hnil hnews h1 hbig hB
  refine op_val hw v' w' ?_ (h v' w' hA)
  simp only [execOp, ho, resolve, invoke, builtin, Sem.run_bind, Sem.run_pure, Result.andThen_ok, List.map_toArray, List.map_cons, List.map_nil, hs, hx, hr]
theorem step_appR {K : Act → World → Prop} {R : Prop} (hE : ElT T e sz) (B : Nat) (hgd : o.guard = none) (s x : Operand) (ho : o.op = .call { callee := .builtin .append, args := #[s, x], argTypes := #[T, T] }) (hs : a.eval s = v) (h0 : w.ownsRow 0 e sz v n xs) (hN : New B v) (xa : Option Addr) (c : Nat) (news : List Value) (hx : a.eval x = .slice xa m c) (hl : news.length = m * sz) (hnil : xa = none → m = 0 ∧ c = 0) (hnews : ∀ ad, xa = some ad → ∀ j u, news[j]? = some u → w.cell? (ad.add j) = some u) (h1 : ∀ u ∈ news, u.oneCell' = true) (hbig : n + m ≤ 1000000) (hB : B ≤ w.heap.size)
    (h : ∀ v' w', Apd w B e sz v n m (xs ++ news) v' w' → K (a.put o.dst v') w') : if Region.wanted o (yielded ops a.tmps) = true then Oper.wp Try.prog o a w K Q else R := by
  have hw : Region.wanted o (yielded ops a.tmps) = true := by simp [Region.wanted, hgd]
  rw [if_pos hw]
  obtain ⟨v', w', hr, hA⟩ := apd_run hE o.type h0 hN xa c news hl hnil hnews h1 hbig hB
  unfold Oper.wp execOp
  simp only [ho, resolve, invoke, builtin, Sem.run_bind, Sem.run_pure, Result.andThen_ok, List.map_toArray, List.map_cons, List.map_nil, hs, hx, hr]
  exact h v' w' hA
end
theorem elI : ElT 43 3 1 := ⟨by kernel_rfl, ⟨.int .i64 0, 8, by kernel_rfl, rfl, by omega⟩, by omega⟩

/-- A slice's head. -/
structure Sv where
  a : Option Addr
  n : Nat
  c : Nat
abbrev Sv.v (s : Sv) : Value := .slice s.a s.n s.c
def Sv.nil : Sv := ⟨none, 0, 0⟩
/-- What it holds lies in E. -/
def InE (E : Nat → Prop) (s : Sv) : Prop := ∀ ad : Addr, s.a = some ad → 0 < s.n → E ad.block
theorem InE.nil (E : Nat → Prop) : InE E Sv.nil := fun ad h => by cases h
theorem InE.mono {E E' : Nat → Prop} {s : Sv} (h : InE E s) (k : ∀ x, E x → E' x) : InE E' s := fun ad h1 h2 => k _ (h ad h1 h2)
/-- A slice that reads as the bytes l; as the ints l. -/
abbrev BsS (w : World) (s : Sv) (l : List Int) : Prop := Bs w s.a s.n s.c l
structure InsS (w : World) (s : Sv) (l : List Int) : Prop where
  i : Ins w s.a s.n s.c l
  nl : s.a = none → s.c = 0
section
variable {w w' : World} {s : Sv} {l : List Int} {E F : Nat → Prop}
theorem BsS.step (h : BsS w s l) (k : Stp F w w') (he : InE E s) (hE : ∀ x, E x → ¬ F x) : BsS w' s l := by
  refine ⟨h.len, h.le, h.cap, h.nil, h.byte, fun hn => ?_⟩
  obtain ⟨b, o, e, hc⟩ := h.cell hn
  exact ⟨b, o, e, fun i hi => k.cell (hc i hi) (hE b (he ⟨b, o, none⟩ e hn))⟩
theorem InsS.step (h : InsS w s l) (k : Stp F w w') (he : InE E s) (hE : ∀ x, E x → ¬ F x) : InsS w' s l :=
  ⟨h.i.step k (fun x hn e => hE _ (he x e hn)), h.nl⟩
theorem InsS.later (h : InsS w s l) (k : Below w.heap.size w w') : InsS w' s l := h.step (E := fun _ => True) (Stp.of_below k (fun _ => False)) (fun _ _ _ => trivial) (fun _ _ => id)
theorem InsS.nil (w : World) : InsS w Sv.nil [] := ⟨Ins.nilSlice w, fun _ => rfl⟩
theorem bsS_nil (w : World) : BsS w Sv.nil [] := Bs.nilSlice w
theorem InsS.zero (h : InsS w s l) (e : s.a = none) : s.n = 0 ∧ s.c = 0 ∧ l = [] := by
  have h1 := h.nl e
  have h2 := h.i.le
  have h3 := h.i.len
  exact ⟨by omega, h1, List.eq_nil_of_length_eq_zero (by omega)⟩
theorem InsS.cells (h : InsS w s l) : ∀ ad, s.a = some ad → ∀ j u, (l.map (Value.int .i64))[j]? = some u → w.cell? (ad.add j) = some u := fun ad e j u hu => by
  have hj := (List.getElem?_eq_some_iff.1 hu).1
  rw [List.length_map] at hj
  have hl := h.i.len
  obtain ⟨b, o, e1, hc⟩ := h.i.cell (by omega)
  rw [e] at e1; injection e1 with e1; subst e1
  rw [Addr.add_lit, hc j (by omega), ← hu, List.getElem?_map, List.getElem?_eq_getElem hj, List.getD_eq_getElem?_getD, List.getElem?_eq_getElem hj]; rfl
theorem BsS.cells (h : BsS w s l) : ∀ ad, s.a = some ad → ∀ j u, (l.map (Value.int .u8))[j]? = some u → w.cell? (ad.add j) = some u := fun ad e j u hu => by
  have h' : Bs w (some ad) s.n s.c l := by rw [← e]; exact h
  exact h'.cells j u hu
theorem BsS.zero (h : BsS w s l) (e : s.a = none) : s.n = 0 ∧ s.c = 0 ∧ l = [] := by
  have h1 := h.nil e
  have h2 := h.le
  have h3 := h.len
  exact ⟨by omega, h1, List.eq_nil_of_length_eq_zero (by omega)⟩
end
/-- A row of one's own, as a slice that reads so. -/
theorem ro_bs {w : World} {v : Value} {l : List Int} {B : Nat} (h : w.ownsRow 0 5 1 v l.length (l.map (Value.int .u8))) (hl : ∀ x ∈ l, 0 ≤ x ∧ x ≤ 255) (hN : New B v) : ∃ s : Sv, v = s.v ∧ s.n = l.length ∧ BsS w s l ∧ InE (fun x => B ≤ x ∧ x < w.heap.size) s := by
  obtain ⟨a, c, rfl, hb⟩ := own_bs h hl
  exact ⟨⟨a, l.length, c⟩, rfl, rfl, hb, fun ad e hn => ⟨hN _ (by show Value.ownBlock (.slice a _ _) = _; rw [show a = some ad from e]; rfl), (h.lt _ (by show Value.ownBlock (.slice a _ _) = _; rw [show a = some ad from e]; rfl)).2⟩⟩
theorem ro_ins {w : World} {v : Value} {l : List Int} {B : Nat} (h : w.ownsRow 0 3 1 v l.length (l.map (Value.int .i64))) (hl : ∀ x ∈ l, wfi x) (hN : New B v) : ∃ s : Sv, v = s.v ∧ s.n = l.length ∧ InsS w s l ∧ InE (fun x => B ≤ x ∧ x < w.heap.size) s := by
  have hlt := h.lt
  rcases h.2 with ⟨rfl, h2⟩ | ⟨g, cap, cur, rfl, _, hg, hle, hm, hs, ht⟩
  · obtain rfl : l = [] := List.eq_nil_of_length_eq_zero h2
    exact ⟨Sv.nil, rfl, rfl, InsS.nil w, InE.nil _⟩
  · refine ⟨⟨some ⟨g, 0, none⟩, l.length, cap⟩, rfl, rfl, ⟨⟨rfl, hle, hm, hl, fun hn => ⟨g, 0, rfl, fun i hi => ?_⟩⟩, (fun e => by cases e)⟩, fun ad e hn => ⟨?_, ?_⟩⟩
    · rw [Nat.zero_add, cell_of_row w g i _ _ (0, 0) hg]
      have h1 : (cur.toList.take (l.length * 1))[i]? = (l.map (Value.int .i64))[i]? := by rw [ht]
      have hi' : i < l.length := hi
      rw [Nat.mul_one, List.getElem?_take, if_pos hi', List.getElem?_map, List.getElem?_eq_getElem hi'] at h1
      rw [List.getD_eq_getElem?_getD, List.getElem?_eq_getElem hi']
      simpa using h1
    · injection e with e; subst e; exact hN g rfl
    · injection e with e; subst e; exact (hlt g rfl).2
/-- A patch's cells. -/
def Pt.cs (p : Pt) (d n : Sv) : List Value := [.int .i64 p.id, .int .i64 p.at', .int .i64 p.off, .slice d.a d.n d.c, .int .i64 p.kind, .slice n.a n.n n.c, .int .i64 p.own, .int .i64 p.child, .bool p.wr]
theorem Pt.cs_one (p : Pt) (d n : Sv) : ∀ v ∈ p.cs d n, v.oneCell' = true := by
  intro v hv; unfold Pt.cs at hv; simp at hv
  rcases hv with h | h | h | h | h | h | h | h | h <;> subst h <;> rfl
/-- Its numbers are such as a machine has. -/
structure Pt.wfp (p : Pt) : Prop where
  i : wfi p.id
  s : wfi p.at'
  o : wfi p.off
  k : wfi p.kind
  w : wfi p.own
  c : wfi p.child
/-- What it holds lies in E. -/
structure PtM (w : World) (E : Nat → Prop) (p : Pt) (d n : Sv) : Prop where
  bs : BsS w d p.data
  is : InsS w n p.needs
  ed : InE E d
  en : InE E n
section
variable {w w' : World} {E E' F : Nat → Prop} {p : Pt} {d n : Sv}
theorem PtM.step (h : PtM w E p d n) (k : Stp F w w') (hE : ∀ x, E x → ¬ F x) : PtM w' E p d n := ⟨h.bs.step k h.ed hE, h.is.step k h.en hE, h.ed, h.en⟩
theorem PtM.later (h : PtM w E p d n) (k : Below w.heap.size w w') : PtM w' E p d n := h.step (Stp.of_below k (fun _ => False)) (fun _ _ => id)
theorem PtM.mono (h : PtM w E p d n) (k : ∀ x, E x → E' x) : PtM w E' p d n := ⟨h.bs, h.is, h.ed.mono k, h.en.mono k⟩
theorem PtM.zero (w : World) (E : Nat → Prop) : PtM w E Pt.zero Sv.nil Sv.nil := ⟨bsS_nil w, InsS.nil w, InE.nil _, InE.nil _⟩
/-- Other numbers, the same slices. -/
theorem PtM.other {p' : Pt} (h : PtM w E p d n) (h1 : p'.data = p.data) (h2 : p'.needs = p.needs) : PtM w E p' d n := ⟨by rw [h1]; exact h.bs, by rw [h2]; exact h.is, h.ed, h.en⟩
end
section
variable {ops : Array Oper} {rest : List Oper} {o : Oper} {a : Act} {w : World} {Q : Exit → Act → World → Prop}
end
section
variable {ops : Array Oper} {o : Oper} {a : Act} {w : World} {S : World → Prop}
end
end Go.Proofs.Ytddglkejegmmmaa
