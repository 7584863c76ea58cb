/-
  The document's graph of layer 14 in memory: no statement is proved here.
-/
import Derived.Test.YtigchhogclofiaaGreatGrT
namespace Go.Proofs.YtigchhogclofiaaGreat
open Go.ChangeShapes Go.WideShapes Go.ChangeAt Go.RowKit
set_option linter.unusedVariables false
set_option linter.unusedSimpArgs false

/-- A patch, and where its lists lie. -/
structure Pe where
  p : Pt
  d : Sv
  n : Sv
def Pe.cs (t : Pe) : List Value := t.p.cs t.d t.n
theorem Pe.cs_len (t : Pe) : t.cs.length = 9 := rfl
theorem Pe.cs_one (t : Pe) : ∀ v ∈ t.cs, v.oneCell' = true := t.p.cs_one t.d t.n
def Pe.zero : Pe := ⟨Pt.zero, Sv.nil, Sv.nil⟩
/-- One behind the other. -/
def fl (L : List Pe) : List Value := L.flatMap Pe.cs
theorem fl_nil : fl [] = [] := rfl
theorem fl_cons (t : Pe) (L : List Pe) : fl (t :: L) = t.cs ++ fl L := by unfold fl; rw [List.flatMap_cons]
theorem fl_append (L L' : List Pe) : fl (L ++ L') = fl L ++ fl L' := by unfold fl; rw [List.flatMap_append]
theorem fl_len : ∀ L : List Pe, (fl L).length = L.length * 9
  | [] => rfl
  | t :: L => by rw [fl_cons, List.length_append, t.cs_len, fl_len L, List.length_cons]; omega
theorem fl_one : ∀ L : List Pe, ∀ v ∈ fl L, v.oneCell' = true := fun L v hv => by
  unfold fl at hv
  obtain ⟨t, _, h⟩ := List.mem_flatMap.1 hv
  exact t.cs_one v h
theorem fl_get : ∀ (L : List Pe) (i j : Nat) (t : Pe), L[i]? = some t → j < 9 → (fl L)[i * 9 + j]? = t.cs[j]?
  | [], i, j, t, h, _ => by cases h
  | a :: L, 0, j, t, h, hj => by
    injection h with h; subst h
    rw [fl_cons, List.getElem?_append_left (by rw [a.cs_len]; omega)]
    congr 1; omega
  | a :: L, i + 1, j, t, h, hj => by
    have h' : L[i]? = some t := by simpa using h
    rw [fl_cons, List.getElem?_append_right (by rw [a.cs_len]; omega), a.cs_len, ← fl_get L i j t h' hj]
    congr 1; omega
theorem fl_set : ∀ (L : List Pe) (k : Nat) (t t' : Pe) (j : Nat) (v : Value), L[k]? = some t → j < 9 → t'.cs = t.cs.set j v → (fl L).set (k * 9 + j) v = fl (L.set k t')
  | [], k, t, t', j, v, h, _, _ => by cases h
  | a :: L, 0, t, t', j, v, h, hj, e => by
    injection h with h; subst h
    rw [fl_cons, List.set_cons_zero, fl_cons, List.set_append_left _ _ (by rw [a.cs_len]; omega), e]
    congr 2; omega
  | a :: L, k + 1, t, t', j, v, h, hj, e => by
    have h' : L[k]? = some t := by simpa using h
    rw [fl_cons, List.set_cons_succ, fl_cons, List.set_append_right _ _ (by rw [a.cs_len]; omega), a.cs_len, ← fl_set L k t t' j v h' hj e]
    congr 2; omega
/-- A slice of patches of one's own. -/
def OwP (w : World) (v : Value) (L : List Pe) : Prop := w.ownsRow 0 30 9 v L.length (fl L)
section
variable {w w' : World} {v : Value} {L : List Pe} {F : Nat → Prop}
theorem OwP.nil (w : World) : OwP w (.slice none 0 0) [] := ⟨rfl, .inl ⟨rfl, rfl⟩⟩
theorem OwP.step (h : OwP w v L) (k : Stp F w w') (hF : ∀ r, v.ownBlock = some r → ¬ F r) : OwP w' v L := ro_step h k hF
theorem OwP.later (h : OwP w v L) (k : Below w.heap.size w w') : OwP w' v L := ro_later h k
theorem OwP.shape (h : OwP w v L) : ∃ a c, v = .slice a L.length c ∧ L.length ≤ maxLen ∧ (a = none → L.length = 0 ∧ c = 0) := by
  rcases h.2 with ⟨h1, h2⟩ | ⟨g, cap, cur, h1, _, h3, h4, h5, h6, h7⟩
  · exact ⟨none, 0, by rw [h1, h2], by rw [h2]; exact Nat.zero_le _, fun _ => ⟨h2, rfl⟩⟩
  · exact ⟨_, cap, h1, Nat.le_trans h4 h5, fun e => by cases e⟩
theorem OwP.one (h : OwP w v L) : v.oneCell' = true := by obtain ⟨a, c, rfl, _⟩ := h.shape; rfl
theorem OwP.lt (h : OwP w v L) {r : Nat} (hr : v.ownBlock = some r) : r < w.heap.size := (World.ownsRow.lt (show w.ownsRow 0 30 9 v L.length (fl L) from h) r hr).2
end
/-- Its cells. -/
theorem OwP.cells {w : World} {a : Option Addr} {c : Nat} {L : List Pe} (h : OwP w (.slice a L.length c) L) (hn : 0 < L.length) : ∃ b, a = some ⟨b, 0, none⟩ ∧ (∀ j v, (fl L)[j]? = some v → w.cell? ⟨b, j, none⟩ = some v) ∧ (∀ j, w.frozen? ⟨b, j, none⟩ = false) := by
  rcases h.2 with ⟨h1, h2⟩ | ⟨g, cap, cur, h1, _, h3, h4, h5, h6, h7⟩
  · omega
  · injection h1 with e1 e2 e3
    refine ⟨g, e1, fun j v hv => ?_, fun j => by simp [World.frozen?, h3]⟩
    rw [cell_of_row w g j _ _ (0, 0) h3]
    have hj := (List.getElem?_eq_some_iff.1 hv).1
    rw [fl_len] at hj
    rw [← h7, List.getElem?_take, if_pos hj] at hv
    simpa using hv
theorem OwP.el {w : World} {a : Option Addr} {c : Nat} {L : List Pe} (h : OwP w (.slice a L.length c) L) (k : Nat) (hk : k < L.length) : ∃ b t, a = some ⟨b, 0, none⟩ ∧ L[k]? = some t ∧ w.rangeAt b (k * 9) t.cs := by
  obtain ⟨b, e, hc, _⟩ := h.cells (by omega)
  refine ⟨b, L[k], e, List.getElem?_eq_getElem hk, fun j v hv => hc _ _ ?_⟩
  have hj := (List.getElem?_eq_some_iff.1 hv).1
  rw [Pe.cs_len] at hj
  rw [fl_get L k j L[k] (List.getElem?_eq_getElem hk) hj]; exact hv
theorem OwP.news {w : World} {a : Option Addr} {c : Nat} {L : List Pe} (h : OwP w (.slice a L.length c) L) : ∀ ad, a = some ad → ∀ j u, (fl L)[j]? = some u → w.cell? (ad.add j) = some u := fun ad e j u hu => by
  have hj := (List.getElem?_eq_some_iff.1 hu).1
  rw [fl_len] at hj
  obtain ⟨b, e1, hc, _⟩ := h.cells (by omega)
  rw [e] at e1; injection e1 with e1; subst e1
  rw [Addr.add_lit, Nat.zero_add]; exact hc j u hu
/-- One cell anew. -/
theorem OwP.set {w : World} {b c : Nat} {L : List Pe} (h : OwP w (.slice (some ⟨b, 0, none⟩) L.length c) L) (k j : Nat) (t t' : Pe) (v : Value) (hk : L[k]? = some t) (hj : j < 9) (e : t'.cs = t.cs.set j v) : OwP (w.setCell ⟨b, k * 9 + j, none⟩ v) (.slice (some ⟨b, 0, none⟩) L.length c) (L.set k t') := by
  rcases h.2 with ⟨h1, h2⟩ | ⟨g, cap, cur, h1, h2, h3, h4, h5, h6, h7⟩
  · cases h1
  · injection h1 with e1 e2 e3
    injection e1 with e1; injection e1 with e1
    subst e1; subst e3
    have e4 : (w.setCell ⟨b, k * 9 + j, none⟩ v).heap[b]? = some (.cells (cur.setIfInBounds (k * 9 + j) v) 30 (0, 0)) := by
      rw [setCell_eq_setRow w b (k * 9 + j) _ _ (0, 0) _ h3, setRow_heap w b _ _ _ _ h3]
    have hl : (L.set k t').length = L.length := List.length_set
    refine ⟨by rw [fl_len], .inr ⟨b, c, cur.setIfInBounds (k * 9 + j) v, by rw [hl], h2, e4, by rw [hl]; exact h4, h5, by simp [h6], ?_⟩⟩
    rw [hl, Array.toList_setIfInBounds, List.take_set, h7, fl_set L k t t' j v hk hj e]
/-- The document's graph at g. -/
structure Rf (w : World) (g : Nat) (Z : GZ) (a : Option Addr) (c : Nat) (L : List Pe) (R : Nat → Prop) : Prop where
  cc : Cs w g [.int .i64 Z.last, .slice a L.length c]
  row : OwP w (.slice a L.length c) L
  ms : ∀ t ∈ L, PtM w R t.p t.d t.n
  rv : ∀ r, (Value.slice a L.length c).ownBlock = some r → R r
  rg : ¬ R g
  lt : ∀ x, R x → x < w.heap.size
  eq : L.map (·.p) = Z.l
  ok : Z.ok 2000
  nl : ∀ p ∈ Z.l, p.needs.length ≤ 100000
section
variable {w w' : World} {g : Nat} {Z : GZ} {a : Option Addr} {c : Nat} {L : List Pe} {R F : Nat → Prop}
theorem Rf.step (h : Rf w g Z a c L R) (k : Stp F w w') (hg : ¬ F g) (hR : ∀ x, R x → ¬ F x) : Rf w' g Z a c L R :=
  ⟨h.cc.step k hg, h.row.step k (fun r hr => hR r (h.rv r hr)), fun t ht => (h.ms t ht).step k hR, h.rv, h.rg, fun x hx => Nat.lt_of_lt_of_le (h.lt x hx) k.size, h.eq, h.ok, h.nl⟩
theorem Rf.later (h : Rf w g Z a c L R) (k : Below w.heap.size w w') : Rf w' g Z a c L R := h.step (Stp.of_below k (fun _ => False)) id (fun _ _ => id)
theorem Rf.len (h : Rf w g Z a c L R) : L.length = Z.l.length := by rw [← h.eq, List.length_map]
theorem Rf.few (h : Rf w g Z a c L R) : L.length ≤ 2000 := by have := h.len; have := h.ok.few; omega
theorem Rf.get (h : Rf w g Z a c L R) {k : Nat} {t : Pe} (e : L[k]? = some t) : Z.l[k]? = some t.p := by rw [← h.eq, List.getElem?_map, e]; rfl
theorem Rf.mem (h : Rf w g Z a c L R) {k : Nat} {t : Pe} (e : L[k]? = some t) : t.p ∈ Z.l := List.mem_of_getElem? (h.get e)
theorem Rf.cells (h : Rf w g Z a c L R) : w.cell? ⟨g, 0, none⟩ = some (.int .i64 Z.last) ∧ w.cell? ⟨g, 1, none⟩ = some (.slice a L.length c) := ⟨h.cc.cell 0 _ rfl, h.cc.cell 1 _ rfl⟩
end
/-- The cells of a patch in a row. -/
theorem Pe.at9 {w : World} {b o : Nat} {t : Pe} (h : w.rangeAt b o t.cs) : w.cell? ⟨b, o, none⟩ = some (.int .i64 t.p.id) ∧ w.cell? ⟨b, o + 1, none⟩ = some (.int .i64 t.p.at') ∧ w.cell? ⟨b, o + 2, none⟩ = some (.int .i64 t.p.off) ∧ w.cell? ⟨b, o + 3, none⟩ = some (.slice t.d.a t.d.n t.d.c) ∧ w.cell? ⟨b, o + 4, none⟩ = some (.int .i64 t.p.kind) ∧ w.cell? ⟨b, o + 5, none⟩ = some (.slice t.n.a t.n.n t.n.c) ∧ w.cell? ⟨b, o + 6, none⟩ = some (.int .i64 t.p.own) ∧ w.cell? ⟨b, o + 7, none⟩ = some (.int .i64 t.p.child) ∧ w.cell? ⟨b, o + 8, none⟩ = some (.bool t.p.wr) :=
  ⟨h 0 _ rfl, h 1 _ rfl, h 2 _ rfl, h 3 _ rfl, h 4 _ rfl, h 5 _ rfl, h 6 _ rfl, h 7 _ rfl, h 8 _ rfl⟩
/-- Where a number is. -/
def fdx (l : List Pt) (i : Int) : Int := match l.findIdx? (fun p => p.id == i) with
  | some k => (k : Int)
  | none => -1
set_option maxRecDepth 100000 in
set_option maxHeartbeats 2000000 in
theorem find_any {w : World} {g : Nat} {Z : GZ} {a : Option Addr} {c : Nat} {L : List Pe} {R : Nat → Prop} (H : Rf w g Z a c L R) (i : Int) :
    Calls Tryz.prog 57 #[.pointer (some ⟨g, 0, none⟩), .int .i64 i] w fun e w' => e = .returned (.int .i64 (fdx Z.l i)) ∧ w = w' := by
  obtain ⟨z0, z1⟩ := H.cells
  have hfew := H.few
  have hcap : L.length ≤ maxLen := by obtain ⟨_, _, _, h, _⟩ := H.row.shape; exact h
  go_enter Tryz.func57, Tryz.ntmps57
  go_wp2_with fail
  go_loopw [5] (fun v wr => ∃ k : Nat, k ≤ L.length ∧ v = .int .i64 (k : Int) ∧ wr = w ∧ ∀ p ∈ Z.l.take k, p.id ≠ i) (fun v _ => L.length - (intOf v).toNat)
  case atStart => exact ⟨0, Nat.zero_le _, rfl, rfl, fun p hp => by cases hp⟩
  case round =>
    obtain ⟨k, hk, rfl, rfl, hno⟩ := hrel
    by_cases hkl : k < L.length
    · obtain ⟨b, t, rfl, e2, hr⟩ := H.row.el k hkl
      obtain ⟨c0, _⟩ := Pe.at9 hr
      have a9 : (k : Int) < (L.length : Int) := by omega
      have a8 : (0 : Int) ≤ (k : Int) := by omega
      have hget := H.get e2
      by_cases hid : t.p.id = i
      · have hf : fdx Z.l i = (k : Int) := by
          unfold fdx
          have : Z.l.findIdx? (fun p => p.id == i) = some k := by
            rw [List.findIdx?_eq_some_iff_getElem]
            have hk2 : k < Z.l.length := by rw [← H.len]; exact hkl
            have hg2 : Z.l[k] = t.p := by rw [List.getElem?_eq_getElem hk2] at hget; injection hget
            refine ⟨hk2, by rw [hg2]; simpa using hid, fun j hj => ?_⟩
            have := hno Z.l[j] (List.mem_iff_getElem.2 ⟨j, by simp; omega, by simp⟩)
            simpa using this
          rw [this]
        have hf' : Hid (fdx Z.l i = (k : Int)) := hf
        clear hf
        go_wp2_with fail
        go_returns
        rw [hf'.out]; exact ⟨by simp, rfl⟩
      · go_wp2_with fail
        go_roundw
        case rel =>
          refine ⟨k + 1, by omega, by go_num, by simp, fun p hp => ?_⟩
          rw [List.take_add_one, hget] at hp
          rcases List.mem_append.1 hp with hp | hp
          · exact hno p hp
          · have : p = t.p := by simpa using hp
            rw [this]; exact hid
        case measure => simp [intOf]; omega
    · have hf : fdx Z.l i = -1 := by
        unfold fdx
        have : Z.l.findIdx? (fun p => p.id == i) = none := by
          rw [List.findIdx?_eq_none_iff]
          intro p hp
          have hk2 : Z.l.length ≤ k := by rw [← H.len]; omega
          have := hno p (by rw [List.take_of_length_le hk2]; exact hp)
          simpa using this
        rw [this]
      have hf' : Hid (fdx Z.l i = -1) := hf
      clear hf
      have a9 : ¬ (k : Int) < (L.length : Int) := by omega
      go_wp2_with fail
      go_returns
      rw [hf'.out]; exact ⟨by simp, rfl⟩
end Go.Proofs.YtigchhogclofiaaGreat
