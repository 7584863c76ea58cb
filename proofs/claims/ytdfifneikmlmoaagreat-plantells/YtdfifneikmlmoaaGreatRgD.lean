/-
  What own, Of and Get of the document's graph return: no statement is proved here.
-/
import Derived.Test.YtdfifneikmlmoaaGreatRgC
namespace Go.Proofs.YtdfifneikmlmoaaGreat
open Go.ChangeShapes Go.WideShapes Go.ChangeAt Go.RowKit
set_option linter.unusedVariables false
set_option linter.unusedSimpArgs false

theorem made_b {w w' : World} {l : List Int} {v' : Value} (hby : ∀ x ∈ l, 0 ≤ x ∧ x ≤ 255) (hA : Apd (w.alloc (.cells #[] 5)) w.heap.size 5 1 (.slice (some ⟨w.heap.size, 0, none⟩) 0 0) 0 l.length ([] ++ l.map (Value.int .u8)) v' w') :
    ∃ s' : Sv, v' = .slice s'.a s'.n s'.c ∧ BsS w' s' l ∧ InE (Made w w') s' ∧ Below w.heap.size w w' := by
  obtain ⟨h1, h2, h3, h4, h5⟩ := hA
  rw [Nat.zero_add, List.nil_append] at h1
  obtain ⟨s', rfl, e2, e3, e4⟩ := ro_bs h1 hby h2
  refine ⟨s', rfl, e3, e4, ?_⟩
  have k0 : Stp (fun _ => False) w (w.alloc (.cells #[] 5)) := Stp.of_alloc _ _ _
  exact (k0.next h4 (F' := fun x => some w.heap.size = some x) (fun x e => .inr (by injection e with e; omega))).below (Nat.le_refl _) (fun x e => e.elim)
theorem made_i {w w' : World} {l : List Int} {v' : Value} (hby : ∀ x ∈ l, wfi x) (hA : Apd (w.alloc (.cells #[] 3)) w.heap.size 3 1 (.slice (some ⟨w.heap.size, 0, none⟩) 0 0) 0 l.length ([] ++ l.map (Value.int .i64)) v' w') :
    ∃ s' : Sv, v' = .slice s'.a s'.n s'.c ∧ InsS w' s' l ∧ InE (Made w w') s' ∧ Below w.heap.size w w' := by
  obtain ⟨h1, h2, h3, h4, h5⟩ := hA
  rw [Nat.zero_add, List.nil_append] at h1
  obtain ⟨s', rfl, e2, e3, e4⟩ := ro_ins h1 hby h2
  refine ⟨s', rfl, e3, e4, ?_⟩
  have k0 : Stp (fun _ => False) w (w.alloc (.cells #[] 3)) := Stp.of_alloc _ _ _
  exact (k0.next h4 (F' := fun x => some w.heap.size = some x) (fun x e => .inr (by injection e with e; omega))).below (Nat.le_refl _) (fun x e => e.elim)
theorem made_nw (w : World) : New w.heap.size (.slice (some ⟨w.heap.size, 0, none⟩) 0 0) := fun r e => by
  have : w.heap.size = r := by simpa [Value.ownBlock] using e
  omega
set_option maxRecDepth 100000 in
set_option maxHeartbeats 4000000 in
theorem rown_any {w : World} {E : Nat → Prop} {p : Pt} {d n : Sv} (h : PtM w E p d n) (h1 : p.data.length ≤ 100000) (h2 : p.needs.length ≤ 100000) :
    Calls Tryz.prog 48 #[.agg (p.cs d n).toArray] w fun e w' => ∃ d' n' : Sv, e = .returned (.agg (p.cs d' n').toArray) ∧ PtM w' (Made w w') p d' n' ∧ Below w.heap.size w w' := by
  have t1 : True := trivial
  have t2 : True := trivial
  have t3 : True := trivial
  have t4 : True := trivial
  have t5 : True := trivial
  have t6 : True := trivial
  have hbl := h.bs.len
  have hil := h.is.i.len
  obtain ⟨da, dn, dc⟩ := d
  obtain ⟨na, nn, nc⟩ := n
  simp only at hbl hil
  subst hbl
  subst hil
  go_enter Tryz.func48, Tryz.ntmps48
  go_wp2_with (first
    | (clear t1; refine at_boxP (by rfl) _ (by rfl) p ⟨da, p.data.length, dc⟩ ⟨na, p.needs.length, nc⟩ (by rfl) ?_; intro g1 w1 a1 a2 r1 b1)
    | (clear t2; refine at_newP (by rfl) (by rfl) ?_; intro g2 w2 a3 a4 r2 b2
       have r12 := r1.later b2
       have B2 := bnext b1 b2 (Nat.le_refl _)
       have b0 : Below w2.heap.size w2 (w2.alloc (.cells #[] 5)) := (Below.refl _ w2).alloc (Nat.le_refl _) _
       have h2' := (h.later B2).later b0
       have hz := h2'.bs.zero
       simp only at hz
       have c3 := (Pt.cells (r12.later b0)).2.2.2.1)
    | (at_builtin; clear t3; refine at_appR elB w2.heap.size rfl _ _ (by rfl) (by rfl) (World.ownsRow_made w2 #[] 0 (Nat.zero_le _) (Nat.zero_le _) rfl) (made_nw w2) da dc (p.data.map (Value.int .u8)) (by rfl) (by simp) (fun e => ⟨(hz e).1, (hz e).2.1⟩) h2'.bs.cells (fun u hu => by obtain ⟨x, _, rfl⟩ := List.mem_map.1 hu; rfl) (by omega) (by simp) ?_; intro v' w3 hA
       obtain ⟨d', rfl, q1, q2, q3⟩ := made_b h2'.bs.byte hA
       clear hA hz h2' c3 b0
       have r13 := r12.later q3
       have c3 := (Pt.cells r13).2.2.2.1
       have f3 := r13.frozen 3
       have r4 : Cs (w3.setCell ⟨g1, 3, none⟩ (.slice d'.a d'.n d'.c)) g1 (p.cs d' ⟨na, p.needs.length, nc⟩) := r13.set 3 (.slice d'.a d'.n d'.c) rfl
       have s4 : Stp (fun x => x = g1) w3 (w3.setCell ⟨g1, 3, none⟩ (.slice d'.a d'.n d'.c)) := (Stp.refl (fun x => x = g1) w3).setCell (p := ⟨g1, 3, none⟩) (.inl rfl) _
       have B4 : Below w.heap.size w (w3.setCell ⟨g1, 3, none⟩ (.slice d'.a d'.n d'.c)) := ((Stp.of_below (bnext B2 q3 (Nat.le_refl _)) (fun _ => False)).next s4 (fun x e => .inr (by omega))).below (Nat.le_refl _) (fun x e => e.elim)
       have r24 := (r2.later q3).step s4 (by omega)
       have q14 := q1.step s4 q2 (fun x hx e => by have := hx.1; omega)
       have z4' : Hid ((w3.setCell ⟨g1, 3, none⟩ (.slice d'.a d'.n d'.c)).heap.size = w3.heap.size) := (by simp : (w3.setCell ⟨g1, 3, none⟩ (.slice d'.a d'.n d'.c)).heap.size = w3.heap.size)
       have h4' := h.later B4
       generalize hw4 : w3.setCell ⟨g1, 3, none⟩ (.slice d'.a d'.n d'.c) = w4 at *
       have b0 : Below w4.heap.size w4 (w4.alloc (.cells #[] 3)) := (Below.refl _ w4).alloc (Nat.le_refl _) _
       have h5' := h4'.later b0
       have hz := h5'.is.zero
       simp only at hz
       have c5 := (Pt.cells (r4.later b0)).2.2.2.2.2.1)
    | (at_builtin; clear t4; refine at_appR elI w4.heap.size rfl _ _ (by rfl) (by rfl) (World.ownsRow_made w4 #[] 0 (Nat.zero_le _) (Nat.zero_le _) rfl) (made_nw w4) na nc (p.needs.map (Value.int .i64)) (by rfl) (by simp) (fun e => ⟨(hz e).1, (hz e).2.1⟩) h5'.is.cells (fun u hu => by obtain ⟨x, _, rfl⟩ := List.mem_map.1 hu; rfl) (by omega) (by simp) ?_; intro v' w5 hA
       obtain ⟨n', rfl, q5, q6, q7⟩ := made_i h5'.is.i.wf hA
       clear hA hz h5' c5 b0 c3 f3
       have r15 := r4.later q7
       have c5 := (Pt.cells r15).2.2.2.2.2.1
       have f5 := r15.frozen 5
       have r6 : Cs (w5.setCell ⟨g1, 5, none⟩ (.slice n'.a n'.n n'.c)) g1 (p.cs d' n') := r15.set 5 (.slice n'.a n'.n n'.c) rfl
       have s6 : Stp (fun x => x = g1) w5 (w5.setCell ⟨g1, 5, none⟩ (.slice n'.a n'.n n'.c)) := (Stp.refl (fun x => x = g1) w5).setCell (p := ⟨g1, 5, none⟩) (.inl rfl) _
       have B6 : Below w.heap.size w (w5.setCell ⟨g1, 5, none⟩ (.slice n'.a n'.n n'.c)) := ((Stp.of_below (bnext B4 q7 (Nat.le_refl _)) (fun _ => False)).next s6 (fun x e => .inr (by omega))).below (Nat.le_refl _) (fun x e => e.elim)
       have z3 := q3.size
       have z4 := z4'.out
       have r26 := (r24.later q7).step s6 (by omega)
       have q16 := (q14.later q7).step s6 q2 (fun x hx e => by have := hx.1; omega)
       have q56 := q5.step s6 q6 (fun x hx e => by have := hx.1; omega)
       clear z4)
    | (clear t5; refine at_getP0 (by rfl) _ (by rfl) g1 (by rfl) p d' n' r6 ?_)
    | (clear t6; refine at_putP (by rfl) _ _ (by rfl) g2 (by rfl) p d' n' (by rfl) _ r26 rfl ?_; intro w7 r7 s7))
  have z7 := s7.size
  have z4 := z4'.out
  have z6 : (w5.setCell ⟨g1, 5, none⟩ (.slice n'.a n'.n n'.c)).heap.size = w5.heap.size := by simp
  have zq := q7.size
  have zB := B2.size
  refine bodyPost_ret (retC srtP rfl rfl r7 rfl) rfl ⟨d', n', rfl, ⟨q16.step s7 q2 (fun x hx e => by have := hx.1; omega), q56.step s7 q6 (fun x hx e => by have := hx.1; omega), q2.mono (fun x hx => ⟨by have := hx.1; omega, by have := hx.2; omega⟩), q6.mono (fun x hx => ⟨by have := hx.1; omega, by have := hx.2; omega⟩)⟩, ?_⟩
  exact ((Stp.of_below B6 (fun _ => False)).next s7 (fun x e => .inr (by have := b1.size; omega))).below (Nat.le_refl _) (fun x e => e.elim)
/-- Patches of one's own that are being made. -/
structure PoI (w wr : World) (v : Value) (L : List Pe) (l : List Pt) : Prop where
  u : PuI w wr v L
  eq : L.map (·.p) = l
  ms : ∀ t ∈ L, PtM wr (fun x => Made w wr x ∧ v.ownBlock ≠ some x) t.p t.d t.n
theorem PoI.later {w wr w' : World} {v : Value} {L : List Pe} {l : List Pt} (h : PoI w wr v L l) (k : Below wr.heap.size wr w') : PoI w w' v L l := ⟨h.u.later k, h.eq, fun t ht => ((h.ms t ht).later k).mono (fun x hx => ⟨⟨hx.1.1, Nat.lt_of_lt_of_le hx.1.2 k.size⟩, hx.2⟩)⟩
theorem Rf.dl {w : World} {g : Nat} {Z : GZ} {a : Option Addr} {c : Nat} {L : List Pe} {R : Nat → Prop} (h : Rf w g Z a c L R) {k : Nat} {t : Pe} (e : L[k]? = some t) : t.p.data.length ≤ 100000 ∧ t.p.needs.length ≤ 100000 ∧ PtM w R t.p t.d t.n := by
  have := fit_to (h.ok.ft _ (h.mem e))
  exact ⟨by omega, h.nl _ (h.mem e), h.ms t (List.mem_of_getElem? e)⟩
theorem PoI.app {w wr w' : World} {v v' : Value} {L : List Pe} {l : List Pt} {p : Pt} {d n : Sv} {wm : World} (h : PoI w wr v L l) (m5 : PtM wr (Made wm wr) p d n) (hs : w.heap.size ≤ wm.heap.size) (hr : ∀ r, v.ownBlock = some r → r < wm.heap.size) (hA : Apd (wr.alloc (.cells (Pe.cs ⟨p, d, n⟩).toArray 54)) w.heap.size 54 9 v L.length 1 (fl L ++ Pe.cs ⟨p, d, n⟩) v' w') : PoI w w' v' (L ++ [⟨p, d, n⟩]) (l ++ [p]) := by
  have b0 : Below wr.heap.size wr (wr.alloc (.cells (Pe.cs ⟨p, d, n⟩).toArray 54)) := (Below.refl _ wr).alloc (Nat.le_refl _) _
  have I9 := h.u.app b0 hA
  obtain ⟨h1, h2, h3, h4, h5⟩ := hA
  have hsz := h4.size
  have hsz0 := b0.size
  have key : ∀ x, x < wr.heap.size → v.ownBlock ≠ some x → v'.ownBlock ≠ some x := fun x hx hv e => by
    rcases h3 with h3 | ⟨h3, _⟩
    · rw [h3] at e; exact hv e
    · rw [h3] at e; injection e with e; omega
  refine ⟨I9, by simp [h.eq], fun t ht => ?_⟩
  rcases List.mem_append.1 ht with ht | ht
  · exact ((((h.ms t ht).later b0).step h4 (fun x hx e => hx.2 e))).mono (fun x hx => ⟨⟨hx.1.1, by have := hx.1.2; omega⟩, key x hx.1.2 hx.2⟩)
  · rw [List.mem_singleton.1 ht]
    exact ((m5.later b0).step h4 (fun x hx e => by have := hr x e; have := hx.1; omega)).mono (fun x hx => ⟨⟨by have := hx.1; omega, by have := hx.2; omega⟩, key x hx.2 (fun e => by have := hr x e; have := hx.1; omega)⟩)
theorem fdx_cases (l : List Pt) (i : Int) : (fdx l i = -1 ∧ fnd l i = none) ∨ ∃ (k : Nat) (p : Pt), fdx l i = (k : Int) ∧ l[k]? = some p ∧ fnd l i = some p ∧ k < l.length := by
  unfold fdx fnd
  cases h : l.findIdx? (fun p => p.id == i) with
  | none =>
    refine .inl ⟨rfl, ?_⟩
    rw [List.findIdx?_eq_none_iff] at h
    exact List.find?_eq_none.2 (fun p hp => by simpa using h p hp)
  | some k =>
    rw [List.findIdx?_eq_some_iff_getElem] at h
    obtain ⟨h1, h2, h3⟩ := h
    refine .inr ⟨k, l[k], rfl, List.getElem?_eq_getElem h1, ?_, h1⟩
    rw [List.find?_eq_some_iff_getElem]
    exact ⟨h2, k, h1, rfl, fun j hj => by have := h3 j hj; simpa using this⟩
/-- What Get tells of an error. -/
def gE (l : List Pt) (i : Int) : Int := if has l i then 0 else 5
set_option maxRecDepth 100000 in
set_option maxHeartbeats 2000000 in
theorem rget_any {w : World} {g : Nat} {Z : GZ} {a : Option Addr} {c : Nat} {L : List Pe} {R : Nat → Prop} (H : Rf w g Z a c L R) (i : Int) :
    Calls Tryz.prog 37 #[.pointer (some ⟨g, 0, none⟩), .int .i64 i] w fun e w' => ∃ d n : Sv, e = .returned (.tuple #[.agg ((gt Z.l i).cs d n).toArray, .int .i64 (gE Z.l i)]) ∧ PtM w' (Made w w') (gt Z.l i) d n ∧ Below w.heap.size w w' := by
  have t1 : True := trivial
  have t2 : True := trivial
  have t3 : True := trivial
  rcases fdx_cases Z.l i with ⟨f1, f2⟩ | ⟨k, p, f1, f2, f3, f4⟩
  · have f1' : Hid (fdx Z.l i = -1) := f1
    have eg : gt Z.l i = Pt.zero := by unfold gt; rw [f2]; rfl
    have ee : gE Z.l i = 5 := by unfold gE; rw [has_fnd, f2]; rfl
    have eg' : Hid (gt Z.l i = Pt.zero) := eg
    have ee' : Hid (gE Z.l i = 5) := ee
    clear f1 f2 eg ee
    go_enter Tryz.func37, Tryz.ntmps37
    go_wp2_with (first
      | (clear t1; refine at_newP (by rfl) (by rfl) ?_; intro g1 w1 a1 a2 r1 b1)
      | (go_at_call 50; refine (find_any (H.later b1) i).mono ?_; rw [f1'.out]; rintro e w2 ⟨rfl, rfl⟩)
      | (clear t2; refine at_putP (by rfl) _ _ (by rfl) g1 (by rfl) Pt.zero Sv.nil Sv.nil (by rfl) _ r1 rfl ?_; intro w3 r3 s3))
    refine bodyPost_ret (retCt srtP rfl rfl rfl r3 rfl) rfl ?_
    rw [eg'.out, ee'.out]
    exact ⟨Sv.nil, Sv.nil, rfl, PtM.zero _ _, ((Stp.of_below b1 (fun _ => False)).next s3 (fun x e => .inr (by omega))).below (Nat.le_refl _) (fun x e => e.elim)⟩
  · have f1' : Hid (fdx Z.l i = (k : Int)) := f1
    have eg : gt Z.l i = p := by unfold gt; rw [f3]; rfl
    have ee : gE Z.l i = 0 := by unfold gE; rw [has_fnd, f3]; rfl
    have eg' : Hid (gt Z.l i = p) := eg
    have ee' : Hid (gE Z.l i = 0) := ee
    have hkl : k < L.length := by rw [H.len]; exact f4
    have hcap : L.length ≤ maxLen := by obtain ⟨_, _, _, h, _⟩ := H.row.shape; exact h
    have hfew := H.few
    obtain ⟨b, t, rfl, e2, hr⟩ := H.row.el k hkl
    have ep : t.p = p := by have := H.get e2; rw [f2] at this; injection this with this; exact this.symm
    subst ep
    obtain ⟨l1, l2, m4⟩ := H.dl e2
    have a9 : (k : Int) < (L.length : Int) := by omega
    have a8 : ¬ (k : Int) < 0 := by omega
    have a7 : (0 : Int) ≤ (k : Int) := by omega
    clear f1 f2 f3 f4 eg ee
    go_enter Tryz.func37, Tryz.ntmps37
    go_wp2_with (first
      | (clear t1; refine at_newP (by rfl) (by rfl) ?_; intro g1 w1 a1 a2 r1 b1; have H1 := H.later b1; have hr1 := (Stp.of_below b1 (fun _ => False)).range hr id; obtain ⟨z0, z1⟩ := H1.cells; have m1 := m4.later b1)
      | (go_at_call 50; refine (find_any H1 i).mono ?_; rw [f1'.out]; rintro e w2 ⟨rfl, rfl⟩)
      | (clear t3; refine at_getE _ (by rfl) (by rfl) b (k * 9) (by rfl) t hr1 ?_)
      | (go_at_call 48; refine (rown_any m1 l1 l2).mono ?_; rintro e w5 ⟨d', n', rfl, m5, b5⟩; have r5 := r1.later b5)
      | (clear t2; refine at_putP (by rfl) _ _ (by rfl) g1 (by rfl) t.p d' n' (by rfl) _ r5 rfl ?_; intro w3 r3 s3))
    have z1 := s3.size
    have z2 := b1.size
    have z3 := b5.size
    refine bodyPost_ret (retCt srtP rfl rfl rfl r3 rfl) rfl ?_
    rw [eg'.out, ee'.out]
    exact ⟨d', n', rfl, (m5.step s3 (fun x hx e => by have := hx.1; omega)).mono (fun x hx => ⟨by have := hx.1; omega, by have := hx.2; omega⟩), ((Stp.of_below (bnext b1 b5 (Nat.le_refl _)) (fun _ => False)).next s3 (fun x e => .inr (by omega))).below (Nat.le_refl _) (fun x e => e.elim)⟩
end Go.Proofs.YtdfifneikmlmoaaGreat
