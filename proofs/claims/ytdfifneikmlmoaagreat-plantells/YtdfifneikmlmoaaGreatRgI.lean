/-
  What Write of the document's graph returns and leaves: no statement is proved here.
-/
import Derived.Test.YtdfifneikmlmoaaGreatRgH
import Derived.Test.YtdfifneikmlmoaaGreatGsE
namespace Go.Proofs.YtdfifneikmlmoaaGreat
open Go.ChangeShapes Go.WideShapes Go.ChangeAt Go.RowKit
set_option linter.unusedVariables false
set_option linter.unusedSimpArgs false

theorem rise_get {l : List Pt} (hs : Rise l) {i j : Nat} {p q : Pt} (hi : l[i]? = some q) (hj : l[j]? = some p) : q.id < p.id ↔ i < j := by
  obtain ⟨h1, e1⟩ := List.getElem?_eq_some_iff.1 hi
  obtain ⟨h2, e2⟩ := List.getElem?_eq_some_iff.1 hj
  have hp := List.pairwise_iff_getElem.1 hs
  constructor
  · intro h
    refine Decidable.byContradiction fun hn => ?_
    by_cases e : i = j
    · subst e; rw [e1] at e2; subst e2; omega
    · have := hp j i h2 h1 (by omega)
      rw [e1, e2] at this; omega
  · intro h
    have := hp i j h1 h2 h
    rw [e1, e2] at this; exact this
theorem bhd_bhK {l : List Pt} (hs : Rise l) {j : Nat} {p : Pt} (hj : l[j]? = some p) : bhd l p = bhK l j p := by
  unfold bhd bhK
  rw [Bool.eq_iff_iff, List.any_eq_true, List.any_eq_true]
  constructor
  · rintro ⟨q, hq, h⟩
    simp only [Bool.and_eq_true, decide_eq_true_eq] at h
    obtain ⟨i, hi⟩ := List.mem_iff_getElem?.1 hq
    have := (rise_get hs hi hj).1 h.1.1
    exact ⟨q, List.mem_iff_getElem?.2 ⟨i, by rw [List.getElem?_take, if_pos this]; exact hi⟩, by simp only [Bool.and_eq_true]; exact ⟨h.1.2, h.2⟩⟩
  · rintro ⟨q, hq, h⟩
    obtain ⟨i, hi⟩ := List.mem_iff_getElem?.1 hq
    rw [List.getElem?_take] at hi
    split at hi
    · rename_i hij
      simp only [Bool.and_eq_true] at h
      exact ⟨q, List.mem_of_getElem? hi, by simp only [Bool.and_eq_true, decide_eq_true_eq]; exact ⟨⟨(rise_get hs hi hj).2 hij, h.1⟩, h.2⟩⟩
    · cases hi
theorem rbS_no {l : List Pt} (hs : Rise l) {j : Nat} {p : Pt} (hj : l[j]? = some p) (h : rbS l (rb l j) p = false) : (p.wr || held l p || bhd l p) = true := by
  unfold rbS at h
  cases hw : p.wr with
  | true => rfl
  | false =>
    cases hh : held l p with
    | true => rfl
    | false =>
      rw [hw, hh] at h
      simp only [Bool.not_false, Bool.true_and] at h
      rw [List.all_eq_false] at h
      obtain ⟨t, ht, hn⟩ := h
      have hf : t.1 ∈ l.take j := by rw [← rb_fst]; exact List.mem_map.2 ⟨t, ht, rfl⟩
      simp only [Bool.or_eq_true, Bool.not_eq_true', not_or] at hn
      have : bhK l j p = true := by
        unfold bhK
        rw [List.any_eq_true]
        exact ⟨t.1, hf, by simp only [Bool.and_eq_true, Bool.not_eq_true']; exact ⟨by simpa using hn.1.1, by simpa using hn.1.2⟩⟩
      rw [bhd_bhK hs hj, this]; rfl
theorem rbS_yes {l : List Pt} {acc : List (Pt × Bool)} {p : Pt} (h : rbS l acc p = true) : p.wr = false ∧ held l p = false := by
  unfold rbS at h
  simp only [Bool.and_eq_true, Bool.not_eq_true'] at h
  exact ⟨h.1.1, h.1.2⟩
theorem setW_set {l : List Pt} (hs : Rise l) {j : Nat} {p : Pt} (hj : l[j]? = some p) : setW l p.id = l.set j { p with wr := true } := by
  apply List.ext_getElem?
  intro i
  unfold setW
  rw [List.getElem?_map, List.getElem?_set]
  obtain ⟨h2, e2⟩ := List.getElem?_eq_some_iff.1 hj
  by_cases e : j = i
  · subst e
    rw [if_pos rfl, if_pos h2, hj]; simp
  · rw [if_neg e]
    cases hi : l[i]? with
    | none => rfl
    | some q =>
      have h1 := (rise_get hs hi hj)
      have h3 := (rise_get hs hj hi)
      have : q.id ≠ p.id := fun e' => by
        by_cases hlt : i < j
        · have := h1.2 hlt; omega
        · have := h3.2 (by omega); omega
      simp [this]
/-- The graph with one more written. -/
theorem Rf.wrote {w w4 w' : World} {g : Nat} {Z : GZ} {a : Option Addr} {c : Nat} {L : List Pe} {R : Nat → Prop} (H : Rf w4 g Z a c L R) (hw : w.heap.size ≤ w4.heap.size) {rb xc j : Nat} {t : Pe} (hj : L[j]? = some t) (ho : OwP w' (.slice (some ⟨rb, 0, none⟩) L.length xc) (L.set j ⟨{ t.p with wr := true }, t.d, t.n⟩)) (hrb : Made w w' rb) (hc : Cs w' g [.int .i64 Z.last, .slice (some ⟨rb, 0, none⟩) L.length xc]) (hs : Stp (fun x => x = g ∨ w4.heap.size ≤ x) w4 w') :
    Rh w' g ⟨Z.last, setW Z.l t.p.id⟩ (fun x => (R x ∨ Made w w' x) ∧ x ≠ g) := by
  have hl : (L.set j ⟨{ t.p with wr := true }, t.d, t.n⟩).length = L.length := List.length_set
  have key : ∀ x, R x → ¬ (x = g ∨ w4.heap.size ≤ x) := fun x hx e => by
    rcases e with e | e
    · exact H.rg (e ▸ hx)
    · have := H.lt x hx; omega
  refine ⟨some ⟨rb, 0, none⟩, xc, L.set j ⟨{ t.p with wr := true }, t.d, t.n⟩, by rw [hl]; exact hc, by rw [hl]; exact ho, fun u hu => ?_, fun r hr => ?_, fun e => e.2 rfl, fun x hx => ?_, ?_, H.ok.setW _, fun p hp => ?_⟩
  · have : ∃ v ∈ L, u.d = v.d ∧ u.n = v.n ∧ u.p.data = v.p.data ∧ u.p.needs = v.p.needs := by
      rcases List.mem_or_eq_of_mem_set hu with h | h
      · exact ⟨u, h, rfl, rfl, rfl, rfl⟩
      · subst h; exact ⟨t, List.mem_of_getElem? hj, rfl, rfl, rfl, rfl⟩
    obtain ⟨v, hv, e1, e2, e3, e4⟩ := this
    rw [e1, e2]
    exact (((H.ms v hv).step hs key).mono (fun x hx => ⟨.inl hx, fun e => H.rg (e ▸ hx)⟩)).other e3 e4
  · have : rb = r := by simpa [Value.ownBlock] using hr
    subst this
    refine ⟨.inr hrb, fun e => ?_⟩
    subst e
    rcases ho.2 with ⟨h1, _⟩ | ⟨g', cap, cur, h1, _, h3, h4⟩
    · cases h1
    · injection h1 with h1; injection h1 with h1; injection h1 with h1
      subst h1
      obtain ⟨ty, h5⟩ := hc.here
      rw [h3] at h5
      injection h5 with h5
      injection h5 with h5 h6 h7
      have hsz := congrArg Array.size h5
      have hLl : L.length ≠ 0 := by have := (List.getElem?_eq_some_iff.1 hj).1; omega
      simp at hsz
      have := h4.2.2.1
      omega
  · rcases hx.1 with e | e
    · have := H.lt x e; have := hs.size; omega
    · exact e.2
  · rw [List.map_set, H.eq]
    exact (setW_set H.ok.srt (H.get hj)).symm
  · obtain ⟨q, hq, rfl⟩ := setW_mem.1 hp
    have := H.nl q hq
    split <;> exact this
theorem wE_none {l : List Pt} {x : Int} (h : fnd l x = none) : wE l x = 5 := by unfold wE; rw [h]
theorem wE_some {l : List Pt} {x : Int} {p : Pt} (h : fnd l x = some p) : wE l x = if p.wr || held l p || bhd l p then 23 else 0 := by unfold wE; rw [h]
theorem wr_cons0 {Z : GZ} {x : Int} {r : List Int} (h : wE Z.l x = 0) : Z.wrE (x :: r) = (Z.wr1 x).wrE r ∧ Z.wr (x :: r) = (Z.wr1 x).wr r := by
  rw [GZ.wrE, GZ.wr, if_pos h, if_pos h]; exact ⟨rfl, rfl⟩
theorem wr_cons1 {Z : GZ} {x : Int} {r : List Int} (h : ¬ wE Z.l x = 0) : Z.wrE (x :: r) = wE Z.l x ∧ Z.wr (x :: r) = Z := by
  rw [GZ.wrE, GZ.wr, if_neg h, if_neg h]; exact ⟨rfl, rfl⟩
/-- Behind k of the numbers. -/
structure WrI (w wr : World) (g : Nat) (Z Z' : GZ) (R : Nat → Prop) (l : List Int) (k : Nat) : Prop where
  h : Rh wr g Z' (fun x => (R x ∨ Made w wr x) ∧ x ≠ g)
  e : Z.wrE l = Z'.wrE (l.drop k)
  z : Z.wr l = Z'.wr (l.drop k)
  s : Stp (fun x => x = g) w wr
set_option maxRecDepth 100000 in
set_option maxHeartbeats 4000000 in
theorem rwrite_any {w : World} {g : Nat} {Z : GZ} {R : Nat → Prop} (H : Rh w g Z R) {sv : Sv} {l : List Int} (hs : InsS w sv l) (he : InE (fun x => x ≠ g) sv) (hl : l.length ≤ 100000) :
    Calls Tryz.prog 27 #[.pointer (some ⟨g, 0, none⟩), .slice sv.a sv.n sv.c] w fun e w' => e = .returned (.int .i64 (Z.wrE l)) ∧ Rh w' g (Z.wr l) (fun x => (R x ∨ Made w w' x) ∧ x ≠ g) ∧ Stp (fun x => x = g) w w' := by
  have hn := hs.i.len
  obtain ⟨sa, sn, sc⟩ := sv
  simp only at hn
  subst hn
  have hcapl : l.length ≤ maxLen := Nat.le_trans hs.i.le hs.i.cap
  have hgw : g < w.heap.size := by obtain ⟨_, _, _, H⟩ := H; exact H.cc.lt
  have i0 : WrI w w g Z Z R l 0 := by
    obtain ⟨a, c, L, H⟩ := H
    exact ⟨⟨a, c, L, H.mono (fun x hx => ⟨.inl hx, fun e => H.rg (e ▸ hx)⟩) (fun e => e.2 rfl) (fun x hx => hx.1.elim (H.lt x) (fun e => e.2))⟩, rfl, rfl, Stp.refl _ _⟩
  go_enter Tryz.func27, Tryz.ntmps27
  go_wp2_with fail
  go_loopw [5] (fun v wr => ∃ (k : Nat) (Z' : GZ), k ≤ l.length ∧ v = .int .i64 (k : Int) ∧ WrI w wr g Z Z' R l k) (fun v _ => l.length - (intOf v).toNat)
  case atStart => exact ⟨0, Z, Nat.zero_le _, rfl, i0⟩
  case round =>
    clear i0 H
    obtain ⟨k, Z', hk, rfl, I⟩ := hrel
    have a8 : (0 : Int) ≤ (k : Int) := by omega
    by_cases hkl : k < l.length
    · have a9 : (k : Int) < (l.length : Int) := by omega
      have hs4 := hs.step I.s he (fun x hx e => hx e)
      obtain ⟨sb, so, e1, hcell⟩ := hs4.i.cell (by show 0 < l.length; omega)
      simp only at e1
      subst e1
      have ck := hcell k hkl
      have hd : l.drop k = l.getD k 0 :: l.drop (k + 1) := by rw [List.drop_eq_getElem_cons hkl, List.getD_eq_getElem?_getD, List.getElem?_eq_getElem hkl]; rfl
      have hIe := I.e
      have hIz := I.z
      rw [hd] at hIe hIz
      obtain ⟨a, c, L, H4⟩ := I.h
      have I4s := I.s
      generalize hx0 : l.getD k 0 = x at *
      have hF := find_any H4 x
      have fin1 : ∀ w', Below wr.heap.size wr w' → ¬ wE Z'.l x = 0 → Z.wrE l = wE Z'.l x ∧ Rh w' g (Z.wr l) (fun x => (R x ∨ Made w w' x) ∧ x ≠ g) ∧ Stp (fun x => x = g) w w' := fun w' hb hw => by
        refine ⟨hIe.trans (wr_cons1 hw).1, ?_, I4s.next (Stp.of_below hb (fun x => x = g)) (fun x hx => .inl hx)⟩
        rw [hIz, (wr_cons1 hw).2]
        exact ⟨a, c, L, (H4.later hb).mono (fun x hx => ⟨hx.1.imp id (fun e => ⟨e.1, Nat.lt_of_lt_of_le e.2 hb.size⟩), hx.2⟩) (fun e => e.2 rfl) (fun x hx => hx.1.elim (fun e => (H4.later hb).lt x ⟨.inl e, hx.2⟩) (fun e => e.2))⟩
      have hIe' : Hid (Z.wrE l = Z'.wrE (x :: l.drop (k + 1))) := hIe
      have hIz' : Hid (Z.wr l = Z'.wr (x :: l.drop (k + 1))) := hIz
      clear hIe hIz I hd hcell hx0
      rcases fdx_cases Z'.l x with ⟨f1, f2⟩ | ⟨j, p, f1, f2, f3, f4⟩
      · have f1' : Hid (fdx Z'.l x = -1) := f1
        have hE := wE_none f2
        have hf := fun w' hb => fin1 w' hb (by rw [hE]; decide)
        rw [hE] at hf
        clear f1 f2 fin1 hE
        go_wp2_with (first
          | (go_at_call 50; refine hF.mono ?_; rw [f1'.out]; rintro e w2 ⟨rfl, rfl⟩))
        go_returns
        have hf2 := hf wr (Below.refl _ _)
        exact ⟨by rw [hf2.1]; rfl, hf2.2⟩
      · have f1' : Hid (fdx Z'.l x = (j : Int)) := f1
        have hE := wE_some f3
        have hpx := (fnd_mem f3).2
        have hjl : j < L.length := by rw [H4.len]; exact f4
        have hfew := H4.few
        have hcap : L.length ≤ maxLen := by obtain ⟨_, _, _, h, _⟩ := H4.row.shape; exact h
        obtain ⟨b, t, rfl, e2, hr⟩ := H4.row.el j hjl
        have ep : t.p = p := by have := H4.get e2; rw [f2] at this; injection this with this; exact this.symm
        subst ep
        have a7 : (j : Int) < (L.length : Int) := by omega
        have a6 : (0 : Int) ≤ (j : Int) := by omega
        have a5 : ¬ (j : Int) < 0 := by omega
        have hlen' : Hid (L.length = Z'.l.length) := H4.len
        have hRy := readies_any H4
        have hBh := fun w' (hb : Below wr.heap.size wr w') => behind_any (H4.later hb) j t e2
        have hry : (ryB Z'.l L.length)[j]? = some (rbS Z'.l (rb Z'.l j) t.p) := by rw [hlen'.out]; exact ryB_get f2 f4 (Nat.le_refl _)
        have cRy : ∀ w' r, Cs w' r (bV (ryB Z'.l L.length)) → w'.cell? ⟨r, j, none⟩ = some (.bool (rbS Z'.l (rb Z'.l j) t.p)) := fun w' r hc => hc.cell j _ (by unfold bV; rw [List.getElem?_map, hry]; rfl)
        obtain ⟨y, hy⟩ : ∃ y, Hid (rbS Z'.l (rb Z'.l j) t.p = y) := ⟨_, rfl⟩
        rw [hy.out] at cRy
        clear f1 f4 hry
        cases y with
        | false =>
          have hE2 : wE Z'.l x = 23 := by rw [hE, rbS_no H4.ok.srt f2 hy.out]; rfl
          have hf := fun w' hb => fin1 w' hb (by rw [hE2]; decide)
          rw [hE2] at hf
          clear fin1 hE hE2 f2 f3
          go_wp2_with (first
            | (go_at_call 50; refine hF.mono ?_; rw [f1'.out]; rintro e w2 ⟨rfl, rfl⟩)
            | (go_at_call 51; refine hRy.mono ?_; rintro e w3 ⟨r, rfl, q1, q2, q3⟩; have cr := cRy _ _ q1))
          go_returns
          have hf2 := hf w3 q3
          exact ⟨by rw [hf2.1]; rfl, hf2.2⟩
        | true =>
          have hyy := rbS_yes hy.out
          have hbb := bhd_bhK H4.ok.srt f2
          rw [hyy.1, hyy.2, hbb] at hE
          obtain ⟨z, hz⟩ : ∃ z, Hid (bhK Z'.l j t.p = z) := ⟨_, rfl⟩
          rw [hz.out] at hE hBh
          cases z with
          | true =>
            have hE2 : wE Z'.l x = 23 := by rw [hE]; rfl
            have hf := fun w' hb => fin1 w' hb (by rw [hE2]; decide)
            rw [hE2] at hf
            clear fin1 hE hE2 f2 f3 hbb hyy
            go_wp2_with (first
              | (go_at_call 50; refine hF.mono ?_; rw [f1'.out]; rintro e w2 ⟨rfl, rfl⟩)
              | (go_at_call 51; refine hRy.mono ?_; rintro e w3 ⟨r, rfl, q1, q2, q3⟩; have cr := cRy _ _ q1)
              | (go_at_call 52; refine (hBh _ q3).mono ?_; rintro e w4 ⟨rfl, q4⟩))
            go_returns
            have hf2 := hf w4 (bnext q3 q4 (Nat.le_refl _))
            exact ⟨by rw [hf2.1]; rfl, hf2.2⟩
          | false =>
            have hE2 : wE Z'.l x = 0 := by rw [hE]; rfl
            have hw1 : Z'.wr1 x = ⟨Z'.last, setW Z'.l t.p.id⟩ := by unfold GZ.wr1; rw [if_pos hE2, hpx]
            have hnx := wr_cons0 (r := l.drop (k + 1)) hE2
            have hw1' : Hid (Z'.wr1 x = ⟨Z'.last, setW Z'.l t.p.id⟩) := hw1
            have hnx' : Hid (Z'.wrE (x :: l.drop (k + 1)) = (Z'.wr1 x).wrE (l.drop (k + 1)) ∧ Z'.wr (x :: l.drop (k + 1)) = (Z'.wr1 x).wr (l.drop (k + 1))) := hnx
            clear fin1 hE hE2 f2 f3 hbb hyy hnx hw1
            go_wp2_with (first
              | (go_at_call 50; refine hF.mono ?_; rw [f1'.out]; rintro e w2 ⟨rfl, rfl⟩)
              | (go_at_call 51; refine hRy.mono ?_; rintro e w3 ⟨r, rfl, q1, q2, q3⟩; have cr := cRy _ _ q1)
              | (go_at_call 52; refine (hBh _ q3).mono ?_; rintro e w4 ⟨rfl, q4⟩
                 have b4 := bnext q3 q4 (Nat.le_refl _)
                 have b5 := bnext b4 ((Below.refl _ w4).alloc (Nat.le_refl _) (.cells #[] 54)) (Nat.le_refl _)
                 have H5 := H4.later b5
                 obtain ⟨z0, z1⟩ := H5.cells)
              | (at_builtin; refine at_appR elP w4.heap.size rfl _ _ (by rfl) (by rfl) (World.ownsRow_made w4 #[] 0 (Nat.zero_le _) (Nat.zero_le _) rfl) (made_nw w4) (some ⟨b, 0, none⟩) c (fl L) (by rfl) (fl_len L) (fun e => by cases e) H5.row.news (fl_one L) (by omega) (by simp) ?_; intro v' w6 hA
                 have nA := hA.2.1
                 have sA : Stp (fun x => w4.heap.size ≤ x) w4 w6 := ((Stp.of_below ((Below.refl _ w4).alloc (Nat.le_refl _) (.cells #[] 54)) (fun x => w4.heap.size ≤ x)).next hA.2.2.2.1 (fun x e => .inl (made_nw w4 x e)))
                 have o6 : OwP w6 v' L := by
                   have := hA.1
                   rw [Nat.zero_add, List.nil_append] at this
                   exact this
                 clear hA z0 z1
                 obtain ⟨xa, xc, rfl, _, _⟩ := o6.shape
                 obtain ⟨rb, rfl, oc, of⟩ := o6.cells (by omega)
                 have hrb : w4.heap.size ≤ rb := nA rb rfl
                 have ltr : rb < w6.heap.size := o6.lt rfl
                 have H6 := (H4.later b4).step sA (fun e => by have := (H4.later b4).cc.lt; omega) (fun x hx e => by have := (H4.later b4).lt x hx; omega)
                 have cw := oc (j * 9 + 8) (.bool t.p.wr) (by rw [fl_get L j 8 t e2 (by omega)]; rfl)
                 have fw := of (j * 9 + 8)
                 have o7 := o6.set j 8 t ⟨{ t.p with wr := true }, t.d, t.n⟩ (.bool true) e2 (by omega) rfl
                 have s7 : Stp (fun x => x = rb) w6 (w6.setCell ⟨rb, j * 9 + 8, none⟩ (.bool true)) := (Stp.refl (fun x => x = rb) w6).setCell (p := ⟨rb, j * 9 + 8, none⟩) (.inl rfl) _
                 have hgrb : g ≠ rb := by have := (H4.later b4).cc.lt; omega
                 have c7 : Cs (w6.setCell ⟨rb, j * 9 + 8, none⟩ (.bool true)) g [.int .i64 Z'.last, .slice (some ⟨b, 0, none⟩) L.length c] := H6.cc.step s7 hgrb
                 have z7 : (w6.setCell ⟨rb, j * 9 + 8, none⟩ (.bool true)).heap.size = w6.heap.size := by simp
                 have hsz4 := sA.size
                 have hszb := b4.size
                 have hszw := I4s.size
                 generalize hw7 : w6.setCell ⟨rb, j * 9 + 8, none⟩ (.bool true) = w7 at *
                 have g1 := c7.cell 1 _ rfl
                 have f1 := c7.frozen 1
                 have c8 : Cs (w7.setCell ⟨g, 1, none⟩ (.slice (some ⟨rb, 0, none⟩) L.length xc)) g [.int .i64 Z'.last, .slice (some ⟨rb, 0, none⟩) L.length xc] := c7.set 1 _ rfl
                 have s8 : Stp (fun x => x = g) w7 (w7.setCell ⟨g, 1, none⟩ (.slice (some ⟨rb, 0, none⟩) L.length xc)) := (Stp.refl (fun x => x = g) w7).setCell (p := ⟨g, 1, none⟩) (.inl rfl) _
                 have o8 := o7.step s8 (fun r' hr' e => by have : rb = r' := by simpa [Value.ownBlock] using hr'
                                                           omega)
                 have z8 : (w7.setCell ⟨g, 1, none⟩ (.slice (some ⟨rb, 0, none⟩) L.length xc)).heap.size = w7.heap.size := by simp
                 have s48 : Stp (fun x => x = g ∨ w4.heap.size ≤ x) w4 (w7.setCell ⟨g, 1, none⟩ (.slice (some ⟨rb, 0, none⟩) L.length xc)) := ((sA.mono (fun x hx => .inl (.inr hx))).next s7 (fun x hx => .inl (.inr (by omega)))).next s8 (fun x hx => .inl (.inl hx))
                 have I9 := (H4.later b4).wrote (w := w) (by omega) e2 o8 ⟨by omega, by omega⟩ c8 s48
                 have S9 : Stp (fun x => x = g) w (w7.setCell ⟨g, 1, none⟩ (.slice (some ⟨rb, 0, none⟩) L.length xc)) := (I4s.next (Stp.of_below b4 (fun x => x = g)) (fun x hx => .inl hx)).next s48 (fun x hx => hx.imp id (fun h => by omega))
                 have W9 : WrI w (w7.setCell ⟨g, 1, none⟩ (.slice (some ⟨rb, 0, none⟩) L.length xc)) g Z ⟨Z'.last, setW Z'.l t.p.id⟩ R l (k + 1) := ⟨by
                     obtain ⟨a9, c9, L9, H9⟩ := I9
                     refine ⟨a9, c9, L9, H9.mono (fun x hx => ⟨hx.1.elim (fun e => e.1.imp id (fun e => ⟨e.1, by have := e.2; omega⟩)) .inr, hx.2⟩) (fun e => e.2 rfl) (fun x hx => hx.1.elim (fun e => ?_) (fun e => e.2))⟩
                     have := H4.lt x ⟨.inl e, hx.2⟩; omega, by rw [hIe'.out, hnx'.out.1, hw1'.out], by rw [hIz'.out, hnx'.out.2, hw1'.out], S9⟩
                 clear o6 o7 o8 oc of c7 c8 s7 s8 s48 I9 S9 z7 z8 hsz4 hszb hszw H6 H5 sA nA))
            exact ⟨⟨k + 1, _, by omega, by go_num, W9⟩, by simp [intOf]; omega⟩
    · have a9 : ¬ (k : Int) < (l.length : Int) := by omega
      have e1 : l.drop k = [] := List.drop_eq_nil_of_le (by omega)
      have h1 := I.e
      have h2 := I.z
      have hh := I.h
      have hss := I.s
      rw [e1] at h1 h2
      have h1' : Hid (Z.wrE l = 0) := h1
      have h2' : Hid (Z.wr l = Z') := h2
      clear h1 h2 e1 I
      go_wp2_with fail
      go_returns
      exact ⟨by rw [h1'.out]; rfl, by rw [h2'.out]; exact hh, hss⟩
end Go.Proofs.YtdfifneikmlmoaaGreat
