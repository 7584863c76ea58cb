/-
  Texts of my own, joined: no statement is proved here.
-/
import Derived.Test.YtennaimdffohfaaGreatDoorJbj
import Derived.Test.YtennaimdffohfaaGreatDoorJbm
set_option linter.unusedSimpArgs false
set_option linter.unusedVariables false
namespace Go.Proofs.YtennaimdffohfaaGreatDoor
open Go.ChangeShapes Go.WideShapes Go.ChangeAt Go.RowKit
section
variable {u : World} {A : VA} {V : VZ} {U E F T X : Nat → Prop} {t k : Nat}
theorem grp_lt (V : VZ) (x : Int) : V.grp x < 8 ∧ ((V.grp x : Nat) : Int) = V.s.pg x := by
  have h : 0 ≤ V.s.pg x ∧ V.s.pg x < 8 := by
    by_cases hx : V.s.hasW x
    · by_cases h2 : 2 ≤ x
      · obtain ⟨h1, h3, h4, h5, h6, h7⟩ := V.s.wF hx h2
        obtain ⟨_, g8, _⟩ := h1
        omega
      · unfold Gm.pg; rw [if_pos hx, if_pos (by omega)]; omega
    · unfold Gm.pg; rw [if_neg hx]; omega
  unfold VZ.grp
  omega
theorem vmark_any (H : Vx u A V U E F) (ok : VOk t k V) (ht : t ≤ 9000) (n : Nat) (hn : n < 8) :
    Calls Tryz.prog 96 #[.pointer (some ⟨A.w, 0, none⟩), .int .i64 (n : Int)] u fun e w' => e = .returned (.int .i64 (V.mrkE n)) ∧ Vx w' A (V.mrk n) U E F ∧ Stp (fun x => x = A.w ∨ U x) u w' := by
  obtain ⟨e, h1, h2⟩ := H.p
  refine (mark_any A.w n V.w (some A.s) V.p u H.ww h1 H.tb (ok.c.okk (k := 3) (by omega) e) hn (fun h => by injection h with h; exact H.uw.1 (h ▸ h2)) (fun y hy => by
    have : y ∈ [A.s] := hy
    rw [List.mem_singleton] at this; subst this; exact H.ca.lt _ h2)).mono ?_
  rintro e w' ⟨rfl, k1, k2, k3⟩
  obtain ⟨h3, h4⟩ := H.ofW k1 k2 k3
  exact ⟨rfl, h3, h4⟩
theorem add_L {w : World} {g : Nat} {Z : GZ} {E F X : Nat → Prop} (H : Gh w g Z E F) (p : Pt) (d n : Sv) (hp : p.wfp) (hpm : PtM w X p d n) (hX : ∀ x, X x → ¬ F x) (hlt : Z.last < 2000) (hd : p.data.length ≤ 100000) (hn : p.needs.length ≤ 100000) :
    Calls Tryz.prog 98 #[.pointer (some ⟨g, 0, none⟩), .agg (p.cs d n).toArray] w fun e w' => e = .returned (.tuple #[.int .i64 (Z.addN p), .int .i64 (Z.addE p)]) ∧ ∃ E' F', Gh w' g (Z.add p) E' F' ∧ Stp F w w' ∧ Grew F F' w w' ∧ Grew E E' w w' := by
  obtain ⟨mp, mw, f, fw, hg⟩ := H
  exact add_any hg p d n hp hpm hX hlt hd hn
set_option maxRecDepth 100000 in
set_option maxHeartbeats 4000000 in
theorem vpatch_any (H : Vx u A V U E F) (ok : VOk t k V) (ht : t ≤ 8990) (hk : k < 2000) (hT : ∀ x, T x ↔ Vt A U E F x) (p : Pt) (d n : Sv) (hp : p.wfp) (hpm : PtM u X p d n) (hX : ∀ x, X x → ¬ F x) (hd : p.data.length ≤ 100000) (hn : p.needs.length ≤ 6) :
    Calls Tryz.prog 75 #[.pointer (some ⟨A.v, 0, none⟩), .agg (p.cs d n).toArray] u fun e w' => e = .returned (.tuple #[.int .i64 (V.patN p), .int .i64 (V.patE p)]) ∧ VG A (V.pat p) T u w' := by
  have hGp := fun w' (b : Below u.heap.size u w') => vgroup_any (H.later b) p.at'
  obtain ⟨g8, gI⟩ := grp_lt V p.at'
  have hla := ok.la
  have hAdd := fun w' (b : Below u.heap.size u w') => add_L (H.later b).gh p d n hp (hpm.later b) hX (by omega) hd (by omega)
  rw [← gI] at hGp
  have hE1 : V.hasG p.at' = false → V.patE p = 2 ∧ V.patN p = 0 ∧ V.pat p = V := fun h => by
    have e : V.patE p = 2 := by unfold VZ.patE; rw [h]; rfl
    refine ⟨e, ?_, ?_⟩
    · unfold VZ.patN; rw [e]; rfl
    · unfold VZ.pat; rw [h]; rfl
  have hE2 : V.hasG p.at' = true → V.g.addOk p = false → V.patE p = 2 ∧ V.patN p = 0 ∧ V.pat p = V ∧ V.g.addE p = 2 ∧ V.g.add p = V.g := fun h h2 => by
    have e : V.patE p = 2 := by unfold VZ.patE; rw [h, h2]; rfl
    refine ⟨e, ?_, ?_, ?_, ?_⟩
    · unfold VZ.patN; rw [e]; rfl
    · unfold VZ.pat; rw [h, h2]; rfl
    · unfold GZ.addE; rw [h2]; rfl
    · unfold GZ.add; rw [h2]; rfl
  have hE3 : V.hasG p.at' = true → V.g.addOk p = true → V.patE p = V.mrkE (V.grp p.at') ∧ V.patN p = (if V.mrkE (V.grp p.at') = 0 then V.g.last + 1 else 0) ∧ V.pat p = { V with g := V.g.add p }.mrk (V.grp p.at') ∧ V.g.addE p = 0 ∧ V.g.addN p = V.g.last + 1 := fun h h2 => by
    have e : V.patE p = V.mrkE (V.grp p.at') := by unfold VZ.patE; rw [h, h2]; rfl
    refine ⟨e, ?_, ?_, ?_, ?_⟩
    · unfold VZ.patN; rw [e]
    · unfold VZ.pat; rw [h, h2]; rfl
    · unfold GZ.addE; rw [h2]; rfl
    · unfold GZ.addN; rw [h2]; rfl
  have hok2 : VOk t (k + 1) { V with g := V.g.add p } := ok.add p hn
  have hlt := H.lt
  generalize hm : V.grp p.at' = m at *
  clear gI hm
  have hR : ∀ (w2 w3 : World) (E' F' : Nat → Prop), Vx w2 A { V with g := V.g.add p } U E' F' → Stp T u w2 → (∀ x, Vt A U E' F' x → T x ∨ u.heap.size ≤ x) → Vx w3 A ({ V with g := V.g.add p }.mrk m) U E' F' → Stp (fun x => x = A.w ∨ U x) w2 w3 → VG A ({ V with g := V.g.add p }.mrk m) T u w3 := fun w2 w3 E' F' h2 s2 g2 h3 s3 =>
    VG.is h3 (s2.next s3 (fun x hx => .inl ((hT x).2 (by rcases hx with e | e; subst e; unfold Vt; simp; exact .inl e)))) g2
  cases hg : V.hasG p.at'
  · obtain ⟨e1, e2, e3⟩ := hE1 hg
    rw [e1, e2, e3]
    rw [hg] at hGp
    clear e1 e2 e3 hE1 hE2 hE3 hAdd hR hok2
    go_enter Tryz.func75, Tryz.ntmps75
    go_wp2_with (first
      | (refine at_boxP (by rfl) _ (by rfl) p d n (by rfl) ?_; intro g1 w1 a1 z1 r1 b1; have c1 := r1.cell 1 _ rfl)
      | (go_at_call 95; refine (hGp _ b1).mono ?_; rintro e w2 ⟨rfl, b2⟩))
    go_returns
    exact ⟨rfl, VG.is (H.later (bnext b1 b2 (Nat.le_refl _))) (Stp.of_below (bnext b1 b2 (Nat.le_refl _)) T) (fun x hx => .inl ((hT x).2 hx))⟩
  · rw [hg] at hGp
    have hH : Hid (V.g.addE p = 0 → V.g.addOk p = true) := fun h => by
      unfold GZ.addE at h
      cases ha : V.g.addOk p
      · rw [ha] at h; cases h
      · rfl
    have hH2 : Hid (V.g.addE p ≠ 0 → V.g.addOk p = false) := fun h => by
      unfold GZ.addE at h
      cases ha : V.g.addOk p
      · rfl
      · rw [ha] at h; exact absurd rfl h
    have hE2' : Hid (V.g.addOk p = false → V.patE p = 2 ∧ V.patN p = 0 ∧ V.pat p = V ∧ V.g.addE p = 2 ∧ V.g.add p = V.g) := hE2 hg
    have hE3' : Hid (V.g.addOk p = true → V.patE p = V.mrkE m ∧ V.patN p = (if V.mrkE m = 0 then V.g.last + 1 else 0) ∧ V.pat p = { V with g := V.g.add p }.mrk m ∧ V.g.addE p = 0 ∧ V.g.addN p = V.g.last + 1) := hE3 hg
    have hok' : Hid (VOk t (k + 1) { V with g := V.g.add p }) := hok2
    have hadd0 : Hid (V.g.addE p = V.g.addE p ∧ V.g.addN p = V.g.addN p) := ⟨rfl, rfl⟩
    clear hE1 hE2 hE3 hok2 hadd0
    obtain ⟨e1, he1⟩ : ∃ e1, Hid (V.g.addE p = e1) := ⟨_, rfl⟩
    obtain ⟨N0, hN0⟩ : ∃ e1, Hid (V.g.addN p = e1) := ⟨_, rfl⟩
    rw [he1.out, hN0.out] at hAdd
    obtain ⟨rN, hrN⟩ : ∃ r, Hid (V.patN p = r) := ⟨_, rfl⟩
    obtain ⟨rE, hrE⟩ : ∃ r, Hid (V.patE p = r) := ⟨_, rfl⟩
    rw [hrN.out, hrE.out]
    go_enter Tryz.func75, Tryz.ntmps75
    go_wp2_with (first
      | (refine at_boxP (by rfl) _ (by rfl) p d n (by rfl) ?_; intro g1 w1 a1 z1 r1 b1; have c1 := r1.cell 1 _ rfl)
      | (go_at_call 95; refine (hGp _ b1).mono ?_; rintro e w2 ⟨rfl, b2⟩))
    have B2 := bnext b1 b2 (Nat.le_refl _)
    have H2 := H.later B2
    have r2 := r1.step (Stp.of_below b2 (fun _ => False)) id
    have hg1 : ¬ F g1 := fun hf => by have := H.gh.lt.1 g1 hf; omega
    clear hGp c1 r1 b1 b2
    refine wp_region_held_drew (S := fun x => Stp F w2 x) (by kernel_rfl) (Stp.refl _ _).drew (fun hHeld => ?_)
    refine tl 0 (.pointer (some ⟨A.v, 0, none⟩)) rfl ?_
    try simp only [z]
    refine tl 1 (.pointer (some ⟨A.v, 0, none⟩)) rfl ?_
    try simp only [z]
    refine tl 2 (.pointer (some ⟨A.v, 1, none⟩)) rfl ?_
    try simp only [z]
    refine tl 3 (.pointer (some ⟨A.v, 1, none⟩)) rfl ?_
    try simp only [z]
    refine tl 4 (.pointer (some ⟨A.g, 0, none⟩)) rfl ?_ (fun u hu => by have x1 := (H2.c.step hu H2.uv.2.2.1).cell 1 _ rfl; go_simp)
    try simp only [z]
    refine tm 5 (.agg (p.cs d n).toArray) rfl
      (yields_P (by rfl) _ (by rfl) g1 (by rfl) p d n (fun x hx => r2.step hx hg1)) ?_
    try simp only [z]
    refine rd 6 rfl (fun K hK => ?_)
    go_simp
    refine (hAdd _ (bnext B2 (Below.refl _ _).drew (Nat.le_refl _))).mono ?_
    rintro e v3 ⟨rfl, E3, F3, q1, q2, q3, q4⟩
    try go_wp2_with fail
    refine hK.out _ _ ((Stp.refl F w2).drew.trans q2) (fun hHeld => ?_)
    clear hK K
    try simp only [z]
    refine tl 7 (.tuple #[.int .i64 N0, .int .i64 e1]) rfl ?_
    try simp only [z]
    refine tl 8 (.int .i64 N0) rfl ?_
    try simp only [z]
    refine tl 9 (.int .i64 e1) rfl ?_
    try simp only [z]
    refine tl 10 (.int .i64 N0) rfl ?_
    try simp only [z]
    refine tl 11 (.int .i64 e1) rfl ?_
    try simp only [z]
    refine wpAnyH_done (by kernel_rfl) ?_ _
    have H3 : Vx v3 A { V with g := V.g.add p } U E3 F3 := (H2.later (Below.refl _ _).drew).ofG q1 q2 q4 q3
    have S3 : Stp T u v3 := (Stp.of_below (bnext B2 (Below.refl _ _).drew (Nat.le_refl _)) T).next q2 (fun x hx => .inl ((hT x).2 (.inr (.inr (.inl hx)))))
    have g3 : ∀ x, Vt A U E3 F3 x → T x ∨ u.heap.size ≤ x := Vt.more hT (fun x hx => .inl hx) (fun x hx => by rcases q4 x hx with e | e; exact .inl e; exact .inr (by have := B2.size; have : w2.drew.heap.size = w2.heap.size := rfl; omega)) (fun x hx => by rcases q3 x hx with e | e; exact .inl e; exact .inr (by have := B2.size; have : w2.drew.heap.size = w2.heap.size := rfl; omega))
    clear hAdd q1 q2 q3 q4 r2 H2 hHeld
    by_cases h0 : e1 = 0
    · subst h0
      obtain ⟨f1, f2, f3, f4, f5⟩ := hE3'.out (hH.out he1.out)
      have hM := vmark_any H3 hok'.out (by omega) m g8
      have y3 := H3.cells.2.2.2.1
      have hrr : Hid (rE = V.mrkE m ∧ rN = (if V.mrkE m = 0 then V.g.last + 1 else 0) ∧ N0 = V.g.last + 1 ∧ V.pat p = { V with g := V.g.add p }.mrk m) := ⟨by rw [← hrE.out, f1], by rw [← hrN.out, f2], by rw [← hN0.out, f5], f3⟩
      have hmE : ({ V with g := V.g.add p } : VZ).mrkE m = V.mrkE m := rfl
      rw [hmE] at hM
      obtain ⟨mE, hmE'⟩ : ∃ r, Hid (V.mrkE m = r) := ⟨_, rfl⟩
      rw [hmE'.out] at hM
      clear f1 f2 f3 f4 f5 hmE
      by_cases hm0 : mE = 0
      · subst hm0
        go_wp2_with (first
          | (go_at_call 96; refine hM.mono ?_; rintro e w4 ⟨rfl, H4, s4⟩; clear hM))
        go_returns
        obtain ⟨p1, p2, p3, p4⟩ := hrr.out
        exact ⟨by rw [p1, p2, p3, hmE'.out]; rfl, by rw [p4]; exact hR _ _ _ _ H3 S3 g3 H4 s4⟩
      · have hd0 : ¬ mE = 0 := hm0
        go_wp2_with (first
          | (go_at_call 96; refine hM.mono ?_; rintro e w4 ⟨rfl, H4, s4⟩; clear hM))
        go_returns
        obtain ⟨p1, p2, p3, p4⟩ := hrr.out
        exact ⟨by rw [p1, p2, hmE'.out, if_neg hm0]; rfl, by rw [p4]; exact hR _ _ _ _ H3 S3 g3 H4 s4⟩
    · obtain ⟨f1, f2, f3, f4, f5⟩ := hE2'.out (hH2.out (by rw [he1.out]; exact h0))
      have hrr : Hid (rE = 2 ∧ rN = 0 ∧ e1 = 2 ∧ V.pat p = V ∧ V.g.add p = V.g) := ⟨by rw [← hrE.out, f1], by rw [← hrN.out, f2], by rw [← he1.out, f4], f3, f5⟩
      clear f1 f2 f3 f4 f5
      go_wp2_with fail
      go_returns
      obtain ⟨p1, p2, p3, p4, p5⟩ := hrr.out
      refine ⟨by rw [p1, p2, p3]; rfl, ?_⟩
      rw [p4]
      rw [p5] at H3
      exact VG.is H3 S3 g3
end
set_option maxRecDepth 100000
def VZ.mk1E (V : VZ) (x : Int) : Int := if V.hasG x then V.mrkE (V.grp x) else 0
def VZ.mk1 (V : VZ) (x : Int) : VZ := if V.hasG x then V.mrk (V.grp x) else V
def VZ.mrks (V : VZ) : List Int → Int × VZ
  | [] => (0, V)
  | x :: r => if V.mk1E x = 0 then (V.mk1 x).mrks r else (V.mk1E x, V.mk1 x)
theorem mrks_snoc : ∀ {L : List Int} {V : VZ} (y : Int), (V.mrks L).1 = 0 → V.mrks (L ++ [y]) = ((V.mrks L).2.mk1E y, (V.mrks L).2.mk1 y) := by
  intro L
  induction L with
  | nil =>
    intro V y _
    show V.mrks [y] = (V.mk1E y, V.mk1 y)
    unfold VZ.mrks
    by_cases h : V.mk1E y = 0
    · rw [if_pos h, h]; rfl
    · rw [if_neg h]
  | cons i r ih =>
    intro V y h
    have e : (i :: r) ++ [y] = i :: (r ++ [y]) := rfl
    rw [e]
    unfold VZ.mrks at h ⊢
    by_cases hi : V.mk1E i = 0
    · rw [if_pos hi] at h ⊢
      rw [if_pos hi]
      exact ih y h
    · rw [if_neg hi] at h
      exact absurd h hi
theorem mrks_stop : ∀ {L : List Int} {V : VZ} (B : List Int), (V.mrks L).1 ≠ 0 → V.mrks (L ++ B) = V.mrks L := by
  intro L
  induction L with
  | nil => intro V B h; exact absurd rfl h
  | cons i r ih =>
    intro V B h
    have e : (i :: r) ++ B = i :: (r ++ B) := rfl
    rw [e]
    unfold VZ.mrks at h ⊢
    by_cases hi : V.mk1E i = 0
    · rw [if_pos hi] at h ⊢
      rw [if_pos hi]
      exact ih B h
    · rw [if_neg hi, if_neg hi]
section
variable {u : World} {A : VA} {V : VZ} {U E F T B : Nat → Prop} {t k : Nat}
theorem VOk.mk1 (h : VOk t k V) (x : Int) : VOk (t + 3) k (V.mk1 x) := by
  unfold VZ.mk1
  split
  · exact h.mrk _
  · exact h.mono (by omega) (Nat.le_refl _)
theorem VOk.mrks : ∀ (L : List Int) (V : VZ) (t : Nat), VOk t k V → VOk (t + 3 * L.length) k (V.mrks L).2
  | [], V, t, h => h.mono (by omega) (Nat.le_refl _)
  | i :: r, V, t, h => by
    unfold VZ.mrks
    split
    · exact (VOk.mrks r (V.mk1 i) (t + 3) (h.mk1 i)).mono (by simp only [List.length_cons]; omega) (Nat.le_refl _)
    · exact (h.mk1 i).mono (by simp only [List.length_cons]; omega) (Nat.le_refl _)
set_option maxHeartbeats 4000000 in
theorem vmarks_any (H : Vx u A V U E F) (ok : VOk t k V) {s : Sv} {L : List Int} (hs : InsS u s L) (he : InE B s) (hB : ∀ x, B x → ¬ T x) (hL : t + 3 * L.length ≤ 8990) (hT : ∀ x, T x ↔ Vt A U E F x) :
    Calls Tryz.prog 73 #[.pointer (some ⟨A.v, 0, none⟩), .slice s.a s.n s.c] u fun e w' => e = .returned (.int .i64 (V.mrks L).1) ∧ VG A (V.mrks L).2 T u w' := by
  have hl := hs.i.len
  have hVo : Vo u A V T := ⟨U, E, F, H, hT⟩
  obtain ⟨na, nn, nc⟩ := s
  have hokJ : ∀ j, j ≤ L.length → VOk (t + 3 * j) k (V.mrks (L.take j)).2 := fun j hj => by
    have := VOk.mrks (L.take j) V t ok
    rw [List.length_take, Nat.min_eq_left hj] at this; exact this
  obtain ⟨rE, hrE⟩ : ∃ r, Hid ((V.mrks L).1 = r) := ⟨_, rfl⟩
  rw [hrE.out]
  go_enter Tryz.func73, Tryz.ntmps73
  go_wp2
  go_loopw [14] (fun x wr => ∃ j : Nat, j ≤ L.length ∧ x = .int .i64 (j : Int) ∧ (V.mrks (L.take j)).1 = 0 ∧ VG A (V.mrks (L.take j)).2 T u wr) (fun x _ => L.length - (intOf x).toNat)
  case atStart => exact ⟨0, Nat.zero_le _, rfl, rfl, VG.refl hVo⟩
  case round =>
    obtain ⟨j, hj, rfl, ze, vg⟩ := hrel
    obtain ⟨T', ⟨U1, E1, F1, H1, hT1⟩, s1, g1⟩ := vg
    have hokj := hokJ j hj
    by_cases hlt' : j < L.length
    · have h2 := hs.step s1 he hB
      obtain ⟨bb, o, e, hcs⟩ := h2.i.cell (by simp only at hl ⊢; omega)
      have ck := hcs j (by simp only at hl ⊢; omega)
      simp only at e
      subst e
      have hTk : L.take (j + 1) = L.take j ++ [L.getD j 0] := by
        rw [List.take_add_one, List.getElem?_eq_getElem hlt', List.getD_eq_getElem?_getD, List.getElem?_eq_getElem hlt']; rfl
      have e1 : Hid (V.mrks (L.take (j + 1)) = ((V.mrks (L.take j)).2.mk1E (L.getD j 0), (V.mrks (L.take j)).2.mk1 (L.getD j 0))) := by show _ = _; rw [hTk, mrks_snoc _ ze]
      have e2 : Hid ((V.mrks (L.take (j + 1))).1 ≠ 0 → V.mrks L = V.mrks (L.take (j + 1))) := fun h => by
        have := mrks_stop (L.drop (j + 1)) h
        rwa [List.take_append_drop] at this
      generalize L.getD j 0 = y at *
      generalize hV1 : (V.mrks (L.take j)).2 = V1 at *
      have hG := vgroup_any H1 y
      obtain ⟨g8, gI⟩ := grp_lt V1 y
      rw [← gI] at hG
      have hM := fun w' (b : Below wr.heap.size wr w') => vmark_any (H1.later b) hokj (by omega) (V1.grp y) g8
      have e3 : Hid (V1.hasG y = true → V1.mk1E y = V1.mrkE (V1.grp y) ∧ V1.mk1 y = V1.mrk (V1.grp y)) := fun h => by
        unfold VZ.mk1E VZ.mk1; rw [h]; exact ⟨rfl, rfl⟩
      have e4 : Hid (V1.hasG y = false → V1.mk1E y = 0 ∧ V1.mk1 y = V1) := fun h => by
        unfold VZ.mk1E VZ.mk1; rw [h]; exact ⟨rfl, rfl⟩
      have a3 : (j : Int) < (nn : Int) := by omega
      clear hcs h2 hTk hV1 gI
      generalize hm : V1.grp y = m at *
      clear hm
      cases hh : V1.hasG y
      · rw [hh] at hG
        obtain ⟨p1, p2⟩ := e4.out hh
        have e5 : Hid ((V.mrks (L.take (j + 1))).1 = 0 ∧ (V.mrks (L.take (j + 1))).2 = V1) := ⟨by rw [e1.out]; exact p1, by rw [e1.out]; exact p2⟩
        clear p1 p2 hM
        go_wp2_with (first
          | (go_at_call 95; refine hG.mono ?_; rintro e w4 ⟨rfl, b4⟩; clear hG))
        go_roundw
        case rel => exact ⟨j + 1, by omega, by go_num, e5.out.1, by rw [e5.out.2]; exact VG.seq s1 g1 (VG.low ⟨U1, E1, F1, H1, hT1⟩ b4)⟩
        case measure => simp [intOf]; omega
      · rw [hh] at hG
        obtain ⟨p1, p2⟩ := e3.out hh
        obtain ⟨e0, he0⟩ : ∃ e0, Hid (V1.mrkE m = e0) := ⟨_, rfl⟩
        rw [he0.out] at hM p1
        have e5 : Hid ((V.mrks (L.take (j + 1))).1 = e0 ∧ (V.mrks (L.take (j + 1))).2 = V1.mrk m) := ⟨by rw [e1.out]; exact p1, by rw [e1.out]; exact p2⟩
        have fin : ∀ w4 w5, Below wr.heap.size wr w4 → Vx w5 A (V1.mrk m) U1 E1 F1 → Stp (fun x => x = A.w ∨ U1 x) w4 w5 → VG A (V1.mrk m) T u w5 := fun w4 w5 b4 h5 s5 =>
          VG.seq s1 g1 (VG.is h5 ((Stp.of_below b4 T').next s5 (fun x hx => .inl ((hT1 x).2 (by rcases hx with e | e; subst e; unfold Vt; simp; exact .inl e)))) (fun x hx => .inl ((hT1 x).2 hx)))
        clear p1 p2
        by_cases h0 : e0 = 0
        · subst h0
          go_wp2_with (first
            | (go_at_call 95; refine hG.mono ?_; rintro e w4 ⟨rfl, b4⟩; clear hG; have y3 := (H1.later b4).cells.2.2.2.1)
            | (go_at_call 96; refine (hM _ b4).mono ?_; rintro e w5 ⟨rfl, h5, s5⟩; clear hM))
          go_roundw
          case rel => exact ⟨j + 1, by omega, by go_num, e5.out.1, by rw [e5.out.2]; exact fin w4 w5 b4 h5 s5⟩
          case measure => simp [intOf]; omega
        · have hd0 : ¬ e0 = 0 := h0
          have e6 : Hid (V.mrks L = (e0, V1.mrk m)) := by
            show _ = _
            rw [e2.out (by rw [e5.out.1]; exact h0)]
            exact Prod.ext e5.out.1 e5.out.2
          go_wp2_with (first
            | (go_at_call 95; refine hG.mono ?_; rintro e w4 ⟨rfl, b4⟩; clear hG; have y3 := (H1.later b4).cells.2.2.2.1)
            | (go_at_call 96; refine (hM _ b4).mono ?_; rintro e w5 ⟨rfl, h5, s5⟩; clear hM))
          go_returns
          exact ⟨by rw [← hrE.out, e6.out]; rfl, by rw [e6.out]; exact fin w4 w5 b4 h5 s5⟩
    · have hj' : j = L.length := by omega
      subst hj'
      have e6 : Hid (V.mrks (L.take L.length) = V.mrks L) := by show _ = _; rw [List.take_length]
      have e7 : Hid (rE = 0) := by show _ = _; rw [← hrE.out, ← e6.out]; exact ze
      go_wp2_with fail
      go_returns
      refine ⟨by rw [e7.out]; rfl, ?_⟩
      rw [← e6.out]
      exact ⟨T', ⟨U1, E1, F1, H1, hT1⟩, s1, g1⟩
end
set_option maxRecDepth 100000
def shwK (S : DS) (k : Nat) : List Blk := (List.range S.n).map fun (i : Nat) => if i < k then S.shown (i : Int) else Blk.zero
def shw (S : DS) : List Blk := (List.range S.n).map fun (i : Nat) => S.shown (i : Int)
theorem shw_len (S : DS) : (shw S).length = S.n := by unfold shw; simp
theorem shwK_zero (S : DS) : shwK S 0 = List.replicate S.n Blk.zero := by
  unfold shwK
  apply List.ext_getElem
  · simp
  · intro i h1 h2; simp
theorem shwK_all (S : DS) : shwK S S.n = shw S := by
  unfold shwK shw
  apply List.map_congr_left
  intro i hi
  rw [if_pos (List.mem_range.1 hi)]
theorem shwK_set (S : DS) {k : Nat} (hk : k < S.n) : (shwK S k).set k (S.shown (k : Int)) = shwK S (k + 1) := by
  unfold shwK
  apply List.ext_getElem
  · simp
  · intro i h1 h2
    rw [List.getElem_set]
    by_cases e : k = i
    · subst e; simp
    · simp only [if_neg e, List.getElem_map, List.getElem_range]
      by_cases h : i < k
      · rw [if_pos h, if_pos (by omega)]
      · rw [if_neg h, if_neg (by omega)]
theorem BlsU.bls {w : World} {a : Option Addr} {n c : Nat} {l : List Blk} (h : BlsU w a n c l) : Bls w a n c l := ⟨h.len, h.le, h.cap, h.cell⟩
set_option maxHeartbeats 4000000 in
theorem vshown_any {u : World} {g : Nat} {sp : Value} {S : DS} {F : Nat → Prop} (h : Disk u g sp S F) (hn : S.n ≤ 2048) :
    Calls Tryz.prog 62 #[.pointer (some ⟨g, 0, none⟩)] u fun e w' => ∃ b, e = .returned (.slice (some ⟨b, 0, none⟩) S.n S.n) ∧ u.heap.size ≤ b ∧ Wd w' b S.n S.n (shw S) ∧ Below u.heap.size u w' := by
  have hL := len_anyD h
  have hR := fun w' (b : Below u.heap.size u w') (i : Nat) (hi : i < S.n) => read_anyD (h.step (Stp.of_below b (fun _ => False)) (fun _ _ => id)) (i : Int) (wfi_of (by omega))
  obtain ⟨n, hn0⟩ : ∃ n, Hid (S.n = n) := ⟨_, rfl⟩
  have hle : n ≤ 2048 := by rw [← hn0.out]; exact hn
  rw [hn0.out] at hL ⊢
  go_enter Tryz.func62, Tryz.ntmps62
  go_wp2_with (first
    | (go_at_call 90; refine hL.mono ?_; rintro e w2 ⟨rfl, rfl⟩; clear hL)
    | (refine at_mkB (by rfl) _ (by rfl) n (by rfl) (by omega) ?_; intro gb w3 a3 r3 b3))
  have start : Wd w3 gb n n (shwK S 0) := by rw [shwK_zero, hn0.out]; exact r3
  clear r3
  go_loopw [10] (fun x wr => ∃ k : Nat, k ≤ n ∧ x = .int .i64 (k : Int) ∧ Wd wr gb n n (shwK S k) ∧ Below u.heap.size u wr) (fun x _ => n - (intOf x).toNat)
  case atStart => exact ⟨0, Nat.zero_le _, rfl, start, b3⟩
  case round =>
    clear start
    obtain ⟨k, hk, rfl, r, b⟩ := hrel
    by_cases hlt : k < n
    · have hlt' : (k : Int) < (n : Int) := by omega
      have e1 : Hid ((shwK S k).set k (S.shown (k : Int)) = shwK S (k + 1)) := shwK_set S (by rw [hn0.out]; exact hlt)
      have hRk := hR _ b k (by rw [hn0.out]; exact hlt)
      generalize S.shown (k : Int) = X at *
      generalize checkErr S (k : Int) = x0 at *
      go_wp2_with (first
        | (go_at_call 91; refine hRk.mono ?_; rintro e w4 ⟨rfl, b4⟩; clear hRk)
        | (refine at_putM (by rfl) _ _ (by rfl) gb k n n _ _ (by rfl) (by omega) X (by rfl) (r.later b4) hlt ?_; intro w5 r5 s5))
      have B5 : Below u.heap.size u w5 := ((Stp.of_below (bnext b b4 (Nat.le_refl _)) (fun _ => False)).next s5 (fun x e => .inr (by omega))).below (Nat.le_refl _) (fun x e => e.elim)
      have J : Wd w5 gb n n (shwK S (k + 1)) := by rw [← e1.out]; exact r5
      go_wp2_with fail
      go_roundw
      case rel => exact ⟨k + 1, by omega, by go_num, J, B5⟩
      case measure => simp [intOf]; omega
    · have hk' : k = n := by omega
      subst hk'
      have hJ : Hid (Wd wr gb k k (shw S)) := by
        show Wd _ _ _ _ _
        rw [← shwK_all, hn0.out]; exact r
      go_wp2_with fail
      go_returns
      exact ⟨_, rfl, a3, hJ.out, b⟩
set_option maxRecDepth 100000
def VZ.new (d : DS) (p : PS) (x : WS) (n : Nat) : VZ := ⟨CZ.new d (some p) n, x, GZ.new, fdG (shw d), []⟩
set_option maxHeartbeats 4000000 in
theorem vnew_good {u : World} {gd gw s : Nat} {d : DS} {p : PS} {x : WS} {F G : Nat → Prop} (hd : DD u gd (.pointer (some ⟨s, 0, none⟩)) d (some p) F G) (hw : Ww u gw x (some s)) (ht : Tab u) (n : Nat) (h1 : 1 ≤ n) (h2 : n ≤ 64) (hf : fdE (shw d) = 0)
    (a1 : ¬ F gw) (a2 : ¬ G gw) (a3 : gw ≠ 0) (a4 : ¬ F 0) (a5 : ¬ G 0) :
    Calls Tryz.prog 33 #[.pointer (some ⟨gd, 0, none⟩), .pointer (some ⟨gw, 0, none⟩), .int .i64 (n : Int)] u fun e w' => ∃ gv' gc gg U E F', e = .returned (.tuple #[.pointer (some ⟨gv', 0, none⟩), .int .i64 0]) ∧ u.heap.size ≤ gv' ∧ Vx w' ⟨gv', gc, gg, gd, gw, s, u.heap[0]?⟩ (VZ.new d p x n) U E F' ∧ Below u.heap.size u w' ∧
      (∀ y, U y → F y ∨ G y ∨ u.heap.size ≤ y) ∧ (∀ y, E y → u.heap.size ≤ y) ∧ (∀ y, F' y → u.heap.size ≤ y) := by
  have hC := cnew_ca hd n h1 h2
  have hok := (fd_ok hf).2.1
  have hn2 := hd.d.ok.n2
  have hS := fun w' (b : Below u.heap.size u w') => vshown_any (hd.d.step (Stp.of_below b (fun _ => False)) (fun _ _ => id)) hn2
  have hFd : ∀ w' b, Wd w' b d.n d.n (shw d) → _ := fun w' b h => sfind_any (some ⟨b, 0, none⟩) d.n d.n (shw d) w' h.bls
  rw [hf] at hFd
  have hl0 := ht.lt
  have hlw := hw.lt
  have hFl := hd.d.lt
  have hGl := hd.gl
  unfold VZ.new
  generalize fdG (shw d) = sg at *
  generalize fdI (shw d) = si at *
  obtain ⟨dn, hdn⟩ : ∃ m, Hid (d.n = m) := ⟨_, rfl⟩
  rw [hdn.out] at hS hFd
  have t1 : Hid True := trivial
  go_enter Tryz.func33, Tryz.ntmps33
  go_wp2_with (first
    | (go_at_call 60; refine hC.mono ?_; rintro e w2 ⟨gc, U, rfl, ca, b2, hU⟩; clear hC)
    | (go_at_call 62; refine (hS _ b2).mono ?_; rintro e w3 ⟨gb, rfl, l3, r3, b3⟩; clear hS)
    | (go_at_call 61; refine (hFd _ _ r3).mono ?_; rintro e w4 ⟨rfl, b4⟩; clear hFd)
    | (refine at_newG (by rfl) (by rfl) ?_; intro g5 w5 a6 z6 r5 b5)
    | (refine at_putG (by rfl) _ _ (by rfl) g5 (by rfl) sg (by rfl) _ r5 ?_; intro W r6 s6))
  have hw2 := b2.size
  have hw3 := b3.size
  have hw4 := b4.size
  have BW : Below u.heap.size u W := ((Stp.of_below (bnext (bnext (bnext b2 b3 (Nat.le_refl _)) b4 (Nat.le_refl _)) b5 (Nat.le_refl _)) (fun _ => False)).next s6 (fun x e => .inr (by omega))).below (Nat.le_refl _) (fun x e => e.elim)
  have hg5 : ¬ U g5 := fun e => by have := ca.lt g5 e; omega
  have caW : Ca W gc gd (.pointer (some ⟨s, 0, none⟩)) (CZ.new d (some p) n) U := (ca.later (bnext (bnext b3 b4 (Nat.le_refl _)) b5 (Nat.le_refl _))).step s6 (fun x hx e => by subst e; exact hg5 hx)
  have wwW := hw.later BW
  have tbW := ht.later BW
  clear ca b3 b4 b5 s6 r5 r3
  refine wp_region_held_drew (S := fun x => Below W.heap.size W x) (by kernel_rfl) (Below.refl _ _).drew (fun hHeld => ?_)
  refine tl 0 (.pointer (some ⟨gc, 0, none⟩)) rfl ?_
  try simp only [z]
  refine tl 3 (.pointer (some ⟨gd, 0, none⟩)) rfl ?_
  try simp only [z]
  refine tl 4 (.pointer (some ⟨gw, 0, none⟩)) rfl ?_
  try simp only [z]
  refine tm 5 (gv sg) rfl
    (yields_G (by rfl) _ (by rfl) g5 (by rfl) sg (fun x hx => r6.later hx)) ?_
  try simp only [z]
  refine rd 1 rfl (fun K hK => ?_)
  go_simp
  refine (new_any _).mono ?_
  rintro e v1 ⟨gg, rfl, E1, F1, q1, q2, q3, c1⟩
  try go_wp2_with fail
  refine hK.out _ _ (bnext hHeld c1 (Nat.le_refl _)) (fun hHeld => ?_)
  clear hK K
  try simp only [z]
  refine tl 2 (.agg #[.pointer (some ⟨gg, 0, none⟩)]) rfl ?_
  try simp only [z]
  refine tl 6 (.agg #[.pointer (some ⟨gc, 0, none⟩), .pointer (some ⟨gg, 0, none⟩), .pointer (some ⟨gd, 0, none⟩), .pointer (some ⟨gw, 0, none⟩), .int .i64 sg.g, .int .i64 sg.i, .int .i64 sg.d, .slice none 0 0]) rfl ?_ (fun u hu => by kernel_rfl)
  try simp only [z]
  refine rd 7 rfl (fun K hK => ?_)
  refine step_boxC 111 rfl (.tmp 39) rfl [.pointer (some ⟨gc, 0, none⟩), .pointer (some ⟨gg, 0, none⟩), .pointer (some ⟨gd, 0, none⟩), .pointer (some ⟨gw, 0, none⟩), .int .i64 sg.g, .int .i64 sg.i, .int .i64 sg.d, .slice none 0 0] (by rfl) (by intro v hv; simp at hv; rcases hv with rfl | rfl | rfl | rfl | rfl | rfl | rfl | rfl <;> rfl) ?_
  intro gV v8 m8 z8 r8 b8
  refine hK.out _ _ (bnext hHeld b8 (Nat.le_refl _)) (fun hHeld => ?_)
  clear hK K
  try simp only [z]
  refine tl 8 (.pointer (some ⟨gV, 0, none⟩)) rfl ?_
  try simp only [z]
  refine tl 9 (.int .i64 0) rfl ?_
  try simp only [z]
  refine wpAnyH_done (by kernel_rfl) ?_ _
  go_wp2_with fail
  go_returns
  have hwW := BW.size
  have H8 : ∀ y, U y → F y ∨ G y ∨ u.heap.size ≤ y := hU
  have b18 : Below W.heap.size W v8 := hHeld
  have hlW : ∀ y, U y → y < W.heap.size := caW.lt
  have cf : (∀ y, F1 y → W.heap.size ≤ y) ∧ (∀ y, E1 y → W.heap.size ≤ y) := ⟨q2, q3⟩
  have hv1 : W.heap.size ≤ v1.heap.size := c1.size
  have hgl := Gh.lt q1
  refine ⟨gV, gc, gg, U, E1, F1, rfl, by omega, ⟨r8, caW.later b18, ⟨p, rfl⟩, wwW.later b18, Gh.later q1 b8, tbW.later b18, (bnext BW b18 (Nat.le_refl _)).block 0 hl0, hok, rfl, ⟨fun e => ?_, fun e => ?_, fun e => ?_, ?_, ?_⟩, ⟨fun e => ?_, fun e => ?_, fun e => ?_, a3⟩, fun y hy => ⟨fun e => ?_, fun e => ?_⟩, fun e => ?_, fun e => ?_, fun e => ?_⟩, bnext BW b18 (Nat.le_refl _), hU, fun y hy => by have := cf.2 y hy; omega, fun y hy => by have := cf.1 y hy; omega⟩
  · have := hlW _ e; simp only at this; omega
  · have := hgl.2.1 _ e; simp only at this; omega
  · have := hgl.1 _ e; simp only at this; omega
  · simp only; omega
  · simp only; omega
  · rcases hU _ e with e | e | e
    · exact a1 e
    · exact a2 e
    · simp only at e; omega
  · have := cf.2 _ e; simp only at this; omega
  · have := cf.1 _ e; simp only at this; omega
  · have := hlW y hy; have := cf.2 y e; omega
  · have := hlW y hy; have := cf.1 y e; omega
  · rcases hU _ e with e | e | e
    · exact a4 e
    · exact a5 e
    · omega
  · have := cf.2 _ e; omega
  · have := cf.1 _ e; omega
def TwoR (e : Int) (pv : Option Addr) (Q : Nat → Prop) : Prop := (e ≠ 0 ∧ pv = none) ∨ (e = 0 ∧ ∃ g, pv = some ⟨g, 0, none⟩ ∧ Q g)
theorem TwoR.yes {e : Int} {pv : Option Addr} {Q : Nat → Prop} (h : TwoR e pv Q) (he : e = 0) : ∃ g, pv = some ⟨g, 0, none⟩ ∧ Q g := (Or.resolve_left h (fun k => k.1 he)).2
theorem TwoR.no {e : Int} {pv : Option Addr} {Q : Nat → Prop} (h : TwoR e pv Q) (he : e ≠ 0) : pv = none := (Or.resolve_right h (fun k => he k.1)).2
def mkE (d : DS) (n : Int) : Int := if n < 1 ∨ 64 < n then 2 else fdE (shw d)
theorem vnew_size {u : World} (dv wv : Value) (n : Int) (h : dv = .pointer none ∨ ((∃ g, dv = .pointer (some ⟨g, 0, none⟩)) ∧ (n < 1 ∨ 64 < n))) :
    Calls Tryz.prog 33 #[dv, wv, .int .i64 n] u fun e w' => e = .returned (.tuple #[.pointer none, .int .i64 2]) ∧ u = w' := by
  have hC := cnew_bad (w := u) dv n h
  clear h
  go_enter Tryz.func33, Tryz.ntmps33
  go_wp2_with (first
    | (go_at_call 60; refine hC.mono ?_; rintro e w2 ⟨rfl, rfl⟩; clear hC))
  go_returns
  exact ⟨rfl, rfl⟩
theorem vnew_nil {u : World} {gd : Nat} {sp : Value} {d : DS} {p : Option PS} {F G : Nat → Prop} (hd : DD u gd sp d p F G) (n : Int) :
    Calls Tryz.prog 33 #[.pointer (some ⟨gd, 0, none⟩), .pointer none, .int .i64 n] u fun e w' => e = .returned (.tuple #[.pointer none, .int .i64 2]) ∧ Below u.heap.size u w' := by
  by_cases hn : n < 1 ∨ 64 < n
  · exact (vnew_size _ _ n (.inr ⟨⟨gd, rfl⟩, hn⟩)).mono fun e w' ⟨h1, h2⟩ => ⟨h1, h2 ▸ Below.refl _ _⟩
  · obtain ⟨m, rfl⟩ : ∃ m : Nat, n = (m : Int) := ⟨n.toNat, by omega⟩
    have hC := cnew_ca hd m (by omega) (by omega)
    clear hn
    go_enter Tryz.func33, Tryz.ntmps33
    go_wp2_with (first
      | (go_at_call 60; refine hC.mono ?_; rintro e w2 ⟨gc, U, rfl, ca, b2, hU⟩; clear hC))
    go_returns
    exact ⟨rfl, b2⟩
set_option maxHeartbeats 4000000 in
theorem vnew_none {u : World} {gd gw : Nat} {sp : Value} {d : DS} {p : Option PS} {F G : Nat → Prop} (hd : DD u gd sp d p F G) (n : Nat) (h1 : 1 ≤ n) (h2 : n ≤ 64) (hf : fdE (shw d) ≠ 0) :
    Calls Tryz.prog 33 #[.pointer (some ⟨gd, 0, none⟩), .pointer (some ⟨gw, 0, none⟩), .int .i64 (n : Int)] u fun e w' => e = .returned (.tuple #[.pointer none, .int .i64 (fdE (shw d))]) ∧ Below u.heap.size u w' := by
  have hC := cnew_ca hd n h1 h2
  have hn2 := hd.d.ok.n2
  have hS := fun w' (b : Below u.heap.size u w') => vshown_any (hd.d.step (Stp.of_below b (fun _ => False)) (fun _ _ => id)) hn2
  have hFd : ∀ w' b, Wd w' b d.n d.n (shw d) → _ := fun w' b h => sfind_any (some ⟨b, 0, none⟩) d.n d.n (shw d) w' h.bls
  generalize fdG (shw d) = sg at *
  generalize fdI (shw d) = si at *
  generalize fdE (shw d) = e0 at *
  obtain ⟨dn, hdn⟩ : ∃ m, Hid (d.n = m) := ⟨_, rfl⟩
  rw [hdn.out] at hS hFd
  have hd0 : ¬ e0 = 0 := hf
  go_enter Tryz.func33, Tryz.ntmps33
  go_wp2_with (first
    | (go_at_call 60; refine hC.mono ?_; rintro e w2 ⟨gc, U, rfl, ca, b2, hU⟩; clear hC)
    | (go_at_call 62; refine (hS _ b2).mono ?_; rintro e w3 ⟨gb, rfl, l3, r3, b3⟩; clear hS)
    | (go_at_call 61; refine (hFd _ _ r3).mono ?_; rintro e w4 ⟨rfl, b4⟩; clear hFd)
    | (refine at_newG (by rfl) (by rfl) ?_; intro g5 w5 a6 z6 r5 b5)
    | (refine at_putG (by rfl) _ _ (by rfl) g5 (by rfl) sg (by rfl) _ r5 ?_; intro W r6 s6))
  go_returns
  have hw2 := b2.size
  have hw3 := b3.size
  have hw4 := b4.size
  exact ⟨rfl, ((Stp.of_below (bnext (bnext (bnext b2 b3 (Nat.le_refl _)) b4 (Nat.le_refl _)) b5 (Nat.le_refl _)) (fun _ => False)).next s6 (fun x e => .inr (by omega))).below (Nat.le_refl _) (fun x e => e.elim)⟩
def NewV (u w' : World) (gd gw s : Nat) (d : DS) (p : PS) (x : WS) (n : Int) (F G : Nat → Prop) (gV : Nat) : Prop := ∃ gc gg U E F', u.heap.size ≤ gV ∧ Vx w' ⟨gV, gc, gg, gd, gw, s, u.heap[0]?⟩ (VZ.new d p x n.toNat) U E F' ∧ (∀ y, U y → F y ∨ G y ∨ u.heap.size ≤ y) ∧ (∀ y, E y → u.heap.size ≤ y) ∧ (∀ y, F' y → u.heap.size ≤ y)
theorem vnew_any {u : World} {gd gw s : Nat} {d : DS} {p : PS} {x : WS} {F G : Nat → Prop} (hd : DD u gd (.pointer (some ⟨s, 0, none⟩)) d (some p) F G) (hw : Ww u gw x (some s)) (ht : Tab u) (n : Int) (a1 : ¬ F gw) (a2 : ¬ G gw) (a3 : gw ≠ 0) (a4 : ¬ F 0) (a5 : ¬ G 0) :
    Calls Tryz.prog 33 #[.pointer (some ⟨gd, 0, none⟩), .pointer (some ⟨gw, 0, none⟩), .int .i64 n] u fun e w' => ∃ pv, e = .returned (.tuple #[.pointer pv, .int .i64 (mkE d n)]) ∧ Below u.heap.size u w' ∧ TwoR (mkE d n) pv (NewV u w' gd gw s d p x n F G) := by
  by_cases hn : n < 1 ∨ 64 < n
  · have e : mkE d n = 2 := by unfold mkE; rw [if_pos hn]
    rw [e]
    exact (vnew_size _ _ n (.inr ⟨⟨gd, rfl⟩, hn⟩)).mono fun e w' ⟨h1, h2⟩ => ⟨none, h1, h2 ▸ Below.refl _ _, .inl ⟨by decide, rfl⟩⟩
  · have e : mkE d n = fdE (shw d) := by unfold mkE; rw [if_neg hn]
    rw [e]
    obtain ⟨m, rfl⟩ : ∃ m : Nat, n = (m : Int) := ⟨n.toNat, by omega⟩
    by_cases hf : fdE (shw d) = 0
    · refine (vnew_good hd hw ht m (by omega) (by omega) hf a1 a2 a3 a4 a5).mono ?_
      rintro e w' ⟨gV, gc, gg, U, E, F', rfl, h1, h2, h3, h4, h5, h6⟩
      exact ⟨_, by rw [hf], h3, .inr ⟨hf, gV, rfl, gc, gg, U, E, F', h1, h2, h4, h5, h6⟩⟩
    · refine (vnew_none hd m (by omega) (by omega) hf).mono ?_
      rintro e w' ⟨rfl, h3⟩
      exact ⟨none, rfl, h3, .inl ⟨hf, rfl⟩⟩
end Go.Proofs.YtennaimdffohfaaGreatDoor
