/-
  Texts of my own, joined: no statement is proved here.
-/
import Derived.Maps.AppendAt
import Derived.OpenShut
import Derived.Test.YtennaimdffohfaaGreatDoorJar
set_option linter.unusedSimpArgs false
set_option linter.unusedVariables false
namespace Go.Proofs.YtennaimdffohfaaGreatDoor
open Go.ChangeShapes Go.WideShapes Go.ChangeAt Go.RowKit
def To (gc g mp : Nat) (sp : Value) (E F G : Nat → Prop) (Z' : CZ) (w w' : World) : Prop := ∃ ov' f' E' F', Cx w' gc g sp Z' mp ov' f' E' F' G ∧ Stp (Al E F G) w w' ∧ Grew E E' w w' ∧ Grew F F' w w'
section
variable {w w1 w' : World} {gc g mp : Nat} {sp ov : Value} {Z Z' : CZ} {f : Int → Option Value} {E F G : Nat → Prop}
theorem Grew.pre {F F' : Nat → Prop} (h : Grew F F' w1 w') (b : w.heap.size ≤ w1.heap.size) : Grew F F' w w' := fun x hx => by
  rcases h x hx with e | e
  · exact .inl e
  · exact .inr ⟨Nat.le_trans b e.1, e.2⟩
theorem Cx.far (H : Cx w gc g sp Z mp ov f E F G) (x : Nat) (hx : w.heap.size ≤ x) : ¬ Al E F G x := fun e => by
  rcases e with e | e | e
  · have := H.cm.lt x e; omega
  · have := H.dd.d.lt x e; omega
  · have := H.dd.gl x e; omega
end
theorem fnd_head {l r : El} {i : Int} {q : Pg} (hl : l = (i, q) :: r) : fndC l i = some q := by
  subst hl; unfold fndC; simp
set_option maxRecDepth 100000 in
set_option maxHeartbeats 2000000 in
theorem hold_any {w : World} {gc g mp : Nat} {sp ov : Value} {Z : CZ} {f : Int → Option Value} {E F G : Nat → Prop} {t : Nat} (H : Cx w gc g sp Z mp ov f E F G) (ok : Z.ok t) (ht : t ≤ 10000) (i : Int) (hwi : (Lit.int .i64 i).wf = true) :
    Calls Tryz.prog 127 #[.pointer (some ⟨gc, 0, none⟩), .int .i64 i] w fun e w' => ∃ ov' f' E' F', e = .returned (.tuple #[hp (Z.holdE i) (f' i), .int .i64 (Z.holdE i)]) ∧ Cx w' gc g sp (Z.hold i) mp ov' f' E' F' G ∧ Stp (Al E F G) w w' ∧ Grew E E' w w' ∧ Grew F F' w w' := by
  have hfi := find_anyC H.cm i hwi
  cases hq : fndC Z.l i with
  | none =>
    have e3 : pgE (fndC Z.l) i = 5 := by unfold pgE; rw [hq]
    rw [e3, H.cm.no i hq] at hfi; clear e3
    have hB := bring_any H ok ht i hwi hq
    go_enter Tryz.func127, Tryz.ntmps127
    go_wp2_with (first
      | (go_at_call 144; refine hfi.mono ?_; rintro e w1 ⟨rfl, rfl⟩)
      | (go_at_call 145; refine hB.mono ?_; rintro e w1 ⟨ov1, f1, E1, F1, rfl, H1, s1, g1, g2⟩))
    go_returns
    exact ⟨ov1, f1, E1, F1, rfl, H1, s1, g1, g2⟩
  | some q =>
    obtain ⟨r, hf, hE, hc⟩ := H.page hq
    have hi : Z.d.inn i := ok.inn _ (fnd_memC hq)
    have hki : i ∈ keys Z.l := mem_key (fnd_memC hq)
    have e3 : pgE (fndC Z.l) i = 0 := by unfold pgE; rw [hq]
    rw [e3, hf] at hfi; clear e3
    have e1 : Z.holdE i = 0 := by unfold CZ.holdE; rw [if_pos hi, hq]
    have e2 : Z.hold i = Z.hit i q := by unfold CZ.hold; rw [if_pos hi, hq]
    rw [e1, e2]; clear e1 e2
    obtain ⟨y0, y1, y2, y3, y4, y5⟩ := H.cm.cells
    have v4 := H.cm.c.frozen 4
    have h1 := H.cm.hit (wrap64 (Z.h + 1))
    have z3 := h1.c.cell 3 _ rfl
    have hkl : (keys Z.l).length ≤ 64 := by rw [keys_len]; have := ok.len; have := ok.n2; omega
    obtain ⟨a0, n0, c0, hov⟩ := H.cm.ow.shape
    subst hov
    go_enter Tryz.func127, Tryz.ntmps127
    go_wp2_with (first
      | (go_at_call 144; refine hfi.mono ?_; rintro e w1 ⟨rfl, rfl⟩)
      | (go_at_call 146; refine (index_own h1.ow i (by omega) hki).mono ?_; rintro e w1 ⟨⟨k, hk, rfl, her⟩, rfl⟩
         have a3 : IntKind.i64.wrap ((k : Int) + 1) = (k : Int) + 1 := by rw [IntKind.wrap_i64]; omega)
      | (go_at_call 148; refine (delete_own h1.ow k hk).mono ?_; rintro e w2 ⟨ov1, rfl, o2, b2, s2⟩
         rw [her] at o2
         have o2' := o2.later ((Below.refl _ w2).alloc (Nat.le_refl _) (.cells #[.int .i64 i] 3)))
      | (go_at_call 147; refine (insert_own o2' i w2.heap.size (heap_alloc_new w2 _) (fun e => by have := o2.lt e; omega) (by have := List.length_erase_le (a := i) (l := keys Z.l); omega)).mono ?_; rintro e w3 ⟨ov2, rfl, o3, b3, s3⟩
         have c3 := ((h1.c.step s2 (fun e => (h1.eo gc e).2 rfl)).later ((Below.refl _ w2).alloc (Nat.le_refl _) (.cells #[.int .i64 i] 3))).step s3 (fun e => (h1.eo gc (by rw [← b2]; exact e)).2 rfl)
         have q3 := c3.cell 3 _ rfl
         have f3 := c3.frozen 3
         obtain ⟨a10, n10, c10, hov10⟩ := o3.shape
         subst hov10))
    go_returns
    obtain ⟨E', H5, s5, g5⟩ := H.hit ok.nd hq _ rfl s2 b2 s3 o3 b3
    exact ⟨_, f, E', F, by rw [hp0, hf]; rfl, H5, Al.left s5, g5, Grew.refl _ _ _⟩
set_option maxRecDepth 100000 in
set_option maxHeartbeats 2000000 in
theorem get_anyC {w : World} {gc g mp : Nat} {sp ov : Value} {Z : CZ} {f : Int → Option Value} {E F G : Nat → Prop} {t : Nat} (H : Cx w gc g sp Z mp ov f E F G) (ok : Z.ok t) (ht : t ≤ 10000) (i : Int) (hwi : (Lit.int .i64 i).wf = true) :
    Calls Tryz.prog 99 #[.pointer (some ⟨gc, 0, none⟩), .int .i64 i] w fun e w' => e = .returned (.tuple #[.agg (Z.got i).cs.toArray, .int .i64 (Z.holdE i)]) ∧ To gc g mp sp E F G (Z.hold i) w w' := by
  have hH := fun u (hu : Below w.heap.size w u) => hold_any (H.later hu) ok ht i hwi
  by_cases he : Z.holdE i = 0
  · obtain ⟨q, rs, hl⟩ := hold_head he
    have e1 : Z.got i = q.b := by unfold CZ.got; rw [if_pos he, fnd_head hl]
    have hHE : Hid (Z.got i = q.b ∧ Z.holdE i = 0) := ⟨e1, he⟩
    rw [he] at hH; clear e1 he
    go_enter Tryz.func99, Tryz.ntmps99
    go_wp2_with (first
      | (refine at_newB (by rfl) (by rfl) ?_; intro gb w1 a1 l1 r1 b1)
      | (go_at_call 127; refine (hH _ b1).mono ?_; rintro e w2 ⟨ov2, f2, E2, F2, rfl, H2, s2, gE, gF⟩
         obtain ⟨r, hr, hE2, hc⟩ := H2.page (fnd_head hl)
         rw [hp0, hr]
         have r2 : Cs w2 gb Blk.zero.cs := r1.step s2 (H.far gb a1)
         clear hH)
      | (refine at_getB (by rfl) _ (by rfl) r (by rfl) q.b (Pg.b_range hc) ?_)
      | (refine at_putB (by rfl) _ _ (by rfl) gb (by rfl) q.b (by rfl) _ r2 ?_; intro w3 r3 s3))
    have hgb : ¬ E2 gb ∧ ¬ F2 gb ∧ ¬ G gb := by
      refine ⟨fun e => ?_, fun e => ?_, fun e => ?_⟩
      · rcases gE gb e with e | e
        · exact H.far gb a1 (.inl e)
        · omega
      · rcases gF gb e with e | e
        · exact H.far gb a1 (.inr (.inl e))
        · omega
      · exact H.far gb a1 (.inr (.inr e))
    have H3 := H2.step s3 (fun x hx e => hgb.1 (e ▸ hx)) (fun x hx e => hgb.2.1 (e ▸ hx)) (fun x hx e => hgb.2.2 (e ▸ hx))
    have S2 : Stp (Al E F G) w w2 := (Stp.of_below b1 (Al E F G)).trans s2
    refine bodyPost_ret (retBt Tryz.results99 rfl rfl r3) rfl ⟨by obtain ⟨q1, q2⟩ := hHE.out; rw [q1, q2]; rfl, ov2, f2, E2, F2, H3, S2.next s3 (fun x e => .inr (by rw [e]; exact a1)), Grew.trans (b := w2) (gE.pre b1.size) (Grew.refl _ _ _) S2.size s3.size, Grew.trans (b := w2) (gF.pre b1.size) (Grew.refl _ _ _) S2.size s3.size⟩
  · have e1 : Z.got i = Blk.zero := by unfold CZ.got; rw [if_neg he]
    have hHE : Hid (Z.got i = Blk.zero) := e1
    clear e1
    go_enter Tryz.func99, Tryz.ntmps99
    go_wp2_with (first
      | (refine at_newB (by rfl) (by rfl) ?_; intro gb w1 a1 l1 r1 b1)
      | (go_at_call 127; refine (hH _ b1).mono ?_; rintro e w2 ⟨ov2, f2, E2, F2, rfl, H2, s2, gE, gF⟩
         have r2 : Cs w2 gb Blk.zero.cs := r1.step s2 (H.far gb a1)
         clear hH)
      | (refine at_build (by rfl) (by rfl) ?_)
      | (refine at_putB (by rfl) _ _ (by rfl) gb (by rfl) Blk.zero (by rfl) _ r2 ?_; intro w3 r3 s3))
    have hgb : ¬ E2 gb ∧ ¬ F2 gb ∧ ¬ G gb := by
      refine ⟨fun e => ?_, fun e => ?_, fun e => ?_⟩
      · rcases gE gb e with e | e
        · exact H.far gb a1 (.inl e)
        · omega
      · rcases gF gb e with e | e
        · exact H.far gb a1 (.inr (.inl e))
        · omega
      · exact H.far gb a1 (.inr (.inr e))
    have H3 := H2.step s3 (fun x hx e => hgb.1 (e ▸ hx)) (fun x hx e => hgb.2.1 (e ▸ hx)) (fun x hx e => hgb.2.2 (e ▸ hx))
    have S2 : Stp (Al E F G) w w2 := (Stp.of_below b1 (Al E F G)).trans s2
    refine bodyPost_ret (retBt Tryz.results99 rfl rfl r3) rfl ⟨by rw [hHE.out]; rfl, ov2, f2, E2, F2, H3, S2.next s3 (fun x e => .inr (by rw [e]; exact a1)), Grew.trans (b := w2) (gE.pre b1.size) (Grew.refl _ _ _) S2.size s3.size, Grew.trans (b := w2) (gF.pre b1.size) (Grew.refl _ _ _) S2.size s3.size⟩
theorem cnew_bad {w : World} (v : Value) (n : Int) (h : v = .pointer none ∨ ((∃ g, v = .pointer (some ⟨g, 0, none⟩)) ∧ (n < 1 ∨ 64 < n))) :
    Calls Tryz.prog 60 #[v, .int .i64 n] w fun e w' => e = .returned (.tuple #[.pointer none, .int .i64 2]) ∧ w = w' := by
  rcases h with rfl | ⟨⟨g, rfl⟩, h⟩
  · go_enter Tryz.func60, Tryz.ntmps60
    go_wp2
    go_returns
    exact ⟨rfl, rfl⟩
  · by_cases h1 : n < 1
    · clear h
      go_enter Tryz.func60, Tryz.ntmps60
      go_wp2
      go_returns
      exact ⟨rfl, rfl⟩
    · have h2 : 64 < n := by omega
      clear h
      go_enter Tryz.func60, Tryz.ntmps60
      go_wp2
      go_returns
      exact ⟨rfl, rfl⟩
def CZ.new (d : DS) (p : Option PS) (n : Nat) : CZ := ⟨d, p, n, [], 0, 0⟩
theorem CZ.new_ok {d : DS} {p : Option PS} {n t : Nat} (h1 : 1 ≤ n) (h2 : n ≤ 64) (hw : ∀ i, (d.wt i).length ≤ t) (hp : ∀ s, p = some s → okAt s t) : (CZ.new d p n).ok t :=
  ⟨h1, h2, List.nodup_nil, (fun e he => by cases he), Nat.zero_le _, (fun e he => by cases he), hw, hp⟩
theorem cnew_good {w : World} {g : Nat} {sp : Value} {d : DS} {p : Option PS} {F G : Nat → Prop} (hd : DD w g sp d p F G) (n : Nat) (h1 : 1 ≤ n) (h2 : n ≤ 64) :
    Calls Tryz.prog 60 #[.pointer (some ⟨g, 0, none⟩), .int .i64 (n : Int)] w fun e w' => ∃ gc mp E, e = .returned (.tuple #[.pointer (some ⟨gc, 0, none⟩), .int .i64 0]) ∧ Cx w' gc g sp (CZ.new d p n) mp (.slice none 0 0) (fun _ => none) E F G ∧ Below w.heap.size w w' ∧ (∀ x, E x → w.heap.size ≤ x) := by
  have a1 : (1 : Int) ≤ (n : Int) := by omega
  have a2 : (n : Int) ≤ 64 := by omega
  go_enter Tryz.func60, Tryz.ntmps60
  go_wp2_with (refine at_makeM _ (by rfl) (by rfl) ?_; intro mp w1 l1 m1 b1)
  go_returns
  have b2 : Below w1.heap.size w1 (w1.alloc (.cells #[.pointer (some ⟨g, 0, none⟩), .int .i64 (n : Int), .map (some mp), .slice none 0 0, .int .i64 0, .int .i64 0] 172)) := (Below.refl _ w1).alloc (Nat.le_refl _) _
  have B2 := bnext b1 b2 (Nat.le_refl _)
  have hm1 := m1.lt
  refine ⟨w1.heap.size, mp, (fun x => x = w1.heap.size ∨ x = mp), rfl, ⟨hd.step (Stp.of_below B2 (fun _ => False)) (fun _ _ => id) (fun _ _ => id), ⟨?_, OwV.nil _, m1.step (Stp.of_below b2 (fun _ => False)) id, (fun k q hq => by cases hq), fun _ _ => rfl, (fun a b s e _ => by cases e), .inl rfl, .inr rfl, (fun r hr => by cases hr), fun x hx => ?_⟩, fun x hx e => ?_, fun x hx e => ?_⟩, B2, fun x hx => ?_⟩
  · exact Cs.made w1 [.pointer (some ⟨g, 0, none⟩), .int .i64 (n : Int), .map (some mp), .slice none 0 0, .int .i64 0, .int .i64 0] 172 (by intro v hv; simp at hv; rcases hv with rfl | rfl | rfl | rfl | rfl <;> rfl)
  · rcases hx with rfl | rfl
    · simp
    · have := b2.size; omega
  · have := hd.d.lt x e
    have := b1.size
    rcases hx with rfl | rfl <;> omega
  · have := hd.gl x e
    have := b1.size
    rcases hx with rfl | rfl <;> omega
  · have := b1.size
    rcases hx with rfl | rfl <;> omega
def Ca (u : World) (gc g : Nat) (sp : Value) (Z : CZ) (U : Nat → Prop) : Prop := ∃ mp ov f E F G, Cx u gc g sp Z mp ov f E F G ∧ ∀ x, U x ↔ Al E F G x
def Goes (gc g : Nat) (sp : Value) (Z' : CZ) (U : Nat → Prop) (w w' : World) : Prop := ∃ U', Ca w' gc g sp Z' U' ∧ Stp U w w' ∧ Grew U U' w w'
section
variable {u u' : World} {gc g : Nat} {sp : Value} {Z Z' : CZ} {U B : Nat → Prop} {t : Nat}
theorem Ca.lt (h : Ca u gc g sp Z U) : ∀ x, U x → x < u.heap.size := by
  obtain ⟨mp, ov, f, E, F, G, H, hU⟩ := h
  intro x hx
  exact Nat.lt_of_not_le (fun hl => H.far x hl ((hU x).1 hx))
theorem Ca.step (h : Ca u gc g sp Z U) (k : Stp B u u') (hB : ∀ x, U x → ¬ B x) : Ca u' gc g sp Z U := by
  obtain ⟨mp, ov, f, E, F, G, H, hU⟩ := h
  exact ⟨mp, ov, f, E, F, G, H.step k (fun x hx => hB x ((hU x).2 (.inl hx))) (fun x hx => hB x ((hU x).2 (.inr (.inl hx)))) (fun x hx => hB x ((hU x).2 (.inr (.inr hx)))), hU⟩
theorem Ca.later (h : Ca u gc g sp Z U) (k : Below u.heap.size u u') : Ca u' gc g sp Z U := h.step (Stp.of_below k (fun _ => False)) (fun _ _ => id)
theorem to_goes {mp : Nat} {E F G : Nat → Prop} (h : To gc g mp sp E F G Z' u u') (hU : ∀ x, U x ↔ Al E F G x) : Goes gc g sp Z' U u u' := by
  obtain ⟨ov', f', E', F', h1, h2, h3, h4⟩ := h
  refine ⟨Al E' F' G, ⟨mp, ov', f', E', F', G, h1, fun _ => Iff.rfl⟩, h2.mono (fun x hx => .inl ((hU x).2 hx)), fun x hx => ?_⟩
  rcases Al.grew h3 h4 x hx with e | e
  · exact .inl ((hU x).2 e)
  · exact .inr e
theorem get_ca (h : Ca u gc g sp Z U) (ok : Z.ok t) (ht : t ≤ 9000) (i : Int) (hi : (Lit.int .i64 i).wf = true) :
    Calls Tryz.prog 99 #[.pointer (some ⟨gc, 0, none⟩), .int .i64 i] u fun e u' => e = .returned (.tuple #[.agg (Z.got i).cs.toArray, .int .i64 (Z.holdE i)]) ∧ Goes gc g sp (Z.hold i) U u u' := by
  obtain ⟨mp, ov, f, E, F, G, H, hU⟩ := h
  exact (get_anyC H ok (by omega) i hi).mono (fun e u' ⟨h1, h2⟩ => ⟨h1, to_goes h2 hU⟩)
theorem cnew_ca {d : DS} {p : Option PS} {F G : Nat → Prop} (hd : DD u g sp d p F G) (n : Nat) (h1 : 1 ≤ n) (h2 : n ≤ 64) :
    Calls Tryz.prog 60 #[.pointer (some ⟨g, 0, none⟩), .int .i64 (n : Int)] u fun e u' => ∃ gc U, e = .returned (.tuple #[.pointer (some ⟨gc, 0, none⟩), .int .i64 0]) ∧ Ca u' gc g sp (CZ.new d p n) U ∧ Below u.heap.size u u' ∧ (∀ x, U x → F x ∨ G x ∨ u.heap.size ≤ x) :=
  (cnew_good hd n h1 h2).mono (fun e u' ⟨gc, mp, E, h1, h2, h3, h4⟩ => ⟨gc, Al E F G, h1, ⟨mp, _, _, E, F, G, h2, fun _ => Iff.rfl⟩, h3, fun x hx => by
    rcases hx with e | e | e
    · exact .inr (.inr (h4 x e))
    · exact .inl e
    · exact .inr (.inl e)⟩)
end
def b7 : Blk := ⟨7 :: List.replicate 63 0, by simp⟩
def z0 : CZ := CZ.new (DS.new 3) none 1
structure A3 where
  d : Int
  t : Int
  b : Blk
end Go.Proofs.YtennaimdffohfaaGreatDoor
