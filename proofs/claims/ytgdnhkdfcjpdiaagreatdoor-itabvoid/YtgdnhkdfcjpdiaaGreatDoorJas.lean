/-
  Texts of my own, joined: no statement is proved here.
-/
import Derived.Maps.AppendAt
import Derived.Test.YtgdnhkdfcjpdiaaGreatDoorRows
import Derived.OpenShut
import Derived.Test.YtgdnhkdfcjpdiaaGreatDoorJar
set_option linter.unusedSimpArgs false
set_option linter.unusedVariables false
namespace Go.Proofs.YtgdnhkdfcjpdiaaGreatDoor
open Go.ChangeShapes Go.WideShapes Go.ChangeAt Go.RowKit
def To (gc g mp : Nat) (sp : Value) (E F G : Nat → Prop) (Z' : CZ) (w w' : World) : Prop := ∃ ov' f' E' F', Cx w' gc g sp Z' mp ov' f' E' F' G ∧ Stp (Al E F G) w w' ∧ Grew E E' w w' ∧ Grew F F' w w'
section
variable {w w1 w' : World} {gc g mp : Nat} {sp ov : Value} {Z Z' : CZ} {f : Int → Option Value} {E F G : Nat → Prop}
theorem Grew.pre {F F' : Nat → Prop} (h : Grew F F' w1 w') (b : w.heap.size ≤ w1.heap.size) : Grew F F' w w' := fun x hx => by
  rcases h x hx with e | e
  · exact .inl e
  · exact .inr ⟨Nat.le_trans b e.1, e.2⟩
theorem Cx.far (H : Cx w gc g sp Z mp ov f E F G) (x : Nat) (hx : w.heap.size ≤ x) : ¬ Al E F G x := fun e => by
  rcases e with e | e | e
  · have := H.cm.lt x e; omega
  · have := H.dd.d.lt x e; omega
  · have := H.dd.gl x e; omega
end
theorem fnd_head {l r : El} {i : Int} {q : Pg} (hl : l = (i, q) :: r) : fndC l i = some q := by
  subst hl; unfold fndC; simp
set_option maxRecDepth 100000 in
set_option maxHeartbeats 2000000 in
theorem hold_any {w : World} {gc g mp : Nat} {sp ov : Value} {Z : CZ} {f : Int → Option Value} {E F G : Nat → Prop} {t : Nat} (H : Cx w gc g sp Z mp ov f E F G) (ok : Z.ok t) (ht : t ≤ 10000) (i : Int) (hwi : (Lit.int .i64 i).wf = true) :
    Calls Tryz.prog 86 #[.pointer (some ⟨gc, 0, none⟩), .int .i64 i] w fun e w' => ∃ ov' f' E' F', e = .returned (.tuple #[hp (Z.holdE i) (f' i), .int .i64 (Z.holdE i)]) ∧ Cx w' gc g sp (Z.hold i) mp ov' f' E' F' G ∧ Stp (Al E F G) w w' ∧ Grew E E' w w' ∧ Grew F F' w w' := by
  have hfi := find_anyC H.cm i hwi
  cases hq : fndC Z.l i with
  | none =>
    have e3 : pgE (fndC Z.l) i = 5 := by unfold pgE; rw [hq]
    rw [e3, H.cm.no i hq] at hfi; clear e3
    have hB := bring_any H ok ht i hwi hq
    go_enter Tryz.func86, Tryz.ntmps86
    go_wp2_with (first
      | (go_at_call 115; refine hfi.mono ?_; rintro e w1 ⟨rfl, rfl⟩)
      | (go_at_call 116; refine hB.mono ?_; rintro e w1 ⟨ov1, f1, E1, F1, rfl, H1, s1, g1, g2⟩))
    go_returns
    exact ⟨ov1, f1, E1, F1, rfl, H1, s1, g1, g2⟩
  | some q =>
    obtain ⟨r, hf, hE, hc⟩ := H.page hq
    have hi : Z.d.inn i := ok.inn _ (fnd_memC hq)
    have hki : i ∈ keys Z.l := mem_key (fnd_memC hq)
    have e3 : pgE (fndC Z.l) i = 0 := by unfold pgE; rw [hq]
    rw [e3, hf] at hfi; clear e3
    have e1 : Z.holdE i = 0 := by unfold CZ.holdE; rw [if_pos hi, hq]
    have e2 : Z.hold i = Z.hit i q := by unfold CZ.hold; rw [if_pos hi, hq]
    rw [e1, e2]; clear e1 e2
    obtain ⟨y0, y1, y2, y3, y4, y5⟩ := H.cm.cells
    have v4 := H.cm.c.frozen 4
    have h1 := H.cm.hit (wrap64 (Z.h + 1))
    have z3 := h1.c.cell 3 _ rfl
    have hkl : (keys Z.l).length ≤ 64 := by rw [keys_len]; have := ok.len; have := ok.n2; omega
    obtain ⟨a0, n0, c0, hov⟩ := H.cm.ow.shape
    subst hov
    go_enter Tryz.func86, Tryz.ntmps86
    go_wp2_with (first
      | (go_at_call 115; refine hfi.mono ?_; rintro e w1 ⟨rfl, rfl⟩)
      | (go_at_call 117; refine (index_own h1.ow i (by omega) hki).mono ?_; rintro e w1 ⟨⟨k, hk, rfl, her⟩, rfl⟩
         have a3 : IntKind.i64.wrap ((k : Int) + 1) = (k : Int) + 1 := by rw [IntKind.wrap_i64]; omega)
      | (go_at_call 119; refine (delete_own h1.ow k hk).mono ?_; rintro e w2 ⟨ov1, rfl, o2, b2, s2⟩
         rw [her] at o2
         have o2' := o2.later ((Below.refl _ w2).alloc (Nat.le_refl _) (.cells #[.int .i64 i] 3)))
      | (go_at_call 118; refine (insert_own o2' i w2.heap.size (heap_alloc_new w2 _) (fun e => by have := o2.lt e; omega) (by have := List.length_erase_le (a := i) (l := keys Z.l); omega)).mono ?_; rintro e w3 ⟨ov2, rfl, o3, b3, s3⟩
         have c3 := ((h1.c.step s2 (fun e => (h1.eo gc e).2 rfl)).later ((Below.refl _ w2).alloc (Nat.le_refl _) (.cells #[.int .i64 i] 3))).step s3 (fun e => (h1.eo gc (by rw [← b2]; exact e)).2 rfl)
         have q3 := c3.cell 3 _ rfl
         have f3 := c3.frozen 3
         obtain ⟨a10, n10, c10, hov10⟩ := o3.shape
         subst hov10))
    go_returns
    obtain ⟨E', H5, s5, g5⟩ := H.hit ok.nd hq _ rfl s2 b2 s3 o3 b3
    exact ⟨_, f, E', F, by rw [hp0, hf]; rfl, H5, Al.left s5, g5, Grew.refl _ _ _⟩
set_option maxRecDepth 100000 in
set_option maxHeartbeats 2000000 in
theorem get_anyC {w : World} {gc g mp : Nat} {sp ov : Value} {Z : CZ} {f : Int → Option Value} {E F G : Nat → Prop} {t : Nat} (H : Cx w gc g sp Z mp ov f E F G) (ok : Z.ok t) (ht : t ≤ 10000) (i : Int) (hwi : (Lit.int .i64 i).wf = true) :
    Calls Tryz.prog 62 #[.pointer (some ⟨gc, 0, none⟩), .int .i64 i] w fun e w' => e = .returned (.tuple #[.agg (Z.got i).cs.toArray, .int .i64 (Z.holdE i)]) ∧ To gc g mp sp E F G (Z.hold i) w w' := by
  have hH := fun u (hu : Below w.heap.size w u) => hold_any (H.later hu) ok ht i hwi
  by_cases he : Z.holdE i = 0
  · obtain ⟨q, rs, hl⟩ := hold_head he
    have e1 : Z.got i = q.b := by unfold CZ.got; rw [if_pos he, fnd_head hl]
    have hHE : Hid (Z.got i = q.b ∧ Z.holdE i = 0) := ⟨e1, he⟩
    rw [he] at hH; clear e1 he
    go_enter Tryz.func62, Tryz.ntmps62
    go_wp2_with (first
      | (refine at_newB (by rfl) (by rfl) ?_; intro gb w1 a1 l1 r1 b1)
      | (go_at_call 86; refine (hH _ b1).mono ?_; rintro e w2 ⟨ov2, f2, E2, F2, rfl, H2, s2, gE, gF⟩
         obtain ⟨r, hr, hE2, hc⟩ := H2.page (fnd_head hl)
         rw [hp0, hr]
         have r2 : Cs w2 gb Blk.zero.cs := r1.step s2 (H.far gb a1)
         clear hH)
      | (refine at_getB (by rfl) _ (by rfl) r (by rfl) q.b (Pg.b_range hc) ?_)
      | (refine at_putB (by rfl) _ _ (by rfl) gb (by rfl) q.b (by rfl) _ r2 ?_; intro w3 r3 s3))
    have hgb : ¬ E2 gb ∧ ¬ F2 gb ∧ ¬ G gb := by
      refine ⟨fun e => ?_, fun e => ?_, fun e => ?_⟩
      · rcases gE gb e with e | e
        · exact H.far gb a1 (.inl e)
        · omega
      · rcases gF gb e with e | e
        · exact H.far gb a1 (.inr (.inl e))
        · omega
      · exact H.far gb a1 (.inr (.inr e))
    have H3 := H2.step s3 (fun x hx e => hgb.1 (e ▸ hx)) (fun x hx e => hgb.2.1 (e ▸ hx)) (fun x hx e => hgb.2.2 (e ▸ hx))
    have S2 : Stp (Al E F G) w w2 := (Stp.of_below b1 (Al E F G)).trans s2
    refine bodyPost_ret (retBt Tryz.results62 rfl rfl r3) rfl ⟨by obtain ⟨q1, q2⟩ := hHE.out; rw [q1, q2]; rfl, ov2, f2, E2, F2, H3, S2.next s3 (fun x e => .inr (by rw [e]; exact a1)), Grew.trans (b := w2) (gE.pre b1.size) (Grew.refl _ _ _) S2.size s3.size, Grew.trans (b := w2) (gF.pre b1.size) (Grew.refl _ _ _) S2.size s3.size⟩
  · have e1 : Z.got i = Blk.zero := by unfold CZ.got; rw [if_neg he]
    have hHE : Hid (Z.got i = Blk.zero) := e1
    clear e1
    go_enter Tryz.func62, Tryz.ntmps62
    go_wp2_with (first
      | (refine at_newB (by rfl) (by rfl) ?_; intro gb w1 a1 l1 r1 b1)
      | (go_at_call 86; refine (hH _ b1).mono ?_; rintro e w2 ⟨ov2, f2, E2, F2, rfl, H2, s2, gE, gF⟩
         have r2 : Cs w2 gb Blk.zero.cs := r1.step s2 (H.far gb a1)
         clear hH)
      | (refine at_build (by rfl) (by rfl) ?_)
      | (refine at_putB (by rfl) _ _ (by rfl) gb (by rfl) Blk.zero (by rfl) _ r2 ?_; intro w3 r3 s3))
    have hgb : ¬ E2 gb ∧ ¬ F2 gb ∧ ¬ G gb := by
      refine ⟨fun e => ?_, fun e => ?_, fun e => ?_⟩
      · rcases gE gb e with e | e
        · exact H.far gb a1 (.inl e)
        · omega
      · rcases gF gb e with e | e
        · exact H.far gb a1 (.inr (.inl e))
        · omega
      · exact H.far gb a1 (.inr (.inr e))
    have H3 := H2.step s3 (fun x hx e => hgb.1 (e ▸ hx)) (fun x hx e => hgb.2.1 (e ▸ hx)) (fun x hx e => hgb.2.2 (e ▸ hx))
    have S2 : Stp (Al E F G) w w2 := (Stp.of_below b1 (Al E F G)).trans s2
    refine bodyPost_ret (retBt Tryz.results62 rfl rfl r3) rfl ⟨by rw [hHE.out]; rfl, ov2, f2, E2, F2, H3, S2.next s3 (fun x e => .inr (by rw [e]; exact a1)), Grew.trans (b := w2) (gE.pre b1.size) (Grew.refl _ _ _) S2.size s3.size, Grew.trans (b := w2) (gF.pre b1.size) (Grew.refl _ _ _) S2.size s3.size⟩
theorem cnew_bad {w : World} (v : Value) (n : Int) (h : v = .pointer none ∨ ((∃ g, v = .pointer (some ⟨g, 0, none⟩)) ∧ (n < 1 ∨ 64 < n))) :
    Calls Tryz.prog 48 #[v, .int .i64 n] w fun e w' => e = .returned (.tuple #[.pointer none, .int .i64 2]) ∧ w = w' := by
  rcases h with rfl | ⟨⟨g, rfl⟩, h⟩
  · go_enter Tryz.func48, Tryz.ntmps48
    go_wp2
    go_returns
    exact ⟨rfl, rfl⟩
  · by_cases h1 : n < 1
    · clear h
      go_enter Tryz.func48, Tryz.ntmps48
      go_wp2
      go_returns
      exact ⟨rfl, rfl⟩
    · have h2 : 64 < n := by omega
      clear h
      go_enter Tryz.func48, Tryz.ntmps48
      go_wp2
      go_returns
      exact ⟨rfl, rfl⟩
def CZ.new (d : DS) (p : Option PS) (n : Nat) : CZ := ⟨d, p, n, [], 0, 0⟩
theorem CZ.new_ok {d : DS} {p : Option PS} {n t : Nat} (h1 : 1 ≤ n) (h2 : n ≤ 64) (hw : ∀ i, (d.wt i).length ≤ t) (hp : ∀ s, p = some s → okAt s t) : (CZ.new d p n).ok t :=
  ⟨h1, h2, List.nodup_nil, (fun e he => by cases he), Nat.zero_le _, (fun e he => by cases he), hw, hp⟩
theorem cnew_good {w : World} {g : Nat} {sp : Value} {d : DS} {p : Option PS} {F G : Nat → Prop} (hd : DD w g sp d p F G) (n : Nat) (h1 : 1 ≤ n) (h2 : n ≤ 64) :
    Calls Tryz.prog 48 #[.pointer (some ⟨g, 0, none⟩), .int .i64 (n : Int)] w fun e w' => ∃ gc mp E, e = .returned (.tuple #[.pointer (some ⟨gc, 0, none⟩), .int .i64 0]) ∧ Cx w' gc g sp (CZ.new d p n) mp (.slice none 0 0) (fun _ => none) E F G ∧ Below w.heap.size w w' ∧ (∀ x, E x → w.heap.size ≤ x) := by
  have a1 : (1 : Int) ≤ (n : Int) := by omega
  have a2 : (n : Int) ≤ 64 := by omega
  go_enter Tryz.func48, Tryz.ntmps48
  go_wp2_with (refine at_makeM _ (by rfl) (by rfl) ?_; intro mp w1 l1 m1 b1)
  go_returns
  have b2 : Below w1.heap.size w1 (w1.alloc (.cells #[.pointer (some ⟨g, 0, none⟩), .int .i64 (n : Int), .map (some mp), .slice none 0 0, .int .i64 0, .int .i64 0] 171)) := (Below.refl _ w1).alloc (Nat.le_refl _) _
  have B2 := bnext b1 b2 (Nat.le_refl _)
  have hm1 := m1.lt
  refine ⟨w1.heap.size, mp, (fun x => x = w1.heap.size ∨ x = mp), rfl, ⟨hd.step (Stp.of_below B2 (fun _ => False)) (fun _ _ => id) (fun _ _ => id), ⟨?_, OwV.nil _, m1.step (Stp.of_below b2 (fun _ => False)) id, (fun k q hq => by cases hq), fun _ _ => rfl, (fun a b s e _ => by cases e), .inl rfl, .inr rfl, (fun r hr => by cases hr), fun x hx => ?_⟩, fun x hx e => ?_, fun x hx e => ?_⟩, B2, fun x hx => ?_⟩
  · exact Cs.made w1 [.pointer (some ⟨g, 0, none⟩), .int .i64 (n : Int), .map (some mp), .slice none 0 0, .int .i64 0, .int .i64 0] 171 (by intro v hv; simp at hv; rcases hv with rfl | rfl | rfl | rfl | rfl <;> rfl)
  · rcases hx with rfl | rfl
    · simp
    · have := b2.size; omega
  · have := hd.d.lt x e
    have := b1.size
    rcases hx with rfl | rfl <;> omega
  · have := hd.gl x e
    have := b1.size
    rcases hx with rfl | rfl <;> omega
  · have := b1.size
    rcases hx with rfl | rfl <;> omega
def Ca (u : World) (gc g : Nat) (sp : Value) (Z : CZ) (U : Nat → Prop) : Prop := ∃ mp ov f E F G, Cx u gc g sp Z mp ov f E F G ∧ ∀ x, U x ↔ Al E F G x
def Goes (gc g : Nat) (sp : Value) (Z' : CZ) (U : Nat → Prop) (w w' : World) : Prop := ∃ U', Ca w' gc g sp Z' U' ∧ Stp U w w' ∧ Grew U U' w w'
section
variable {u u' : World} {gc g : Nat} {sp : Value} {Z Z' : CZ} {U B : Nat → Prop} {t : Nat}
theorem Ca.lt (h : Ca u gc g sp Z U) : ∀ x, U x → x < u.heap.size := by
  obtain ⟨mp, ov, f, E, F, G, H, hU⟩ := h
  intro x hx
  exact Nat.lt_of_not_le (fun hl => H.far x hl ((hU x).1 hx))
theorem Ca.step (h : Ca u gc g sp Z U) (k : Stp B u u') (hB : ∀ x, U x → ¬ B x) : Ca u' gc g sp Z U := by
  obtain ⟨mp, ov, f, E, F, G, H, hU⟩ := h
  exact ⟨mp, ov, f, E, F, G, H.step k (fun x hx => hB x ((hU x).2 (.inl hx))) (fun x hx => hB x ((hU x).2 (.inr (.inl hx)))) (fun x hx => hB x ((hU x).2 (.inr (.inr hx)))), hU⟩
theorem Ca.later (h : Ca u gc g sp Z U) (k : Below u.heap.size u u') : Ca u' gc g sp Z U := h.step (Stp.of_below k (fun _ => False)) (fun _ _ => id)
theorem to_goes {mp : Nat} {E F G : Nat → Prop} (h : To gc g mp sp E F G Z' u u') (hU : ∀ x, U x ↔ Al E F G x) : Goes gc g sp Z' U u u' := by
  obtain ⟨ov', f', E', F', h1, h2, h3, h4⟩ := h
  refine ⟨Al E' F' G, ⟨mp, ov', f', E', F', G, h1, fun _ => Iff.rfl⟩, h2.mono (fun x hx => .inl ((hU x).2 hx)), fun x hx => ?_⟩
  rcases Al.grew h3 h4 x hx with e | e
  · exact .inl ((hU x).2 e)
  · exact .inr e
theorem get_ca (h : Ca u gc g sp Z U) (ok : Z.ok t) (ht : t ≤ 9000) (i : Int) (hi : (Lit.int .i64 i).wf = true) :
    Calls Tryz.prog 62 #[.pointer (some ⟨gc, 0, none⟩), .int .i64 i] u fun e u' => e = .returned (.tuple #[.agg (Z.got i).cs.toArray, .int .i64 (Z.holdE i)]) ∧ Goes gc g sp (Z.hold i) U u u' := by
  obtain ⟨mp, ov, f, E, F, G, H, hU⟩ := h
  exact (get_anyC H ok (by omega) i hi).mono (fun e u' ⟨h1, h2⟩ => ⟨h1, to_goes h2 hU⟩)
theorem cnew_ca {d : DS} {p : Option PS} {F G : Nat → Prop} (hd : DD u g sp d p F G) (n : Nat) (h1 : 1 ≤ n) (h2 : n ≤ 64) :
    Calls Tryz.prog 48 #[.pointer (some ⟨g, 0, none⟩), .int .i64 (n : Int)] u fun e u' => ∃ gc U, e = .returned (.tuple #[.pointer (some ⟨gc, 0, none⟩), .int .i64 0]) ∧ Ca u' gc g sp (CZ.new d p n) U ∧ Below u.heap.size u u' ∧ (∀ x, U x → F x ∨ G x ∨ u.heap.size ≤ x) :=
  (cnew_good hd n h1 h2).mono (fun e u' ⟨gc, mp, E, h1, h2, h3, h4⟩ => ⟨gc, Al E F G, h1, ⟨mp, _, _, E, F, G, h2, fun _ => Iff.rfl⟩, h3, fun x hx => by
    rcases hx with e | e | e
    · exact .inr (.inr (h4 x e))
    · exact .inl e
    · exact .inr (.inl e)⟩)
end
theorem same_anyC {w : World} {v1 v2 : Value} {l1 l2 : List Int} (h1 : OwV w v1 l1) (h2 : OwV w v2 l2) (hl : l1.length ≤ 1000000) :
    Calls Tryz.prog 11 #[v1, v2] w fun e w' => e = .returned (.bool (decide (l1 = l2))) ∧ Below w.heap.size w w' := by
  obtain ⟨a1, c1, rfl⟩ : ∃ a c, v1 = .slice a l1.length c := by
    rcases h1.row with ⟨e, e2⟩ | ⟨g0, cap, cur, e, _⟩
    · exact ⟨_, _, by rw [e2]; exact e⟩
    · exact ⟨_, _, e⟩
  obtain ⟨a2, c2, rfl⟩ : ∃ a c, v2 = .slice a l2.length c := by
    rcases h2.row with ⟨e, e2⟩ | ⟨g0, cap, cur, e, _⟩
    · exact ⟨_, _, by rw [e2]; exact e⟩
    · exact ⟨_, _, e⟩
  by_cases hlen : l1.length = l2.length
  · generalize hm0 : l2.length = m at h2 hlen ⊢
    subst hlen
    have hm : Hid (l2.length = l1.length) := hm0
    clear hm0
    go_enter Tryz.func11, Tryz.ntmps11
    go_wp2
    go_loopw [5] (fun v wr => ∃ k : Nat, k ≤ l1.length ∧ v = .int .i64 (k : Int) ∧ l1.take k = l2.take k ∧ Below w.heap.size w wr) (fun v _ => l1.length - (intOf v).toNat)
    case atStart => exact ⟨0, Nat.zero_le _, rfl, rfl, Below.refl _ _⟩
    case round =>
      obtain ⟨k, hk, rfl, heq, hb⟩ := hrel
      by_cases hlt : k < l1.length
      · have hlt' : (k : Int) < (l1.length : Int) := by omega
        have n1 : l1 ≠ [] := by intro e; rw [e] at hlt; simp at hlt
        have n2 : l2 ≠ [] := by intro e; have := hm.out; rw [e] at this; simp at this; omega
        obtain ⟨r1, cap1, cur1, e1, w1⟩ := (h1.later hb).row1 n1
        obtain ⟨r2, cap2, cur2, e2, w2⟩ := (h2.later hb).row1 n2
        obtain ⟨p1, -, p2⟩ := Value.slice.inj e1
        obtain ⟨p3, -, p4⟩ := Value.slice.inj e2
        subst p1; subst p2; subst p3; subst p4
        clear e1 e2
        have k1 := w1.cell k hlt
        have k2 := w2.cell k (by rw [hm.out]; exact hlt)
        have t1 : l1.take (k + 1) = l1.take k ++ [l1.getD k 0] := by
          rw [List.take_add_one, List.getD_eq_getElem?_getD, List.getElem?_eq_getElem hlt]; rfl
        have t2 : l2.take (k + 1) = l2.take k ++ [l2.getD k 0] := by
          rw [List.take_add_one, List.getD_eq_getElem?_getD, List.getElem?_eq_getElem (show k < l2.length by rw [hm.out]; exact hlt)]; rfl
        have hne : l1.getD k 0 ≠ l2.getD k 0 → l1 ≠ l2 := fun h e => h (by rw [e])
        generalize l1.getD k 0 = x at *
        generalize l2.getD k 0 = y at *
        have hS : ∀ u, Below wr.heap.size wr u → (u.cell? ⟨r1, k, none⟩ = some (.int .i64 x) ∧ u.cell? ⟨r2, k, none⟩ = some (.int .i64 y)) := fun u hu =>
          ⟨(Stp.of_below hu (fun _ => False)).cell k1 id, (Stp.of_below hu (fun _ => False)).cell k2 id⟩
        have hH : Hid (l1.take k = l2.take k ∧ l1.take (k + 1) = l1.take k ++ [x] ∧ l2.take (k + 1) = l2.take k ++ [y] ∧ (x ≠ y → l1 ≠ l2)) := ⟨heq, t1, t2, hne⟩
        clear heq t1 t2 hne
        go_wp2
        by_cases hxy : x = y
        · refine wp_region_held_drew (S := fun u => u.cell? ⟨r1, k, none⟩ = some (.int .i64 x) ∧ u.cell? ⟨r2, k, none⟩ = some (.int .i64 y)) (by kernel_rfl) (hS _ (Below.refl _ _).drew) (fun hHeld => ?_)
          refine tl 0 (.slice (some ⟨r1, 0, none⟩) l1.length c1) rfl ?_
          try simp only [z]
          refine tl 1 (.int .i64 (k : Int)) rfl ?_
          try simp only [z]
          refine tl 2 (.pointer (some ⟨r1, k, none⟩)) rfl ?_
          try simp only [z]
          refine tl 3 (.int .i64 x) rfl ?_ (fun u hu => by have x1 := hu.1; go_simp)
          try simp only [z]
          refine tl 4 (.slice (some ⟨r2, 0, none⟩) l1.length c2) rfl ?_
          try simp only [z]
          refine tl 5 (.int .i64 (k : Int)) rfl ?_
          try simp only [z]
          refine tl 6 (.pointer (some ⟨r2, k, none⟩)) rfl ?_
          try simp only [z]
          refine tl 7 (.int .i64 y) rfl ?_ (fun u hu => by have x1 := hu.2; go_simp)
          try simp only [z]
          refine tl 8 (.bool false) rfl ?_
          try simp only [z]
          refine wpAnyH_done (by kernel_rfl) ?_ _
          go_wp2
          go_roundw
          case rel => exact ⟨k + 1, by omega, by go_num, by obtain ⟨q1, q2, q3, _⟩ := hH.out; rw [q2, q3, q1, hxy], by go_grown⟩
          case measure => simp [intOf]; omega
        · refine wp_region_held_drew (S := fun u => u.cell? ⟨r1, k, none⟩ = some (.int .i64 x) ∧ u.cell? ⟨r2, k, none⟩ = some (.int .i64 y)) (by kernel_rfl) (hS _ (Below.refl _ _).drew) (fun hHeld => ?_)
          refine tl 0 (.slice (some ⟨r1, 0, none⟩) l1.length c1) rfl ?_
          try simp only [z]
          refine tl 1 (.int .i64 (k : Int)) rfl ?_
          try simp only [z]
          refine tl 2 (.pointer (some ⟨r1, k, none⟩)) rfl ?_
          try simp only [z]
          refine tl 3 (.int .i64 x) rfl ?_ (fun u hu => by have x1 := hu.1; go_simp)
          try simp only [z]
          refine tl 4 (.slice (some ⟨r2, 0, none⟩) l1.length c2) rfl ?_
          try simp only [z]
          refine tl 5 (.int .i64 (k : Int)) rfl ?_
          try simp only [z]
          refine tl 6 (.pointer (some ⟨r2, k, none⟩)) rfl ?_
          try simp only [z]
          refine tl 7 (.int .i64 y) rfl ?_ (fun u hu => by have x1 := hu.2; go_simp)
          try simp only [z]
          refine tl 8 (.bool true) rfl ?_
          try simp only [z]
          refine wpAnyH_done (by kernel_rfl) ?_ _
          go_wp2
          go_returns
          exact ⟨by have := hH.out.2.2.2 hxy; simp [this], by go_grown⟩
      · obtain rfl : k = l1.length := by omega
        have : l1 = l2 := by
          rw [List.take_length] at heq
          rw [heq, ← hm.out, List.take_length]
        have hH : Hid (l1 = l2) := this
        clear this heq
        go_wp2
        go_returns
        exact ⟨by have := hH.out; simp [this], hb⟩
  · have hlen' : ¬ ((l1.length : Int) = (l2.length : Int)) := by omega
    have hH : Hid (l1 ≠ l2) := fun e => hlen (by rw [e])
    go_enter Tryz.func11, Tryz.ntmps11
    go_wp2
    go_returns
    exact ⟨by have := hH.out; simp [this], Below.refl _ _⟩
def b7 : Blk := ⟨7 :: List.replicate 63 0, by simp⟩
def z0 : CZ := CZ.new (DS.new 3) none 1
structure A3 where
  d : Int
  t : Int
  b : Blk
end Go.Proofs.YtgdnhkdfcjpdiaaGreatDoor
