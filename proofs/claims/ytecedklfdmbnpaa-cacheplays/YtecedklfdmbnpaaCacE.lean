/-
  What bring and hold of layer 13 do: no statement is proved here.
-/
import Derived.Test.YtecedklfdmbnpaaCacD
namespace Go.Proofs.Ytecedklfdmbnpaa
open Go.ChangeShapes Go.WideShapes Go.ChangeAt Go.RowKit
set_option linter.unusedVariables false
set_option linter.unusedSimpArgs false

theorem fnd_cons_fun (i : Int) (q : Pg) (l : El) : fnd ((i, q) :: l) = fun x => if x = i then some q else fnd l x := by
  funext x
  conv => lhs; unfold fnd
  by_cases h : x = i
  · simp [h]
  · simp [h, Ne.symm h]
theorem fnd_front {l : El} {i : Int} {q : Pg} (hn : (keys l).Nodup) (hq : fnd l i = some q) : fnd ((i, q) :: rmv l i) = fnd l := by
  rw [fnd_cons_fun]
  funext x
  by_cases h : x = i
  · simp [h, hq]
  · simp only [h, if_false, fnd_rmv hn]
section
variable {w : World} {gc g mp : Nat} {sp ov : Value} {Z : CZ} {f : Int → Option Value} {E F G : Nat → Prop}
theorem Cx.few (H : Cx w gc g sp Z mp ov f E F G) {t : Nat} (ok : Z.ok t) : ∀ k, (f k).isSome → 0 ≤ k ∧ k < 2048 := fun k hk => by
  cases hl : fnd Z.l k with
  | none => rw [H.cm.no k hl] at hk; cases hk
  | some q =>
    have := ok.inn _ (fnd_mem hl)
    unfold DS.inn at this
    have := H.dd.d.ok.n2
    simp only at *
    omega
/-- A sector was used. -/
theorem Cx.hit {w2 w3 : World} {ov1 ov2 : Value} {i : Int} {q : Pg} (H : Cx w gc g sp Z mp ov f E F G) (hn : (keys Z.l).Nodup) (hq : fnd Z.l i = some q) (h' : Int) (hh : h' = wrap64 (Z.h + 1))
    (s2 : Stp (fun x => ov.ownBlock = some x) (w.setCell ⟨gc, 4, none⟩ (.int .i64 h')) w2) (b1 : ov1.ownBlock = ov.ownBlock)
    (s3 : Stp (fun x => ov1.ownBlock = some x) (w2.alloc (.cells #[.int .i64 i] 3)) w3) (o3 : OwV w3 ov2 (i :: (keys Z.l).erase i)) (b2 : ∀ r, ov2.ownBlock = some r → ov1.ownBlock = some r ∨ ((w2.alloc (.cells #[.int .i64 i] 3)).heap.size ≤ r ∧ r < w3.heap.size)) :
    ∃ E', Cx (w3.setCell ⟨gc, 3, none⟩ ov2) gc g sp (Z.hit i q) mp ov2 f E' F G ∧ Stp E w (w3.setCell ⟨gc, 3, none⟩ ov2) ∧ Grew E E' w (w3.setCell ⟨gc, 3, none⟩ ov2) := by
  subst hh
  have h1 := H.cm.hit (wrap64 (Z.h + 1))
  have s1 : Stp (fun x => x = gc) w (w.setCell ⟨gc, 4, none⟩ (.int .i64 (wrap64 (Z.h + 1)))) := (Stp.refl (fun x => x = gc) w).setCell (p := ⟨gc, 4, none⟩) (.inl rfl) _
  have sA : Stp (fun x => ov.ownBlock = some x) (w.setCell ⟨gc, 4, none⟩ (.int .i64 (wrap64 (Z.h + 1)))) w3 := (s2.alloc _).next s3 (fun x e => .inl (by rw [← b1]; exact e))
  have h3 := h1.order sA o3 (fun r hr => by
    rcases b2 r hr with e | e
    · exact .inl (by rw [← b1]; exact e)
    · exact .inr ⟨Nat.le_trans (s2.alloc (.cells #[.int .i64 i] 3)).size e.1, e.2⟩)
  have s4 : Stp (fun x => x = gc) w3 (w3.setCell ⟨gc, 3, none⟩ ov2) := (Stp.refl (fun x => x = gc) w3).setCell (p := ⟨gc, 3, none⟩) (.inl rfl) _
  have s : Stp E w (w3.setCell ⟨gc, 3, none⟩ ov2) := ((s1.mono (fun x e => .inl (e ▸ H.cm.eg))).next sA (fun x e => .inl (H.cm.eo x e).1)).next s4 (fun x e => .inl (e ▸ H.cm.eg))
  have hg : Grew E (fun x => E x ∨ ov2.ownBlock = some x) w (w3.setCell ⟨gc, 3, none⟩ ov2) := fun x hx => by
    rcases hx with hx | hx
    · exact .inl hx
    · rcases b2 x hx with e | e
      · exact .inl (H.cm.eo x (by rw [← b1]; exact e)).1
      · exact .inr ⟨Nat.le_trans s1.size (Nat.le_trans (s2.alloc (.cells #[.int .i64 i] 3)).size e.1), Nat.lt_of_lt_of_le e.2 s4.size⟩
  refine ⟨_, H.own s rfl rfl ?_ hg, s, hg⟩
  show Cm _ gc g mp ov2 Z.n (wrap64 (Z.h + 1)) Z.m (fnd ((i, q) :: rmv Z.l i)) (keys ((i, q) :: rmv Z.l i)) f _
  rw [fnd_front hn hq, keys_cons, keys_rmv]
  exact h3
/-- A sector is held that was not. -/
theorem Cx.miss {w6 w7 w8 : World} {ov2 : Value} {i : Int} {b : Blk} {r : Nat} (H : Cx w gc g sp Z mp ov f E F G) (hq : fnd Z.l i = none) (m' : Int) (hm : m' = wrap64 (Z.m + 1))
    (b6 : Below (w.setCell ⟨gc, 5, none⟩ (.int .i64 m')).heap.size (w.setCell ⟨gc, 5, none⟩ (.int .i64 m')) w6) (hr : (w.setCell ⟨gc, 5, none⟩ (.int .i64 m')).heap.size ≤ r) (c6 : Cs w6 r (Pg.cs ⟨b, false, 0⟩))
    (s7 : Stp (fun x => x = mp) w6 w7) (m7 : MpI Try.prog 3 w7 mp (upd f i (some (.pointer (some ⟨r, 0, none⟩)))))
    (s8 : Stp (fun x => ov.ownBlock = some x) (w7.alloc (.cells #[.int .i64 i] 3)) w8) (o8 : OwV w8 ov2 (i :: keys Z.l)) (b8 : ∀ r, ov2.ownBlock = some r → ov.ownBlock = some r ∨ ((w7.alloc (.cells #[.int .i64 i] 3)).heap.size ≤ r ∧ r < w8.heap.size)) :
    ∃ E', Cx (w8.setCell ⟨gc, 3, none⟩ ov2) gc g sp (Z.miss i b) mp ov2 (upd f i (some (.pointer (some ⟨r, 0, none⟩)))) E' F G ∧ Stp E w (w8.setCell ⟨gc, 3, none⟩ ov2) ∧ Grew E E' w (w8.setCell ⟨gc, 3, none⟩ ov2) := by
  subst hm
  have h1 := H.cm.missed (wrap64 (Z.m + 1))
  have s1 : Stp (fun x => x = gc) w (w.setCell ⟨gc, 5, none⟩ (.int .i64 (wrap64 (Z.m + 1)))) := (Stp.refl (fun x => x = gc) w).setCell (p := ⟨gc, 5, none⟩) (.inl rfl) _
  have h6 := h1.step (Stp.of_below b6 (fun _ => False)) (fun _ _ => id)
  have hEr : ¬ E r := fun e => by have := H.cm.lt r e; have := s1.size; omega
  have h7 := h6.more hq c6 hEr s7 m7
  have h8 := h7.order ((Stp.of_alloc w7 (.cells #[.int .i64 i] 3) _).trans s8) o8 (fun x hx => by
    rcases b8 x hx with e | e
    · exact .inl e
    · exact .inr ⟨Nat.le_trans (Stp.of_alloc w7 (.cells #[.int .i64 i] 3) (fun _ => False)).size e.1, e.2⟩)
  have s9 : Stp (fun x => x = gc) w8 (w8.setCell ⟨gc, 3, none⟩ ov2) := (Stp.refl (fun x => x = gc) w8).setCell (p := ⟨gc, 3, none⟩) (.inl rfl) _
  have sA : Stp E w w6 := (s1.mono (fun x e => .inl (e ▸ H.cm.eg))).trans (Stp.of_below b6 E)
  have sB : Stp E w w7 := sA.next s7 (fun x e => .inl (e ▸ H.cm.em))
  have sC : Stp E w w8 := (sB.alloc (.cells #[.int .i64 i] 3)).next s8 (fun x e => .inl (H.cm.eo x e).1)
  have s : Stp E w (w8.setCell ⟨gc, 3, none⟩ ov2) := sC.next s9 (fun x e => .inl (e ▸ H.cm.eg))
  have hg : Grew E (fun x => (E x ∨ x = r) ∨ ov2.ownBlock = some x) w (w8.setCell ⟨gc, 3, none⟩ ov2) := fun x hx => by
    rcases hx with (hx | hx) | hx
    · exact .inl hx
    · subst hx
      have := c6.lt
      have := s7.size
      have := (Stp.of_alloc w7 (.cells #[.int .i64 i] 3) (fun _ => False)).size
      have := s8.size
      have := s9.size
      have := s1.size
      exact .inr ⟨by omega, by omega⟩
    · rcases b8 x hx with e | e
      · exact .inl (H.cm.eo x e).1
      · have := (Stp.of_alloc w7 (.cells #[.int .i64 i] 3) (fun _ => False)).size
        have := sB.size
        have := s9.size
        exact .inr ⟨by omega, by omega⟩
  refine ⟨_, H.own s rfl rfl ?_ hg, s, hg⟩
  show Cm _ gc g mp ov2 Z.n Z.h (wrap64 (Z.m + 1)) (fnd ((i, _) :: Z.l)) (keys ((i, _) :: Z.l)) _ _
  rw [fnd_cons_fun, keys_cons]
  exact h8
end
/-- What is handed out: a page, or none. -/
def hp (e : Int) (v : Option Value) : Value := if e = 0 then v.getD (.pointer none) else .pointer none
theorem hp0 (v : Option Value) : hp 0 v = v.getD (.pointer none) := if_pos rfl
theorem hpn {e : Int} (h : e ≠ 0) (v : Option Value) : hp e v = .pointer none := if_neg h
set_option maxRecDepth 100000 in
set_option maxHeartbeats 2000000 in
theorem bring_any {w : World} {gc g mp : Nat} {sp ov : Value} {Z : CZ} {f : Int → Option Value} {E F G : Nat → Prop} {t : Nat} (H : Cx w gc g sp Z mp ov f E F G) (ok : Z.ok t) (ht : t ≤ 10000) (i : Int) (hwi : (Lit.int .i64 i).wf = true) (hn : fnd Z.l i = none) :
    Calls Try.prog 58 #[.pointer (some ⟨gc, 0, none⟩), .int .i64 i] w fun e w' => ∃ ov' f' E' F', e = .returned (.tuple #[hp (Z.holdE i) (f' i), .int .i64 (Z.holdE i)]) ∧ Cx w' gc g sp (Z.hold i) mp ov' f' E' F' G ∧ Stp (Al E F G) w w' ∧ Grew E E' w w' ∧ Grew F F' w w' := by
  obtain ⟨y0, y1, y2, y3, y4, y5⟩ := H.cm.cells
  have hR := read_any H.dd.d i hwi
  by_cases hi : Z.d.inn i
  · have e0 : checkErr Z.d i = 0 := if_pos hi
    rw [e0] at hR; clear e0
    have e1 : Z.holdE i = Z.roomE := by unfold CZ.holdE; rw [if_pos hi, hn]
    rw [e1]; clear e1
    have hRm := fun u (hu : Below w.heap.size w u) => room_any (H.later hu) ok ht
    have far : ∀ x, w.heap.size ≤ x → ¬ Al E F G x := fun x hx e => by
      rcases e with e | e | e
      · have := H.cm.lt x e; omega
      · have := H.dd.d.lt x e; omega
      · have := H.dd.gl x e; omega
    by_cases hE : Z.roomE = 0
    · have e2 : Z.hold i = Z.room.miss i (Z.d.shown i) := by unfold CZ.hold; rw [if_pos hi, hn]; simp only [hE, if_true]
      have hE2 : Hid (Z.hold i = Z.room.miss i (Z.d.shown i)) := e2
      have hHE : Hid (Z.roomE = 0) := hE
      rw [hE] at hRm; clear e2 hE
      have hnr : fnd Z.room.l i = none := fnd_none_iff.2 fun hk => fnd_none_iff.1 hn (room_keys Z hk)
      have okr := ok.room
      have hkl : (keys Z.room.l).length ≤ 1000000 := by rw [keys_len]; have := okr.len; have := okr.n2; omega
      go_enter Try.func58, Try.ntmps58
      go_wp2_with (first
        | (go_at_call 20; refine hR.mono ?_; rintro e w1 ⟨rfl, b1⟩; clear hR)
        | (refine at_newB (by rfl) (by rfl) ?_; intro gb w2 a2 l2 r2 b2)
        | (refine at_putB (by rfl) _ _ (by rfl) gb (by rfl) (Z.d.shown i) (by rfl) _ r2 ?_; intro w3 r3 s3
           have hgb : w.heap.size ≤ gb := Nat.le_trans b1.size a2
           have B3 : Below w.heap.size w w3 := ((Stp.of_below (bnext b1 b2 (Nat.le_refl _)) (fun x => w.heap.size ≤ x)).next s3 (fun x e => .inl (e ▸ hgb))).below (Nat.le_refl _) (fun _ h => h)
           clear r2 b2 b1 s3)
        | (go_at_call 78; refine (hRm _ B3).mono ?_; rintro e w4 ⟨rfl, ov4, f4, E4, F4, H4, s4, gE4, gF4⟩
           have z5 := H4.cm.c.cell 5 _ rfl
           have v5 := H4.cm.c.frozen 5
           have r4 : Cs w4 gb (Z.d.shown i).cs := r3.step s4 (far gb hgb)
           have hsi : gb < w4.heap.size := r4.lt
           clear hRm r3 y0 y1 y2 y3 y4 y5)
        | (refine at_getB (by rfl) _ (by rfl) gb (by rfl) (Z.d.shown i) (Cs.step r4 ((Stp.refl (fun x => x = gc) w4).setCell (p := ⟨gc, 5, none⟩) (.inl rfl) (.int .i64 (wrap64 (Z.room.m + 1)))) (fun e => far gb hgb (.inl (e ▸ H.cm.eg)))).range ?_)
        | (refine at_bldP (by rfl) _ (by rfl) (Z.d.shown i) (by rfl) ?_)
        | (refine at_boxP (by rfl) _ (by rfl) ⟨Z.d.shown i, false, 0⟩ (by rfl) ?_; intro gp w6 a6 l6 r6 b6
           have h6 := (H4.cm.missed (wrap64 (Z.room.m + 1))).step (Stp.of_below b6 (fun _ => False)) (fun _ _ => id)
           have sz : w4.heap.size ≤ gp := Nat.le_trans ((Stp.refl (fun x => x = gc) w4).setCell (p := ⟨gc, 5, none⟩) (.inl rfl) (.int .i64 (wrap64 (Z.room.m + 1)))).size a6
           have z6 := h6.c.cell 2 _ rfl)
        | (refine at_insP (by rfl) _ _ _ (by rfl) mp f4 (by rfl) i (by rfl) (.pointer (some ⟨gp, 0, none⟩)) (by rfl) h6.mm (H4.few okr) hwi ?_; intro w7 m7 s7
           have h7 := h6.more hnr r6 (fun e => by have := H4.cm.lt gp e; omega) s7 m7
           have z7 := h7.c.cell 3 _ rfl
           have h8 := h7.step (Stp.of_alloc w7 (.cells #[.int .i64 i] 3) (fun _ => False)) (fun _ _ => id)
           obtain ⟨a9, n9, c9, hov9⟩ := h7.ow.shape
           subst hov9)
        | (go_at_call 60; refine (insert_own h8.ow i w7.heap.size (heap_alloc_new w7 _) (fun e => by have := h7.lt _ (h7.eo _ e).1; omega) hkl).mono ?_; rintro e w9 ⟨ov9, rfl, o9, b9, s9⟩
           have h10 := h8.c.step s9 (fun e => (h8.eo gc e).2 rfl)
           have z9 := h10.cell 3 _ rfl
           have v9 := h10.frozen 3
           obtain ⟨a10, n10, c10, hov10⟩ := o9.shape
           subst hov10))
      go_returns
      obtain ⟨E', H11, s11, g11⟩ := H4.miss hnr _ rfl b6 a6 r6 s7 m7 s9 o9 b9
      have S4 : Stp (Al E F G) w w4 := (Stp.of_below B3 (Al E F G)).trans s4
      have gE : Grew E E4 w w4 := fun x hx => by
        rcases gE4 x hx with e | e
        · exact .inl e
        · exact .inr ⟨Nat.le_trans B3.size e.1, e.2⟩
      have gF : Grew F F4 w w4 := fun x hx => by
        rcases gF4 x hx with e | e
        · exact .inl e
        · exact .inr ⟨Nat.le_trans B3.size e.1, e.2⟩
      refine ⟨_, _, E', F4, ?_, by rw [hE2.out]; exact H11, S4.next s11 (fun x e => ?_), Grew.trans gE g11 S4.size s11.size, Grew.trans gF (Grew.refl _ _ _) S4.size s11.size⟩
      · rw [hHE.out, hp0]; simp [upd]
      · rcases gE x e with e | e
        · exact .inl (.inl e)
        · exact .inr e.1
    · have e2 : Z.hold i = Z.room := by unfold CZ.hold; rw [if_pos hi, hn]; simp only [hE, if_false]
      have hE2 : Hid (Z.hold i = Z.room) := e2
      clear e2
      go_enter Try.func58, Try.ntmps58
      go_wp2_with (first
        | (go_at_call 20; refine hR.mono ?_; rintro e w1 ⟨rfl, b1⟩; clear hR)
        | (refine at_newB (by rfl) (by rfl) ?_; intro gb w2 a2 l2 r2 b2)
        | (refine at_putB (by rfl) _ _ (by rfl) gb (by rfl) (Z.d.shown i) (by rfl) _ r2 ?_; intro w3 r3 s3
           have hgb : w.heap.size ≤ gb := Nat.le_trans b1.size a2
           have B3 : Below w.heap.size w w3 := ((Stp.of_below (bnext b1 b2 (Nat.le_refl _)) (fun x => w.heap.size ≤ x)).next s3 (fun x e => .inl (e ▸ hgb))).below (Nat.le_refl _) (fun _ h => h)
           clear r2 b2 b1 s3)
        | (go_at_call 78; refine (hRm _ B3).mono ?_; rintro e w4 ⟨rfl, ov4, f4, E4, F4, H4, s4, gE4, gF4⟩))
      go_returns
      refine ⟨ov4, f4, E4, F4, by rw [hpn hE]; rfl, by rw [hE2.out]; exact H4, (Stp.of_below B3 (Al E F G)).trans s4, fun x hx => ?_, fun x hx => ?_⟩
      · rcases gE4 x hx with e | e
        · exact .inl e
        · exact .inr ⟨Nat.le_trans B3.size e.1, e.2⟩
      · rcases gF4 x hx with e | e
        · exact .inl e
        · exact .inr ⟨Nat.le_trans B3.size e.1, e.2⟩
  · have e0 : checkErr Z.d i = 2 := if_neg hi
    rw [e0] at hR; clear e0
    have e1 : Z.holdE i = 2 := by unfold CZ.holdE; rw [if_neg hi]
    have e2 : Z.hold i = Z := by unfold CZ.hold; rw [if_neg hi]
    rw [e1, e2]; clear e1 e2
    go_enter Try.func58, Try.ntmps58
    go_wp2_with (first
      | (go_at_call 20; refine hR.mono ?_; rintro e w1 ⟨rfl, b1⟩; clear hR)
      | (refine at_newB (by rfl) (by rfl) ?_; intro gb w2 a2 l2 r2 b2)
      | (refine at_putB (by rfl) _ _ (by rfl) gb (by rfl) (Z.d.shown i) (by rfl) _ r2 ?_; intro w3 r3 s3
         have hgb : w.heap.size ≤ gb := Nat.le_trans b1.size a2
         have B3 : Below w.heap.size w w3 := ((Stp.of_below (bnext b1 b2 (Nat.le_refl _)) (fun x => w.heap.size ≤ x)).next s3 (fun x e => .inl (e ▸ hgb))).below (Nat.le_refl _) (fun _ h => h)
         clear r2 b2 b1 s3))
    go_returns
    exact ⟨ov, f, E, F, by rw [hpn (by decide)]; rfl, H.later B3, Stp.of_below B3 _, Grew.refl _ _ _, Grew.refl _ _ _⟩
end Go.Proofs.Ytecedklfdmbnpaa
