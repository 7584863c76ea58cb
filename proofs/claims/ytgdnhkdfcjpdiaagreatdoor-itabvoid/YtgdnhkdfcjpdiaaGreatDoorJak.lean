/-
  Texts of my own, joined: no statement is proved here.
-/
import Derived.Test.YtgdnhkdfcjpdiaaGreatDoorJaf
set_option linter.unusedSimpArgs false
set_option linter.unusedVariables false
namespace Go.Proofs.YtgdnhkdfcjpdiaaGreatDoor
open Go.ChangeShapes Go.WideShapes Go.ChangeAt Go.RowKit
set_option maxRecDepth 100000 in
set_option maxHeartbeats 2000000 in
theorem own_any {w : World} {E : Nat → Prop} {p : Pt} {d n : Sv} (h : PtM w E p d n) (h1 : p.data.length ≤ 100000) (h2 : p.needs.length ≤ 100000) :
    Calls Tryz.prog 89 #[.agg (p.cs d n).toArray] w fun e w' => ∃ d' n' : Sv, e = .returned (.agg (p.cs d' n').toArray) ∧ PtM w' (Made w w') p d' n' ∧ Below w.heap.size w w' := by
  have tok : True := trivial
  have tok2 : True := trivial
  go_enter Tryz.func89, Tryz.ntmps89
  go_wp2_with (first
    | (clear tok; refine at_boxP (by rfl) _ (by rfl) p d n (by rfl) ?_; intro g1 w1 a1 a2 r1 b1)
    | (clear tok2; refine at_newP (by rfl) (by rfl) ?_; intro g2 w2 a3 a4 r2 b2))
  have dr : Below w2.heap.size w2 w2.drew := (Below.refl _ _).drew
  have hP := ((h.later b1).later b2).later dr
  have hC := (r1.later b2).later dr
  have hB : Below w.heap.size w w2.drew := (bnext b1 b2 (Nat.le_refl _)).drew
  replace r2 := r2.later dr
  have hG : g2 < w2.drew.heap.size := a4
  have hne : g1 ≠ g2 := by omega
  obtain ⟨c0, c1, c2, c3, c4, c5, c6, c7, c8⟩ := Pt.cells hC
  have f3 := hC.frozen 3
  have f5 := hC.frozen 5
  clear r1 b1 b2 h dr
  refine wp_region_held_drew (S := fun _ => True) (by kernel_rfl) trivial (fun hHeld => ?_)
  have l3 : ∀ u, Cs u g1 (p.cs d n) → (loadVar 105 ⟨g1, 3, none⟩).run Tryz.prog u = .ok (.slice d.a d.n d.c) u := fun u hu => by
    have := (Pt.cells hu).2.2.2.1; go_simp
  have l5 : ∀ u, Cs u g1 (p.cs d n) → (loadVar 34 ⟨g1, 5, none⟩).run Tryz.prog u = .ok (.slice n.a n.n n.c) u := fun u hu => by
    have := (Pt.cells hu).2.2.2.2.2.1; go_simp
  have s3 : ∀ u (d' : Sv) cs, Cs u g1 cs → cs.length = 9 → (storeVar 105 ⟨g1, 3, none⟩ (.slice d'.a d'.n d'.c)).run Tryz.prog u = .ok () (u.setCell ⟨g1, 3, none⟩ (.slice d'.a d'.n d'.c)) := fun u d' cs hu hl => by
    have h1 := hu.cell 3 _ (List.getElem?_eq_getElem (by omega)); have h2 := hu.frozen 3; go_simp
  have s5 : ∀ u (d' : Sv) cs, Cs u g1 cs → cs.length = 9 → (storeVar 34 ⟨g1, 5, none⟩ (.slice d'.a d'.n d'.c)).run Tryz.prog u = .ok () (u.setCell ⟨g1, 5, none⟩ (.slice d'.a d'.n d'.c)) := fun u d' cs hu hl => by
    have h1 := hu.cell 5 _ (List.getElem?_eq_getElem (by omega)); have h2 := hu.frozen 5; go_simp
  clear c0 c1 c2 c3 c4 c5 c6 c7 c8 f3 f5
  have fin : ∀ u (s1 s2 : Sv), Cs u g1 (p.cs d n) → Cs u g2 (Pt.zero.cs Sv.nil Sv.nil) → BsS u s1 p.data → InsS u s2 p.needs → InE (fun x => g2 < x ∧ x < u.heap.size) s1 → InE (fun x => g2 < x ∧ x < u.heap.size) s2 → Below w.heap.size w u →
      ∃ u', (u.setCell ⟨g1, 3, none⟩ (.slice s1.a s1.n s1.c)).setCell ⟨g1, 5, none⟩ (.slice s2.a s2.n s2.c) = u' ∧ Cs u' g1 (p.cs s1 s2) ∧ Cs u' g2 (Pt.zero.cs Sv.nil Sv.nil) ∧ PtM u' (fun x => g2 < x ∧ x < u'.heap.size) p s1 s2 ∧ Below w.heap.size w u' := by
    intro u s1 s2 k1 k2 k3 k4 k5 k6 k7
    have st : Stp (fun x => x = g1) u ((u.setCell ⟨g1, 3, none⟩ (.slice s1.a s1.n s1.c)).setCell ⟨g1, 5, none⟩ (.slice s2.a s2.n s2.c)) := ((Stp.refl (fun x => x = g1) u).setCell (p := ⟨g1, 3, none⟩) (.inl rfl) _).setCell (p := ⟨g1, 5, none⟩) (.inl rfl) _
    have hsz := st.size
    refine ⟨_, rfl, (k1.set 3 (.slice s1.a s1.n s1.c) rfl).set 5 (.slice s2.a s2.n s2.c) rfl, k2.step st (Ne.symm hne), ⟨k3.step st k5 (fun x hx e => by omega), k4.step st k6 (fun x hx e => by omega), k5.mono (fun x hx => ⟨hx.1, by omega⟩), k6.mono (fun x hx => ⟨hx.1, by omega⟩)⟩, ?_⟩
    exact ((Stp.of_below k7 (fun _ => False)).next st (fun x e => .inr (by omega))).below (Nat.le_refl _) (fun x e => e.elim)
  refine tl 0 (.pointer (some ⟨g1, 3, none⟩)) rfl ?_
  try simp only [z]
  refine tl 3 (.pointer (some ⟨g1, 5, none⟩)) rfl ?_
  try simp only [z]
  refine wpAnyH_ready (rs := [1, 4]) (by kernel_rfl) (by simp) ?_
  refine (AllReadyH.cons (o := ⟨some 4, .load 105 (.tmp 3), 105, _, #[⟨0, .data⟩], none⟩) rfl (fun K hK => ?_) (AllReadyH.cons (o := ⟨some 7, .load 34 (.tmp 6), 34, _, #[⟨3, .data⟩], none⟩) rfl (fun K hK => ?_) AllReadyH.nil))
  · skip
    refine step_ld _ _ (.slice d.a d.n d.c) rfl _ (by rfl) (by rfl) (l3 _ hC) ?_
    refine hK.out _ _ (trivial) (fun hHeld => ?_)
    clear hK K
    try simp only [z]
    refine wpAnyH_ready (rs := [2, 4]) (by kernel_rfl) (by simp) ?_
    refine (AllReadyH.cons (o := ⟨some 5, .call { callee := Callee.value (.func 124), args := #[.tmp 4], argTypes := #[105] }, 105, _, #[⟨1, .data⟩], none⟩) rfl (fun K hK => ?_) (AllReadyH.cons (o := ⟨some 7, .load 34 (.tmp 6), 34, _, #[⟨3, .data⟩], none⟩) rfl (fun K hK => ?_) AllReadyH.nil))
    · skip
      go_simp
      refine (clone_b hP.bs h1).mono ?_
      rintro e w3 ⟨x1, rfl, q1, q3, q4⟩
      try go_wp2_with fail
      replace hP := hP.later q4
      replace hC := hC.later q4
      replace r2 := r2.later q4
      try replace t1 := t1.later q4
      try replace t3 := t3.mono (E' := fun x => g2 < x ∧ x < w3.heap.size) (fun x hx => ⟨hx.1, Nat.lt_of_lt_of_le hx.2 q4.size⟩)
      replace q3 := q3.mono (E' := fun x => g2 < x ∧ x < w3.heap.size) (fun x hx => ⟨Nat.lt_of_lt_of_le hG hx.1, hx.2⟩)
      replace hG := Nat.lt_of_lt_of_le hG q4.size
      replace hB := bnext hB q4 (Nat.le_refl _)
      refine hK.out _ _ (trivial) (fun hHeld => ?_)
      clear hK K
      try simp only [z]
      refine rd 4 rfl (fun K hK => ?_)
      refine step_ld _ _ (.slice n.a n.n n.c) rfl _ (by rfl) (by rfl) (l5 _ hC) ?_
      refine hK.out _ _ (trivial) (fun hHeld => ?_)
      clear hK K
      try simp only [z]
      refine tl 6 (.pointer (some ⟨g1, 3, none⟩)) rfl ?_
      try simp only [z]
      refine rd 5 rfl (fun K hK => ?_)
      go_simp
      refine (clone_i hP.is h2).mono ?_
      rintro e w4 ⟨x2, rfl, t1, t3, t4⟩
      try go_wp2_with fail
      replace hP := hP.later t4
      replace hC := hC.later t4
      replace r2 := r2.later t4
      try replace q1 := q1.later t4
      try replace q3 := q3.mono (E' := fun x => g2 < x ∧ x < w4.heap.size) (fun x hx => ⟨hx.1, Nat.lt_of_lt_of_le hx.2 t4.size⟩)
      replace t3 := t3.mono (E' := fun x => g2 < x ∧ x < w4.heap.size) (fun x hx => ⟨Nat.lt_of_lt_of_le hG hx.1, hx.2⟩)
      replace hG := Nat.lt_of_lt_of_le hG t4.size
      replace hB := bnext hB t4 (Nat.le_refl _)
      refine hK.out _ _ (trivial) (fun hHeld => ?_)
      clear hK K
      try simp only [z]
      refine rd 7 rfl (fun K hK => ?_)
      refine step_st _ _ _ _ rfl _ _ (by rfl) (by rfl) (by rfl) (s3 _ x1 _ hC rfl) ?_
      refine hK.out _ _ (trivial) (fun hHeld => ?_)
      clear hK K
      try simp only [Act.put]
      refine tl 8 (.pointer (some ⟨g1, 5, none⟩)) rfl ?_
      try simp only [z]
      refine rd 9 rfl (fun K hK => ?_)
      refine step_st _ _ _ _ rfl _ _ (by rfl) (by rfl) (by rfl) (s5 _ x2 _ (hC.set 3 (.slice x1.a x1.n x1.c) rfl) rfl) ?_
      refine hK.out _ _ (trivial) (fun hHeld => ?_)
      clear hK K
      try simp only [Act.put]
      refine wpAnyH_done (by kernel_rfl) ?_ _
      obtain ⟨u', e', m1, m2, m3, m4⟩ := fin _ x1 x2 hC r2 q1 t1 q3 t3 hB
      rw [e']
      clear e' hC r2 q1 t1 q3 t3 hB hP fin l3 l5 s3 s5 hG
      go_wp2_with (first | (refine at_getP0 (by rfl) _ (by rfl) g1 (by rfl) p x1 x2 m1 ?_) | (refine at_putP (by rfl) _ _ (by rfl) g2 (by rfl) p x1 x2 (by rfl) _ m2 rfl ?_; intro w5 m5 m6))
      refine bodyPost_ret (retC srtP rfl rfl m5 rfl) rfl ⟨x1, x2, rfl, ?_, ?_⟩
      · exact (m3.step m6 (fun x hx e => by omega)).mono (fun x hx => ⟨by omega, Nat.lt_of_lt_of_le hx.2 m6.size⟩)
      · exact ((Stp.of_below m4 (fun _ => False)).next m6 (fun x e => .inr (by omega))).below (Nat.le_refl _) (fun x e => e.elim)
    · skip
      refine step_ld _ _ (.slice n.a n.n n.c) rfl _ (by rfl) (by rfl) (l5 _ hC) ?_
      refine hK.out _ _ (trivial) (fun hHeld => ?_)
      clear hK K
      try simp only [z]
      refine rd 2 rfl (fun K hK => ?_)
      go_simp
      refine (clone_b hP.bs h1).mono ?_
      rintro e w3 ⟨x1, rfl, q1, q3, q4⟩
      try go_wp2_with fail
      replace hP := hP.later q4
      replace hC := hC.later q4
      replace r2 := r2.later q4
      try replace t1 := t1.later q4
      try replace t3 := t3.mono (E' := fun x => g2 < x ∧ x < w3.heap.size) (fun x hx => ⟨hx.1, Nat.lt_of_lt_of_le hx.2 q4.size⟩)
      replace q3 := q3.mono (E' := fun x => g2 < x ∧ x < w3.heap.size) (fun x hx => ⟨Nat.lt_of_lt_of_le hG hx.1, hx.2⟩)
      replace hG := Nat.lt_of_lt_of_le hG q4.size
      replace hB := bnext hB q4 (Nat.le_refl _)
      refine hK.out _ _ (trivial) (fun hHeld => ?_)
      clear hK K
      try simp only [z]
      refine tl 6 (.pointer (some ⟨g1, 3, none⟩)) rfl ?_
      try simp only [z]
      refine rd 5 rfl (fun K hK => ?_)
      go_simp
      refine (clone_i hP.is h2).mono ?_
      rintro e w4 ⟨x2, rfl, t1, t3, t4⟩
      try go_wp2_with fail
      replace hP := hP.later t4
      replace hC := hC.later t4
      replace r2 := r2.later t4
      try replace q1 := q1.later t4
      try replace q3 := q3.mono (E' := fun x => g2 < x ∧ x < w4.heap.size) (fun x hx => ⟨hx.1, Nat.lt_of_lt_of_le hx.2 t4.size⟩)
      replace t3 := t3.mono (E' := fun x => g2 < x ∧ x < w4.heap.size) (fun x hx => ⟨Nat.lt_of_lt_of_le hG hx.1, hx.2⟩)
      replace hG := Nat.lt_of_lt_of_le hG t4.size
      replace hB := bnext hB t4 (Nat.le_refl _)
      refine hK.out _ _ (trivial) (fun hHeld => ?_)
      clear hK K
      try simp only [z]
      refine rd 7 rfl (fun K hK => ?_)
      refine step_st _ _ _ _ rfl _ _ (by rfl) (by rfl) (by rfl) (s3 _ x1 _ hC rfl) ?_
      refine hK.out _ _ (trivial) (fun hHeld => ?_)
      clear hK K
      try simp only [Act.put]
      refine tl 8 (.pointer (some ⟨g1, 5, none⟩)) rfl ?_
      try simp only [z]
      refine rd 9 rfl (fun K hK => ?_)
      refine step_st _ _ _ _ rfl _ _ (by rfl) (by rfl) (by rfl) (s5 _ x2 _ (hC.set 3 (.slice x1.a x1.n x1.c) rfl) rfl) ?_
      refine hK.out _ _ (trivial) (fun hHeld => ?_)
      clear hK K
      try simp only [Act.put]
      refine wpAnyH_done (by kernel_rfl) ?_ _
      obtain ⟨u', e', m1, m2, m3, m4⟩ := fin _ x1 x2 hC r2 q1 t1 q3 t3 hB
      rw [e']
      clear e' hC r2 q1 t1 q3 t3 hB hP fin l3 l5 s3 s5 hG
      go_wp2_with (first | (refine at_getP0 (by rfl) _ (by rfl) g1 (by rfl) p x1 x2 m1 ?_) | (refine at_putP (by rfl) _ _ (by rfl) g2 (by rfl) p x1 x2 (by rfl) _ m2 rfl ?_; intro w5 m5 m6))
      refine bodyPost_ret (retC srtP rfl rfl m5 rfl) rfl ⟨x1, x2, rfl, ?_, ?_⟩
      · exact (m3.step m6 (fun x hx e => by omega)).mono (fun x hx => ⟨by omega, Nat.lt_of_lt_of_le hx.2 m6.size⟩)
      · exact ((Stp.of_below m4 (fun _ => False)).next m6 (fun x e => .inr (by omega))).below (Nat.le_refl _) (fun x e => e.elim)
  · skip
    refine step_ld _ _ (.slice n.a n.n n.c) rfl _ (by rfl) (by rfl) (l5 _ hC) ?_
    refine hK.out _ _ (trivial) (fun hHeld => ?_)
    clear hK K
    try simp only [z]
    refine rd 1 rfl (fun K hK => ?_)
    refine step_ld _ _ (.slice d.a d.n d.c) rfl _ (by rfl) (by rfl) (l3 _ hC) ?_
    refine hK.out _ _ (trivial) (fun hHeld => ?_)
    clear hK K
    try simp only [z]
    refine rd 2 rfl (fun K hK => ?_)
    go_simp
    refine (clone_b hP.bs h1).mono ?_
    rintro e w3 ⟨x1, rfl, q1, q3, q4⟩
    try go_wp2_with fail
    replace hP := hP.later q4
    replace hC := hC.later q4
    replace r2 := r2.later q4
    try replace t1 := t1.later q4
    try replace t3 := t3.mono (E' := fun x => g2 < x ∧ x < w3.heap.size) (fun x hx => ⟨hx.1, Nat.lt_of_lt_of_le hx.2 q4.size⟩)
    replace q3 := q3.mono (E' := fun x => g2 < x ∧ x < w3.heap.size) (fun x hx => ⟨Nat.lt_of_lt_of_le hG hx.1, hx.2⟩)
    replace hG := Nat.lt_of_lt_of_le hG q4.size
    replace hB := bnext hB q4 (Nat.le_refl _)
    refine hK.out _ _ (trivial) (fun hHeld => ?_)
    clear hK K
    try simp only [z]
    refine tl 6 (.pointer (some ⟨g1, 3, none⟩)) rfl ?_
    try simp only [z]
    refine rd 5 rfl (fun K hK => ?_)
    go_simp
    refine (clone_i hP.is h2).mono ?_
    rintro e w4 ⟨x2, rfl, t1, t3, t4⟩
    try go_wp2_with fail
    replace hP := hP.later t4
    replace hC := hC.later t4
    replace r2 := r2.later t4
    try replace q1 := q1.later t4
    try replace q3 := q3.mono (E' := fun x => g2 < x ∧ x < w4.heap.size) (fun x hx => ⟨hx.1, Nat.lt_of_lt_of_le hx.2 t4.size⟩)
    replace t3 := t3.mono (E' := fun x => g2 < x ∧ x < w4.heap.size) (fun x hx => ⟨Nat.lt_of_lt_of_le hG hx.1, hx.2⟩)
    replace hG := Nat.lt_of_lt_of_le hG t4.size
    replace hB := bnext hB t4 (Nat.le_refl _)
    refine hK.out _ _ (trivial) (fun hHeld => ?_)
    clear hK K
    try simp only [z]
    refine rd 7 rfl (fun K hK => ?_)
    refine step_st _ _ _ _ rfl _ _ (by rfl) (by rfl) (by rfl) (s3 _ x1 _ hC rfl) ?_
    refine hK.out _ _ (trivial) (fun hHeld => ?_)
    clear hK K
    try simp only [Act.put]
    refine tl 8 (.pointer (some ⟨g1, 5, none⟩)) rfl ?_
    try simp only [z]
    refine rd 9 rfl (fun K hK => ?_)
    refine step_st _ _ _ _ rfl _ _ (by rfl) (by rfl) (by rfl) (s5 _ x2 _ (hC.set 3 (.slice x1.a x1.n x1.c) rfl) rfl) ?_
    refine hK.out _ _ (trivial) (fun hHeld => ?_)
    clear hK K
    try simp only [Act.put]
    refine wpAnyH_done (by kernel_rfl) ?_ _
    obtain ⟨u', e', m1, m2, m3, m4⟩ := fin _ x1 x2 hC r2 q1 t1 q3 t3 hB
    rw [e']
    clear e' hC r2 q1 t1 q3 t3 hB hP fin l3 l5 s3 s5 hG
    go_wp2_with (first | (refine at_getP0 (by rfl) _ (by rfl) g1 (by rfl) p x1 x2 m1 ?_) | (refine at_putP (by rfl) _ _ (by rfl) g2 (by rfl) p x1 x2 (by rfl) _ m2 rfl ?_; intro w5 m5 m6))
    refine bodyPost_ret (retC srtP rfl rfl m5 rfl) rfl ⟨x1, x2, rfl, ?_, ?_⟩
    · exact (m3.step m6 (fun x hx e => by omega)).mono (fun x hx => ⟨by omega, Nat.lt_of_lt_of_le hx.2 m6.size⟩)
    · exact ((Stp.of_below m4 (fun _ => False)).next m6 (fun x e => .inr (by omega))).below (Nat.le_refl _) (fun x e => e.elim)
theorem givn_take (last : Int) (l : List Int) (k : Nat) (hk : k < l.length) (h : givn last (l.take k) = true) : givn last (l.take (k + 1)) = (decide (1 ≤ l.getD k 0) && decide (l.getD k 0 ≤ last)) := by
  unfold givn at *
  rw [List.take_add_one, List.getElem?_eq_getElem hk, List.all_append, h, List.getD_eq_getElem?_getD, List.getElem?_eq_getElem hk]; simp
theorem givn_no (last : Int) (l : List Int) (k : Nat) (h : givn last (l.take k) = false) : givn last l = false := by
  unfold givn at *
  have := List.take_append_drop k l
  rw [← this, List.all_append, h]; rfl
set_option maxRecDepth 100000 in
set_option maxHeartbeats 2000000 in
theorem given_any {w : World} {s : Sv} {l : List Int} {g : Nat} {last : Int} (h : InsS w s l) (hc : w.cell? ⟨g, 0, none⟩ = some (.int .i64 last)) (hm : l.length ≤ 100000) :
    Calls Tryz.prog 95 #[.pointer (some ⟨g, 0, none⟩), .slice s.a s.n s.c] w fun e w' => e = .returned (.bool (givn last l)) ∧ w = w' := by
  have hl := h.i.len
  have hcell := h.i.cell
  obtain ⟨sa, sn, sc⟩ := s
  simp only at hl hcell ⊢
  subst hl
  clear h
  go_enter Tryz.func95, Tryz.ntmps95
  go_wp2
  go_loopw [9] (fun v wr => wr = w ∧ ∃ k : Nat, k ≤ l.length ∧ v = .int .i64 (k : Int) ∧ givn last (l.take k) = true) (fun v _ => l.length - (intOf v).toNat)
  case atStart => exact ⟨rfl, 0, Nat.zero_le _, rfl, rfl⟩
  case round =>
    obtain ⟨rfl, k, hk, rfl, hg⟩ := hrel
    by_cases hlt : k < l.length
    · obtain ⟨b, o, rfl, hcs⟩ := hcell (by omega)
      have ck := hcs k hlt
      have hT := givn_take last l k hlt hg
      have hN := givn_no last l (k + 1)
      rw [hT] at hN
      have hT' : Hid (givn last (l.take (k + 1)) = (decide (1 ≤ l.getD k 0) && decide (l.getD k 0 ≤ last))) := hT
      have hN' : Hid ((decide (1 ≤ l.getD k 0) && decide (l.getD k 0 ≤ last)) = false → givn last l = false) := hN
      clear hT hN hcs hcell hg
      generalize l.getD k 0 = y at *
      have a1 : (k : Int) < (l.length : Int) := by omega
      go_wp2
      any_goals
        go_returns
        exact ⟨ret_bool (hN'.out (by simp_all <;> omega)).symm, rfl⟩
      go_roundw
      case rel => exact ⟨trivial, k + 1, by omega, by go_num, by rw [hT'.out]; simp_all <;> omega⟩
      case measure => simp [intOf]; omega
    · have hk' : k = l.length := by omega
      subst hk'
      rw [List.take_length] at hg
      have hg' : Hid (givn last l = true) := hg
      clear hg
      go_wp2
      go_returns
      exact ⟨ret_bool hg'.out.symm, rfl⟩
end Go.Proofs.YtgdnhkdfcjpdiaaGreatDoor
