/-
  What an act leaves that loads the image and a block more: no statement is proved here.
-/
import Derived.Test.YtdjkdkekcjmokaaRfS
namespace Go.Proofs.Ytdjkdkekcjmokaa
open Go.ChangeShapes Go.WideShapes Go.ChangeAt Go.RowKit
set_option linter.unusedVariables false

theorem built (W : World) (b : Blk) : Stp (fun _ => False) W (W.alloc (.cells b.cs.toArray 36)) ∧ W.heap.size < (W.alloc (.cells b.cs.toArray 36)).heap.size ∧ ∀ j v, b.cs[j]? = some v → (W.alloc (.cells b.cs.toArray 36)).cell? ((⟨W.heap.size, 0, none⟩ : Addr).add j) = some v :=
  ⟨Stp.of_alloc _ _ _, by simp, fun j v hv => World.news_of_block (w := W.alloc (.cells b.cs.toArray 36)) (cs := b.cs.toArray) (t := 36) (fr := (0, 0)) (heap_alloc_new W _) j v (by simpa using hv)⟩
theorem owned {wA w1 w3 : World} {g3 gg cap n : Nat} {l : List Blk} (b1 : Below wA.heap.size wA w1) (l1 : wA.heap.size ≤ g3) (l2 : g3 < w1.heap.size) (o1 : w1.ownsRow 0 36 64 (.slice (some ⟨g3, 0, none⟩) n n) n (flat l))
    (o3 : w3.ownsRow 0 36 64 (.slice (some ⟨gg, 0, none⟩) (0 + n) cap) (0 + n) ([] ++ flat l)) (gr : (w1.alloc (.cells #[] 36)).grownBy w3 (Value.slice (some ⟨w1.heap.size, 0, none⟩) 0 0).ownBlock) (at3 : (Value.slice (some ⟨w1.heap.size, 0, none⟩) 0 0).ownBlock = some gg ∨ gg = w1.heap.size + 1) :
    w3.ownsRow 0 36 64 (.slice (some ⟨g3, 0, none⟩) n n) n (flat l) ∧ w3.ownsRow 0 36 64 (.slice (some ⟨gg, 0, none⟩) n cap) n (flat l) ∧ g3 ≠ gg ∧ wA.heap.size ≤ gg ∧ g3 < w3.heap.size := by
  have hz := b1.size
  have sg : Stp (fun x => x = w1.heap.size) w1 w3 := (Stp.of_alloc w1 _ _).trans (Stp.of_grown gr (fun x hx => .inl (by simp [Value.ownBlock] at hx; exact hx.symm)))
  have hs := sg.size
  rw [Nat.zero_add, List.nil_append] at o3
  have hg : w1.heap.size ≤ gg := by
    rcases at3 with e | e
    · simp [Value.ownBlock] at e; omega
    · omega
  refine ⟨own_stepV o1 sg (fun r hr e => ?_), o3, by omega, by omega, by omega⟩
  simp [Value.ownBlock] at hr; omega
theorem ended {wA w3 Vb V9 : World} {g3 gg gl capl gm capm cap n H4 H9 : Nat} {l : List Blk} {b : Blk} (hl : l.length = n) (s3 : Stp (fun _ => False) wA w3) (l1 : wA.heap.size ≤ g3) (lg : wA.heap.size ≤ gg) (lt3 : gg < w3.heap.size) (hne : g3 ≠ gg) (k9 : Stp (fun x => x = g3 ∨ x = gg) w3 V9) (zz4 : w3.heap.size ≤ H4) (zz9 : w3.heap.size ≤ H9) (s9 : Stp (fun x => x = gg) Vb V9)
    (o4 : Vb.ownsRow 0 36 64 (.slice (some ⟨gl, 0, none⟩) (n + 1) capl) (n + 1) (flat l ++ b.cs)) (at4 : (Value.slice (some ⟨g3, 0, none⟩) n n).ownBlock = some gl ∨ gl = H4)
    (o9 : V9.ownsRow 0 36 64 (.slice (some ⟨gm, 0, none⟩) (n + 1) capm) (n + 1) (flat l ++ b.cs)) (at9 : (Value.slice (some ⟨gg, 0, none⟩) n cap).ownBlock = some gm ∨ gm = H9) :
    Stp (fun _ => False) wA V9 ∧ Bls V9 (some ⟨gl, 0, none⟩) (n + 1) capl (l ++ [b]) ∧ Bls V9 (some ⟨gm, 0, none⟩) (n + 1) capm (l ++ [b]) ∧ wA.heap.size ≤ gl ∧ wA.heap.size ≤ gm := by
  have hz := s3.size
  have h4 : gl = g3 ∨ gl = H4 := at4.imp (fun e => by simp [Value.ownBlock] at e; exact e.symm) id
  have h9 : gm = gg ∨ gm = H9 := at9.imp (fun e => by simp [Value.ownBlock] at e; exact e.symm) id
  rw [← flat_snoc] at o4 o9
  refine ⟨s3.next k9 (fun x hx => .inr (by omega)), Bls.own (own_stepV o4 s9 (fun r hr e => ?_)) (by simp [hl]), Bls.own o9 (by simp [hl]), by omega, by omega⟩
  simp [Value.ownBlock] at hr; omega

set_option maxRecDepth 100000 in
set_option maxHeartbeats 1000000 in
theorem do_load_end {w : World} {g pg y q k : Nat} {S : DS} {p : PS} {F R : Nat → Prop} (h : Bth w g pg y q S p F R k) (hk : k ≤ 100) (x : AC) (ht : x.t = S.n) (hc : among x.d 11 = 10) :
    Calls Try.prog 8 #[.pointer (some ⟨g, 0, none⟩), .pointer (some ⟨y, 0, none⟩), .pointer (some ⟨pg, 0, none⟩), .pointer (some ⟨q, 0, none⟩), .agg x.cs.toArray] w fun e w' => e = .returned (.bool true) ∧ Done w w' g pg y q k F R := by
  have sA : Stp (fun _ => False) w (w.alloc (.cells x.cs.toArray 39)) := Stp.of_alloc _ _ _
  have hA := h.step sA (fun _ _ => id)
  have hr : (w.alloc (.cells x.cs.toArray 39)).rangeAt w.heap.size 0 x.cs := made_range w _ _
  have c1 := AC.c1 hr
  have c2 := AC.c2 hr
  have c3 := AC.c3 hr
  have hlt := h.lt
  have hz := sA.size
  have n1 := h.d.d.ok.n1
  have n2 := h.d.d.ok.n2
  obtain ⟨ie, hie, hiz, hisz, hiby⟩ := info_parts info36
  have b0 := build0
  clear h hr
  rw [ht] at c2
  have i1 : (0 : Int) ≤ (S.n : Int) := by omega
  go_enter Try.func8, Try.ntmps8
  go_wp2_with (first
    | (go_at_call 17; refine (among_any x.d 11 _ (by decide) (by decide)).mono ?_; rintro e u ⟨rfl, rfl⟩; rw [hc])
    | (go_at_call 15; refine (image_any hA.d.d).mono ?_; rintro e w1 ⟨g3, rfl, b1, l1, l2, o1⟩; have c2' := (Stp.of_below b1 (fun _ => False)).cell c2 id; have hB1 := (Bls.own o1 (img_len S)).step (Stp.of_alloc w1 (.cells #[] 36) (fun _ => False)) (fun _ _ => id))
    | (at_builtin; refine wpList_append_lies _ rfl _ _ 41 rfl 0 36 ie _ 64 64 u41 hie hiz hisz hiby (by rfl) (by omega) (.slice (some ⟨w1.heap.size, 0, none⟩) 0 0) 0 [] (by rfl) (own0 w1) ⟨g3, 0, none⟩ S.n S.n (flat (img S)) (by rfl) (by rw [flat_len, img_len]) (fun j u hj => hB1.news j u hj) (flat_one _) (by omega) (by unfold maxLen; omega) (by omega) (Nat.zero_le _) (w1.heap.size + 1) (by simp) ?_; intro gg cap w3 o3 gr3 at3 lt3; obtain ⟨s3, B3, Bg, lg⟩ := copied (img_len S) b1 l1 l2 o1 o3 gr3 at3; have c2'' := s3.cell c2 id; have c3'' := s3.range c3 id; have h3 := hA.step s3 (fun _ _ => id); rw [Nat.zero_add]))
  obtain ⟨ol, om, hne, lg', hg3lt⟩ := owned b1 l1 l2 o1 o3 gr3 at3
  have hwg : w.heap.size < g3 ∧ w.heap.size < gg := by simp at hz l1 lg'; omega
  have hS : ∀ w', Stp (fun x => x = g3 ∨ x = gg) w3 w' → (Stp (fun x => x = g3 ∨ x = gg) w3 w' ∧ w'.rangeAt w.heap.size 2 x.b.cs) := fun w' h => ⟨h, h.range (by simpa using c3'') (by omega)⟩
  clear o1 o3 gr3 at3 hB1 b0
  have kV0' : Stp (fun _ => False) w3 w3.drew := (Stp.refl _ w3).drew
  have kV0 : Stp (fun x => x = g3 ∨ x = gg) w3 w3.drew := (Stp.refl _ w3).drew
  refine wp_region_held_drew (S := fun w' => Stp (fun x => x = g3 ∨ x = gg) w3 w' ∧ w'.rangeAt w.heap.size 2 x.b.cs) (by kernel_rfl) (hS _ kV0) (fun hHeld => ?_)
  generalize w3.drew = V0 at kV0 kV0' hHeld ⊢
  refine wpAnyH_take (i := 0) (oi := { dst := some 94, op := Op.move (Operand.tmp 11), type := 41, pos := _, after := #[], guard := none }) (v := .slice (some ⟨g3, 0, none⟩) S.n S.n) rfl (by kernel_rfl) (by kernel_rfl) (by kernel_rfl) (fun _ _ _ h => h) (Or.inl ⟨by rfl, ?_⟩) hHeld ?_
  · intro v hv
    go_simp
  try simp only [Act.put, List.setIfInBounds_toArray, List.set_cons_zero, List.set_cons_succ]
  refine wpAnyH_take (i := 1) (oi := { dst := some 95, op := Op.fieldAddr 39 (Operand.tmp 9) 2, type := 0, pos := _, after := #[], guard := none }) (v := .pointer (some ⟨w.heap.size, 2, none⟩)) rfl (by kernel_rfl) (by kernel_rfl) (by kernel_rfl) (fun _ _ _ h => h) (Or.inl ⟨by rfl, ?_⟩) hHeld ?_
  · intro v hv
    go_simp
  try simp only [Act.put, List.setIfInBounds_toArray, List.set_cons_zero, List.set_cons_succ]
  refine wpAnyH_take (i := 2) (oi := { dst := some 96, op := Op.load 36 (Operand.tmp 95), type := 36, pos := _, after := #[{ on := 1, ground := Ground.data }], guard := none }) (v := .agg x.b.cs.toArray) rfl (by kernel_rfl) (by kernel_rfl) (by kernel_rfl) (fun _ _ _ h => h)
    (yieldsIf_load_mid (by rfl) 36 (.tmp 95) rfl w.heap.size 2 rfl x.b.cs _ (fun v hv => hv.2) u36 rfl (size36 x.b)) hHeld ?_
  try simp only [Act.put, List.setIfInBounds_toArray, List.set_cons_zero, List.set_cons_succ]
  refine wpAnyH_take (i := 5) (oi := { dst := some 99, op := Op.move (Operand.tmp 12), type := 41, pos := _, after := #[], guard := none }) (v := .slice (some ⟨gg, 0, none⟩) S.n cap) rfl (by kernel_rfl) (by kernel_rfl) (by kernel_rfl) (fun _ _ _ h => h) (Or.inl ⟨by rfl, ?_⟩) hHeld ?_
  · intro v hv
    go_simp
  try simp only [Act.put, List.setIfInBounds_toArray, List.set_cons_zero, List.set_cons_succ]
  refine wpAnyH_take (i := 6) (oi := { dst := some 100, op := Op.fieldAddr 39 (Operand.tmp 9) 2, type := 0, pos := _, after := #[], guard := none }) (v := .pointer (some ⟨w.heap.size, 2, none⟩)) rfl (by kernel_rfl) (by kernel_rfl) (by kernel_rfl) (fun _ _ _ h => h) (Or.inl ⟨by rfl, ?_⟩) hHeld ?_
  · intro v hv
    go_simp
  try simp only [Act.put, List.setIfInBounds_toArray, List.set_cons_zero, List.set_cons_succ]
  refine wpAnyH_take (i := 7) (oi := { dst := some 101, op := Op.load 36 (Operand.tmp 100), type := 36, pos := _, after := #[{ on := 6, ground := Ground.data }], guard := none }) (v := .agg x.b.cs.toArray) rfl (by kernel_rfl) (by kernel_rfl) (by kernel_rfl) (fun _ _ _ h => h)
    (yieldsIf_load_mid (by rfl) 36 (.tmp 100) rfl w.heap.size 2 rfl x.b.cs _ (fun v hv => hv.2) u36 rfl (size36 x.b)) hHeld ?_
  try simp only [Act.put, List.setIfInBounds_toArray, List.set_cons_zero, List.set_cons_succ]
  have olV0 := own_stepV ol kV0' (fun _ _ => id)
  have omV0 := own_stepV om kV0' (fun _ _ => id)
  refine wpAnyH_ready (rs := [3, 8]) (by kernel_rfl) (by simp) ?_
  refine AllReadyH.cons (o := { dst := some 97, op := Op.buildSlice 41 1 #[(0, Operand.tmp 96)], type := 41, pos := _, after := #[{ on := 2, ground := Ground.data }], guard := none }) rfl (fun K hK => ?_) (AllReadyH.cons (o := { dst := some 102, op := Op.buildSlice 41 1 #[(0, Operand.tmp 101)], type := 41, pos := _, after := #[{ on := 7, ground := Ground.data }], guard := none }) rfl (fun K hK => ?_) AllReadyH.nil)
  · rw [if_pos (by rfl)]
    have hl3 := lit36 x.b V0
    refine wp_of_run (v := .slice (some ⟨V0.heap.size, 0, none⟩) 1 1) (w' := V0.alloc (.cells x.b.cs.toArray 36)) ?_ ?_
    · simp only [execOp, Sem.run_bind, List.map_toArray, List.map_cons, List.map_nil]
      first | exact hl3 | (erw [hl3]; rfl)
    clear hl3
    obtain ⟨t3, z3, n3⟩ := built V0 x.b
    generalize hV3 : V0.alloc (.cells x.b.cs.toArray 36) = V1 at t3 z3 n3 ⊢
    have kV1 : Stp (fun x => x = g3 ∨ x = gg) w3 V1 := kV0.trans (t3.mono (fun _ h => h.elim))
    refine hK.out _ _ (hS _ kV1) (fun hHeld => ?_)
    clear hK K hV3
    try simp only [Act.put, List.setIfInBounds_toArray, List.set_cons_zero, List.set_cons_succ]
    have olV1 := own_stepV olV0 t3 (fun _ _ => id)
    have omV1 := own_stepV omV0 t3 (fun _ _ => id)
    refine wpAnyH_ready (rs := [4, 8]) (by kernel_rfl) (by simp) ?_
    refine AllReadyH.cons (o := { dst := some 98, op := Op.call { callee := Callee.builtin Builtin.append, args := #[Operand.tmp 94, Operand.tmp 97], argTypes := #[41, 41] }, type := 41, pos := _, after := #[{ on := 0, ground := Ground.data }, { on := 3, ground := Ground.data }], guard := none }) rfl (fun K hK => ?_) (AllReadyH.cons (o := { dst := some 102, op := Op.buildSlice 41 1 #[(0, Operand.tmp 101)], type := 41, pos := _, after := #[{ on := 7, ground := Ground.data }], guard := none }) rfl (fun K hK => ?_) AllReadyH.nil)
    · refine step_append_lies _ rfl (.tmp 94) (.tmp 97) 41 rfl 0 36 ie _ 64 64 u41 hie hiz hisz hiby (by rfl) (by omega) (.slice (some ⟨g3, 0, none⟩) S.n S.n) S.n (flat (img S)) (by rfl) (olV1) ⟨V0.heap.size, 0, none⟩ 1 1 x.b.cs (by rfl) (by rw [x.b.cs_len]) (n3) x.b.cs_one (by omega) (by unfold maxLen; omega) (by omega) (Nat.zero_le _) V1.heap.size rfl ?_
      intro gl capl V2 o4 gr4 at4 lt4
      have s4 : Stp (fun x => x = g3) V1 V2 := Stp.of_grown gr4 (fun x hx => .inl (by simp [Value.ownBlock] at hx; exact hx.symm))
      have kV2 : Stp (fun x => x = g3 ∨ x = gg) w3 V2 := kV1.trans (s4.mono (fun _ h => .inl (.inl h)))
      refine hK.out _ _ (hS _ kV2) (fun hHeld => ?_)
      clear hK K
      try simp only [Act.put, List.setIfInBounds_toArray, List.set_cons_zero, List.set_cons_succ]
      have zz4 : w3.heap.size ≤ V1.heap.size := kV1.size
      have omV2 := own_stepV omV1 s4 (fun r hr => by simp [Value.ownBlock] at hr; omega)
      refine wpAnyH_ready (rs := [8]) (by kernel_rfl) (by simp) ?_
      refine AllReadyH.cons (o := { dst := some 102, op := Op.buildSlice 41 1 #[(0, Operand.tmp 101)], type := 41, pos := _, after := #[{ on := 7, ground := Ground.data }], guard := none }) rfl (fun K hK => ?_) AllReadyH.nil
      rw [if_pos (by rfl)]
      have hl8 := lit36 x.b V2
      refine wp_of_run (v := .slice (some ⟨V2.heap.size, 0, none⟩) 1 1) (w' := V2.alloc (.cells x.b.cs.toArray 36)) ?_ ?_
      · simp only [execOp, Sem.run_bind, List.map_toArray, List.map_cons, List.map_nil]
        first | exact hl8 | (erw [hl8]; rfl)
      clear hl8
      obtain ⟨t8, z8, n8⟩ := built V2 x.b
      generalize hV8 : V2.alloc (.cells x.b.cs.toArray 36) = V3 at t8 z8 n8 ⊢
      have kV3 : Stp (fun x => x = g3 ∨ x = gg) w3 V3 := kV2.trans (t8.mono (fun _ h => h.elim))
      refine hK.out _ _ (hS _ kV3) (fun hHeld => ?_)
      clear hK K hV8
      try simp only [Act.put, List.setIfInBounds_toArray, List.set_cons_zero, List.set_cons_succ]
      have o4 := own_stepV o4 t8 (fun _ _ => id)
      have omV3 := own_stepV omV2 t8 (fun _ _ => id)
      refine wpAnyH_ready (rs := [9]) (by kernel_rfl) (by simp) ?_
      refine AllReadyH.cons (o := { dst := some 103, op := Op.call { callee := Callee.builtin Builtin.append, args := #[Operand.tmp 99, Operand.tmp 102], argTypes := #[41, 41] }, type := 41, pos := _, after := #[{ on := 5, ground := Ground.data }, { on := 8, ground := Ground.data }, { on := 4, ground := Ground.chain }], guard := none }) rfl (fun K hK => ?_) AllReadyH.nil
      refine step_append_lies _ rfl (.tmp 99) (.tmp 102) 41 rfl 0 36 ie _ 64 64 u41 hie hiz hisz hiby (by rfl) (by omega) (.slice (some ⟨gg, 0, none⟩) S.n cap) S.n (flat (img S)) (by rfl) (omV3) ⟨V2.heap.size, 0, none⟩ 1 1 x.b.cs (by rfl) (by rw [x.b.cs_len]) (n8) x.b.cs_one (by omega) (by unfold maxLen; omega) (by omega) (Nat.zero_le _) V3.heap.size rfl ?_
      intro gm capm V4 o9 gr9 at9 lt9
      have s9 : Stp (fun x => x = gg) V3 V4 := Stp.of_grown gr9 (fun x hx => .inl (by simp [Value.ownBlock] at hx; exact hx.symm))
      have kV4 : Stp (fun x => x = g3 ∨ x = gg) w3 V4 := kV3.trans (s9.mono (fun _ h => .inl (.inr h)))
      refine hK.out _ _ (hS _ kV4) (fun hHeld => ?_)
      clear hK K
      try simp only [Act.put, List.setIfInBounds_toArray, List.set_cons_zero, List.set_cons_succ]
      have zz9 : w3.heap.size ≤ V3.heap.size := kV3.size
      refine wpAnyH_take (i := 10) (oi := { dst := some 11, op := Op.assign (Operand.tmp 98), type := 41, pos := _, after := #[{ on := 4, ground := Ground.data }, { on := 9, ground := Ground.chain }, { on := 0, ground := Ground.phase }, { on := 1, ground := Ground.phase }, { on := 2, ground := Ground.phase }, { on := 3, ground := Ground.phase }, { on := 4, ground := Ground.phase }, { on := 5, ground := Ground.textOnly Departure.lateStores }, { on := 6, ground := Ground.textOnly Departure.lateStores }, { on := 7, ground := Ground.textOnly Departure.lateStores }, { on := 8, ground := Ground.textOnly Departure.lateStores }, { on := 9, ground := Ground.textOnly Departure.lateStoresUnsure }], guard := none }) (v := .slice (some ⟨gl, 0, none⟩) (S.n + 1) capl) rfl (by kernel_rfl) (by kernel_rfl) (by kernel_rfl) (fun _ _ _ h => h) (Or.inl ⟨by rfl, ?_⟩) hHeld ?_
      · intro v hv
        go_simp
      try simp only [Act.put, List.setIfInBounds_toArray, List.set_cons_zero, List.set_cons_succ]
      refine wpAnyH_take (i := 11) (oi := { dst := some 12, op := Op.assign (Operand.tmp 103), type := 41, pos := _, after := #[{ on := 9, ground := Ground.data }, { on := 10, ground := Ground.chain }, { on := 0, ground := Ground.phase }, { on := 1, ground := Ground.phase }, { on := 2, ground := Ground.phase }, { on := 3, ground := Ground.phase }, { on := 4, ground := Ground.phase }, { on := 5, ground := Ground.phase }, { on := 6, ground := Ground.phase }, { on := 7, ground := Ground.phase }, { on := 8, ground := Ground.phase }, { on := 9, ground := Ground.phase }, { on := 10, ground := Ground.phase }], guard := none }) (v := .slice (some ⟨gm, 0, none⟩) (S.n + 1) capm) rfl (by kernel_rfl) (by kernel_rfl) (by kernel_rfl) (fun _ _ _ h => h) (Or.inl ⟨by rfl, ?_⟩) hHeld ?_
      · intro v hv
        go_simp
      try simp only [Act.put, List.setIfInBounds_toArray, List.set_cons_zero, List.set_cons_succ]
      refine wpAnyH_done (by kernel_rfl) ?_ _
      obtain ⟨s9', Bl, Bm, ll, lm⟩ := ended (img_len S) s3 l1 lg' lt3 hne kV4 zz4 zz9 s9 o4 at4 o9 at9
      clear o4 gr4 at4 lt4 o9 gr9 at9 lt9 s9 s4 hHeld hS
      have h9 := hA.step s9' (fun _ _ => id)
      go_wp2_with (first
        | (go_at_call 29; refine (load_any h9.d.d Bl (fun z _ e hz' => by injection e with e; subst e; have := hlt _ (.inl hz'); simp at this; omega)).mono ?_; rintro e w4 ⟨rfl, d4, k4⟩)
        | (go_at_call 30; refine (rload_any (h9.mid (k4.mono (fun x hx => .inl (.inl hx)))).1 (Bm.step k4 (fun z e hz' => by injection e with e; subst e; have := hlt _ (.inl hz'); simp at this; omega)) (fun z _ e hz' => by injection e with e; subst e; have := hlt _ (.inr (.inl hz')); simp at this; omega)).mono ?_; rintro e w5 ⟨rfl, r5, k5⟩))
      have D := Bth.loaded h9 (sA.trans s9') _ d4 k4 r5 k5
      go_returns
      exact ⟨rfl, D⟩
    · rw [if_pos (by rfl)]
      have hl8 := lit36 x.b V1
      refine wp_of_run (v := .slice (some ⟨V1.heap.size, 0, none⟩) 1 1) (w' := V1.alloc (.cells x.b.cs.toArray 36)) ?_ ?_
      · simp only [execOp, Sem.run_bind, List.map_toArray, List.map_cons, List.map_nil]
        first | exact hl8 | (erw [hl8]; rfl)
      clear hl8
      obtain ⟨t8, z8, n8⟩ := built V1 x.b
      generalize hV8 : V1.alloc (.cells x.b.cs.toArray 36) = V2 at t8 z8 n8 ⊢
      have kV2 : Stp (fun x => x = g3 ∨ x = gg) w3 V2 := kV1.trans (t8.mono (fun _ h => h.elim))
      refine hK.out _ _ (hS _ kV2) (fun hHeld => ?_)
      clear hK K hV8
      try simp only [Act.put, List.setIfInBounds_toArray, List.set_cons_zero, List.set_cons_succ]
      have olV2 := own_stepV olV1 t8 (fun _ _ => id)
      have omV2 := own_stepV omV1 t8 (fun _ _ => id)
      have n3 := fun j v hv => t8.cell (n3 j v hv) id
      refine wpAnyH_ready (rs := [4]) (by kernel_rfl) (by simp) ?_
      refine AllReadyH.cons (o := { dst := some 98, op := Op.call { callee := Callee.builtin Builtin.append, args := #[Operand.tmp 94, Operand.tmp 97], argTypes := #[41, 41] }, type := 41, pos := _, after := #[{ on := 0, ground := Ground.data }, { on := 3, ground := Ground.data }], guard := none }) rfl (fun K hK => ?_) AllReadyH.nil
      refine step_append_lies _ rfl (.tmp 94) (.tmp 97) 41 rfl 0 36 ie _ 64 64 u41 hie hiz hisz hiby (by rfl) (by omega) (.slice (some ⟨g3, 0, none⟩) S.n S.n) S.n (flat (img S)) (by rfl) (olV2) ⟨V0.heap.size, 0, none⟩ 1 1 x.b.cs (by rfl) (by rw [x.b.cs_len]) (n3) x.b.cs_one (by omega) (by unfold maxLen; omega) (by omega) (Nat.zero_le _) V2.heap.size rfl ?_
      intro gl capl V3 o4 gr4 at4 lt4
      have s4 : Stp (fun x => x = g3) V2 V3 := Stp.of_grown gr4 (fun x hx => .inl (by simp [Value.ownBlock] at hx; exact hx.symm))
      have kV3 : Stp (fun x => x = g3 ∨ x = gg) w3 V3 := kV2.trans (s4.mono (fun _ h => .inl (.inl h)))
      refine hK.out _ _ (hS _ kV3) (fun hHeld => ?_)
      clear hK K
      try simp only [Act.put, List.setIfInBounds_toArray, List.set_cons_zero, List.set_cons_succ]
      have zz4 : w3.heap.size ≤ V2.heap.size := kV2.size
      have omV3 := own_stepV omV2 s4 (fun r hr => by simp [Value.ownBlock] at hr; omega)
      have n8 := fun j v hv => s4.cell (n8 j v hv) (by rw [Addr.add_mid]; have := kV1.size; simp only; omega)
      refine wpAnyH_ready (rs := [9]) (by kernel_rfl) (by simp) ?_
      refine AllReadyH.cons (o := { dst := some 103, op := Op.call { callee := Callee.builtin Builtin.append, args := #[Operand.tmp 99, Operand.tmp 102], argTypes := #[41, 41] }, type := 41, pos := _, after := #[{ on := 5, ground := Ground.data }, { on := 8, ground := Ground.data }, { on := 4, ground := Ground.chain }], guard := none }) rfl (fun K hK => ?_) AllReadyH.nil
      refine step_append_lies _ rfl (.tmp 99) (.tmp 102) 41 rfl 0 36 ie _ 64 64 u41 hie hiz hisz hiby (by rfl) (by omega) (.slice (some ⟨gg, 0, none⟩) S.n cap) S.n (flat (img S)) (by rfl) (omV3) ⟨V1.heap.size, 0, none⟩ 1 1 x.b.cs (by rfl) (by rw [x.b.cs_len]) (n8) x.b.cs_one (by omega) (by unfold maxLen; omega) (by omega) (Nat.zero_le _) V3.heap.size rfl ?_
      intro gm capm V4 o9 gr9 at9 lt9
      have s9 : Stp (fun x => x = gg) V3 V4 := Stp.of_grown gr9 (fun x hx => .inl (by simp [Value.ownBlock] at hx; exact hx.symm))
      have kV4 : Stp (fun x => x = g3 ∨ x = gg) w3 V4 := kV3.trans (s9.mono (fun _ h => .inl (.inr h)))
      refine hK.out _ _ (hS _ kV4) (fun hHeld => ?_)
      clear hK K
      try simp only [Act.put, List.setIfInBounds_toArray, List.set_cons_zero, List.set_cons_succ]
      have zz9 : w3.heap.size ≤ V3.heap.size := kV3.size
      refine wpAnyH_take (i := 10) (oi := { dst := some 11, op := Op.assign (Operand.tmp 98), type := 41, pos := _, after := #[{ on := 4, ground := Ground.data }, { on := 9, ground := Ground.chain }, { on := 0, ground := Ground.phase }, { on := 1, ground := Ground.phase }, { on := 2, ground := Ground.phase }, { on := 3, ground := Ground.phase }, { on := 4, ground := Ground.phase }, { on := 5, ground := Ground.textOnly Departure.lateStores }, { on := 6, ground := Ground.textOnly Departure.lateStores }, { on := 7, ground := Ground.textOnly Departure.lateStores }, { on := 8, ground := Ground.textOnly Departure.lateStores }, { on := 9, ground := Ground.textOnly Departure.lateStoresUnsure }], guard := none }) (v := .slice (some ⟨gl, 0, none⟩) (S.n + 1) capl) rfl (by kernel_rfl) (by kernel_rfl) (by kernel_rfl) (fun _ _ _ h => h) (Or.inl ⟨by rfl, ?_⟩) hHeld ?_
      · intro v hv
        go_simp
      try simp only [Act.put, List.setIfInBounds_toArray, List.set_cons_zero, List.set_cons_succ]
      refine wpAnyH_take (i := 11) (oi := { dst := some 12, op := Op.assign (Operand.tmp 103), type := 41, pos := _, after := #[{ on := 9, ground := Ground.data }, { on := 10, ground := Ground.chain }, { on := 0, ground := Ground.phase }, { on := 1, ground := Ground.phase }, { on := 2, ground := Ground.phase }, { on := 3, ground := Ground.phase }, { on := 4, ground := Ground.phase }, { on := 5, ground := Ground.phase }, { on := 6, ground := Ground.phase }, { on := 7, ground := Ground.phase }, { on := 8, ground := Ground.phase }, { on := 9, ground := Ground.phase }, { on := 10, ground := Ground.phase }], guard := none }) (v := .slice (some ⟨gm, 0, none⟩) (S.n + 1) capm) rfl (by kernel_rfl) (by kernel_rfl) (by kernel_rfl) (fun _ _ _ h => h) (Or.inl ⟨by rfl, ?_⟩) hHeld ?_
      · intro v hv
        go_simp
      try simp only [Act.put, List.setIfInBounds_toArray, List.set_cons_zero, List.set_cons_succ]
      refine wpAnyH_done (by kernel_rfl) ?_ _
      obtain ⟨s9', Bl, Bm, ll, lm⟩ := ended (img_len S) s3 l1 lg' lt3 hne kV4 zz4 zz9 s9 o4 at4 o9 at9
      clear o4 gr4 at4 lt4 o9 gr9 at9 lt9 s9 s4 hHeld hS
      have h9 := hA.step s9' (fun _ _ => id)
      go_wp2_with (first
        | (go_at_call 29; refine (load_any h9.d.d Bl (fun z _ e hz' => by injection e with e; subst e; have := hlt _ (.inl hz'); simp at this; omega)).mono ?_; rintro e w4 ⟨rfl, d4, k4⟩)
        | (go_at_call 30; refine (rload_any (h9.mid (k4.mono (fun x hx => .inl (.inl hx)))).1 (Bm.step k4 (fun z e hz' => by injection e with e; subst e; have := hlt _ (.inl hz'); simp at this; omega)) (fun z _ e hz' => by injection e with e; subst e; have := hlt _ (.inr (.inl hz')); simp at this; omega)).mono ?_; rintro e w5 ⟨rfl, r5, k5⟩))
      have D := Bth.loaded h9 (sA.trans s9') _ d4 k4 r5 k5
      go_returns
      exact ⟨rfl, D⟩
  · rw [if_pos (by rfl)]
    have hl8 := lit36 x.b V0
    refine wp_of_run (v := .slice (some ⟨V0.heap.size, 0, none⟩) 1 1) (w' := V0.alloc (.cells x.b.cs.toArray 36)) ?_ ?_
    · simp only [execOp, Sem.run_bind, List.map_toArray, List.map_cons, List.map_nil]
      first | exact hl8 | (erw [hl8]; rfl)
    clear hl8
    obtain ⟨t8, z8, n8⟩ := built V0 x.b
    generalize hV8 : V0.alloc (.cells x.b.cs.toArray 36) = V1 at t8 z8 n8 ⊢
    have kV1 : Stp (fun x => x = g3 ∨ x = gg) w3 V1 := kV0.trans (t8.mono (fun _ h => h.elim))
    refine hK.out _ _ (hS _ kV1) (fun hHeld => ?_)
    clear hK K hV8
    try simp only [Act.put, List.setIfInBounds_toArray, List.set_cons_zero, List.set_cons_succ]
    have olV1 := own_stepV olV0 t8 (fun _ _ => id)
    have omV1 := own_stepV omV0 t8 (fun _ _ => id)
    refine wpAnyH_ready (rs := [3]) (by kernel_rfl) (by simp) ?_
    refine AllReadyH.cons (o := { dst := some 97, op := Op.buildSlice 41 1 #[(0, Operand.tmp 96)], type := 41, pos := _, after := #[{ on := 2, ground := Ground.data }], guard := none }) rfl (fun K hK => ?_) AllReadyH.nil
    rw [if_pos (by rfl)]
    have hl3 := lit36 x.b V1
    refine wp_of_run (v := .slice (some ⟨V1.heap.size, 0, none⟩) 1 1) (w' := V1.alloc (.cells x.b.cs.toArray 36)) ?_ ?_
    · simp only [execOp, Sem.run_bind, List.map_toArray, List.map_cons, List.map_nil]
      first | exact hl3 | (erw [hl3]; rfl)
    clear hl3
    obtain ⟨t3, z3, n3⟩ := built V1 x.b
    generalize hV3 : V1.alloc (.cells x.b.cs.toArray 36) = V2 at t3 z3 n3 ⊢
    have kV2 : Stp (fun x => x = g3 ∨ x = gg) w3 V2 := kV1.trans (t3.mono (fun _ h => h.elim))
    refine hK.out _ _ (hS _ kV2) (fun hHeld => ?_)
    clear hK K hV3
    try simp only [Act.put, List.setIfInBounds_toArray, List.set_cons_zero, List.set_cons_succ]
    have olV2 := own_stepV olV1 t3 (fun _ _ => id)
    have omV2 := own_stepV omV1 t3 (fun _ _ => id)
    have n8 := fun j v hv => t3.cell (n8 j v hv) id
    refine wpAnyH_ready (rs := [4]) (by kernel_rfl) (by simp) ?_
    refine AllReadyH.cons (o := { dst := some 98, op := Op.call { callee := Callee.builtin Builtin.append, args := #[Operand.tmp 94, Operand.tmp 97], argTypes := #[41, 41] }, type := 41, pos := _, after := #[{ on := 0, ground := Ground.data }, { on := 3, ground := Ground.data }], guard := none }) rfl (fun K hK => ?_) AllReadyH.nil
    refine step_append_lies _ rfl (.tmp 94) (.tmp 97) 41 rfl 0 36 ie _ 64 64 u41 hie hiz hisz hiby (by rfl) (by omega) (.slice (some ⟨g3, 0, none⟩) S.n S.n) S.n (flat (img S)) (by rfl) (olV2) ⟨V1.heap.size, 0, none⟩ 1 1 x.b.cs (by rfl) (by rw [x.b.cs_len]) (n3) x.b.cs_one (by omega) (by unfold maxLen; omega) (by omega) (Nat.zero_le _) V2.heap.size rfl ?_
    intro gl capl V3 o4 gr4 at4 lt4
    have s4 : Stp (fun x => x = g3) V2 V3 := Stp.of_grown gr4 (fun x hx => .inl (by simp [Value.ownBlock] at hx; exact hx.symm))
    have kV3 : Stp (fun x => x = g3 ∨ x = gg) w3 V3 := kV2.trans (s4.mono (fun _ h => .inl (.inl h)))
    refine hK.out _ _ (hS _ kV3) (fun hHeld => ?_)
    clear hK K
    try simp only [Act.put, List.setIfInBounds_toArray, List.set_cons_zero, List.set_cons_succ]
    have zz4 : w3.heap.size ≤ V2.heap.size := kV2.size
    have omV3 := own_stepV omV2 s4 (fun r hr => by simp [Value.ownBlock] at hr; omega)
    have n8 := fun j v hv => s4.cell (n8 j v hv) (by rw [Addr.add_mid]; have := kV0.size; simp only; omega)
    refine wpAnyH_ready (rs := [9]) (by kernel_rfl) (by simp) ?_
    refine AllReadyH.cons (o := { dst := some 103, op := Op.call { callee := Callee.builtin Builtin.append, args := #[Operand.tmp 99, Operand.tmp 102], argTypes := #[41, 41] }, type := 41, pos := _, after := #[{ on := 5, ground := Ground.data }, { on := 8, ground := Ground.data }, { on := 4, ground := Ground.chain }], guard := none }) rfl (fun K hK => ?_) AllReadyH.nil
    refine step_append_lies _ rfl (.tmp 99) (.tmp 102) 41 rfl 0 36 ie _ 64 64 u41 hie hiz hisz hiby (by rfl) (by omega) (.slice (some ⟨gg, 0, none⟩) S.n cap) S.n (flat (img S)) (by rfl) (omV3) ⟨V0.heap.size, 0, none⟩ 1 1 x.b.cs (by rfl) (by rw [x.b.cs_len]) (n8) x.b.cs_one (by omega) (by unfold maxLen; omega) (by omega) (Nat.zero_le _) V3.heap.size rfl ?_
    intro gm capm V4 o9 gr9 at9 lt9
    have s9 : Stp (fun x => x = gg) V3 V4 := Stp.of_grown gr9 (fun x hx => .inl (by simp [Value.ownBlock] at hx; exact hx.symm))
    have kV4 : Stp (fun x => x = g3 ∨ x = gg) w3 V4 := kV3.trans (s9.mono (fun _ h => .inl (.inr h)))
    refine hK.out _ _ (hS _ kV4) (fun hHeld => ?_)
    clear hK K
    try simp only [Act.put, List.setIfInBounds_toArray, List.set_cons_zero, List.set_cons_succ]
    have zz9 : w3.heap.size ≤ V3.heap.size := kV3.size
    refine wpAnyH_take (i := 10) (oi := { dst := some 11, op := Op.assign (Operand.tmp 98), type := 41, pos := _, after := #[{ on := 4, ground := Ground.data }, { on := 9, ground := Ground.chain }, { on := 0, ground := Ground.phase }, { on := 1, ground := Ground.phase }, { on := 2, ground := Ground.phase }, { on := 3, ground := Ground.phase }, { on := 4, ground := Ground.phase }, { on := 5, ground := Ground.textOnly Departure.lateStores }, { on := 6, ground := Ground.textOnly Departure.lateStores }, { on := 7, ground := Ground.textOnly Departure.lateStores }, { on := 8, ground := Ground.textOnly Departure.lateStores }, { on := 9, ground := Ground.textOnly Departure.lateStoresUnsure }], guard := none }) (v := .slice (some ⟨gl, 0, none⟩) (S.n + 1) capl) rfl (by kernel_rfl) (by kernel_rfl) (by kernel_rfl) (fun _ _ _ h => h) (Or.inl ⟨by rfl, ?_⟩) hHeld ?_
    · intro v hv
      go_simp
    try simp only [Act.put, List.setIfInBounds_toArray, List.set_cons_zero, List.set_cons_succ]
    refine wpAnyH_take (i := 11) (oi := { dst := some 12, op := Op.assign (Operand.tmp 103), type := 41, pos := _, after := #[{ on := 9, ground := Ground.data }, { on := 10, ground := Ground.chain }, { on := 0, ground := Ground.phase }, { on := 1, ground := Ground.phase }, { on := 2, ground := Ground.phase }, { on := 3, ground := Ground.phase }, { on := 4, ground := Ground.phase }, { on := 5, ground := Ground.phase }, { on := 6, ground := Ground.phase }, { on := 7, ground := Ground.phase }, { on := 8, ground := Ground.phase }, { on := 9, ground := Ground.phase }, { on := 10, ground := Ground.phase }], guard := none }) (v := .slice (some ⟨gm, 0, none⟩) (S.n + 1) capm) rfl (by kernel_rfl) (by kernel_rfl) (by kernel_rfl) (fun _ _ _ h => h) (Or.inl ⟨by rfl, ?_⟩) hHeld ?_
    · intro v hv
      go_simp
    try simp only [Act.put, List.setIfInBounds_toArray, List.set_cons_zero, List.set_cons_succ]
    refine wpAnyH_done (by kernel_rfl) ?_ _
    obtain ⟨s9', Bl, Bm, ll, lm⟩ := ended (img_len S) s3 l1 lg' lt3 hne kV4 zz4 zz9 s9 o4 at4 o9 at9
    clear o4 gr4 at4 lt4 o9 gr9 at9 lt9 s9 s4 hHeld hS
    have h9 := hA.step s9' (fun _ _ => id)
    go_wp2_with (first
      | (go_at_call 29; refine (load_any h9.d.d Bl (fun z _ e hz' => by injection e with e; subst e; have := hlt _ (.inl hz'); simp at this; omega)).mono ?_; rintro e w4 ⟨rfl, d4, k4⟩)
      | (go_at_call 30; refine (rload_any (h9.mid (k4.mono (fun x hx => .inl (.inl hx)))).1 (Bm.step k4 (fun z e hz' => by injection e with e; subst e; have := hlt _ (.inl hz'); simp at this; omega)) (fun z _ e hz' => by injection e with e; subst e; have := hlt _ (.inr (.inl hz')); simp at this; omega)).mono ?_; rintro e w5 ⟨rfl, r5, k5⟩))
    have D := Bth.loaded h9 (sA.trans s9') _ d4 k4 r5 k5
    go_returns
    exact ⟨rfl, D⟩
end Go.Proofs.Ytdjkdkekcjmokaa
