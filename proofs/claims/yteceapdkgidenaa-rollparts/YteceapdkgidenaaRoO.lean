/-
  What the document's Lay and Now of layer 15 return: no statement is proved here.
-/
import Derived.Test.YteceapdkgidenaaRoL
import Derived.Test.YteceapdkgidenaaRoK2
import Derived.Test.YteceapdkgidenaaRoG
namespace Go.Proofs.Yteceapdkgidenaa
open Go.ChangeShapes Go.WideShapes Go.ChangeAt Go.RowKit
set_option linter.unusedVariables false
set_option linter.unusedSimpArgs false

theorem rrlay_any {w : World} (b : Blk) (p : Pt) (d n : Sv) (t : Nat) (hp : p.wfp) (hd : BsS w d p.data) (ht : t < 4294967296) :
    Calls Try.prog 10 #[.agg b.cs.toArray, .agg (p.cs d n).toArray, .int .u32 (t : Int)] w fun e w' => e = .returned (.tuple #[.agg (lyB b p t).cs.toArray, .int .i64 (lyE p)]) ∧ Below w.heap.size w w' := by
  cases hf : rfit p
  · exact rrlay_no b p d n t hp hd hf
  · by_cases hk : p.kind = 0
    · exact rrlay_raw b p d n t hp hd hf hk
    · exact rrlay_sealed b p d n t hp hd ht hf hk
theorem yields_Pe {ops : Array Oper} {o : Oper} {a : Act} {S : World → Prop} (hw : Region.wanted o (yielded ops a.tmps) = true) (y : Operand) (ho : o.op = .load 27 y) (g i : Nat) (hx : a.eval y = .pointer (some ⟨g, i, none⟩)) (t : Pe) (hS : ∀ w, S w → w.rangeAt g i t.cs) :
    YieldsIf Try.prog ops S o (.agg t.cs.toArray) a := by
  obtain ⟨d, h1, h2⟩ := uPat
  exact yieldsIf_load_mid hw 27 y ho g i hx t.cs _ hS h1 h2 (by rw [szPat]; rfl)
/-- Part way: the bytes, the result's variable, and what is laid so far. -/
structure NwI (w : World) (gb gr gc : Nat) (b x : Blk) (wr : World) : Prop where
  bl : Below w.heap.size w wr
  rb : Row wr gb b.l
  rr : Row wr gr (List.replicate 64 0)
  rc : Row wr gc x.l
theorem NwI.later {w wr v : World} {gb gr gc : Nat} {b x : Blk} (I : NwI w gb gr gc b x wr) (k : Below wr.heap.size wr v) : NwI w gb gr gc b x v :=
  ⟨bnext I.bl k (Nat.le_refl _), I.rb.later k, I.rr.later k, I.rc.later k⟩
theorem NwI.put {w wr v : World} {gb gr gc : Nat} {b x y : Blk} (I : NwI w gb gr gc b x wr) (hc : w.heap.size ≤ gc) (h1 : gb ≠ gc) (h2 : gr ≠ gc) (r : Row v gc y.l) (s : Stp (fun x => x = gc) wr v) : NwI w gb gr gc b y v :=
  ⟨((Stp.of_below I.bl (fun x => w.heap.size ≤ x)).next s (fun x hx => .inl (by subst hx; exact hc))).below (Nat.le_refl _) (fun _ h => h), I.rb.step s h1, I.rr.step s h2, r⟩
set_option maxRecDepth 100000 in
set_option maxHeartbeats 1000000 in
theorem rrnow_any {w : World} {E : Nat → Prop} {s : Sv} {L : List Pe} (H : Ps w E s L) (b : Blk) :
    Calls Try.prog 18 #[.agg b.cs.toArray, .slice s.a s.n s.c] w fun e w' => e = .returned (.tuple #[.agg (nwB b (pts L)).cs.toArray, .int .i64 (nwE (pts L))]) ∧ Below w.heap.size w w' := by
  have hcap : s.n ≤ 9223372036854775807 := by have := H.le; have := H.cap; unfold maxLen at this; omega
  have hlen := H.len
  obtain ⟨sa, sn, sc⟩ := s
  simp only at hcap hlen
  subst hlen
  have hlp : (pts L).length = L.length := by unfold pts; simp
  have hb := b.len
  have HT := rrturn_any b
  have ht := nT_lt b
  have hR := (nwB b (pts L)).len
  have hN : Hid (nwB b (pts L) = if nwE (pts L) = 0 then ovB (nT b) b (pts L) else b) := by
    show _ = _
    by_cases h : nwE (pts L) = 0
    · rw [if_pos h]; unfold nwB; rw [if_pos (nwE_of h)]
    · rw [if_neg h, nwB_else h]
  generalize nwB b (pts L) = R at *
  generalize nT b = t at *
  obtain ⟨eN, hEN⟩ : ∃ x : Int, Hid (nwE (pts L) = x) := ⟨_, rfl⟩
  rw [hEN.out]
  replace hN : Hid (R = if eN = 0 then ovB t b (pts L) else b) := by show _ = _; rw [← hEN.out]; exact hN.out
  have t1 : True := trivial
  have t2 : True := trivial
  have t3 : True := trivial
  go_enter Try.func18, Try.ntmps18
  go_wp2_with (first
    | (refine at_box 23 64 arrB (by rfl) _ (by rfl) b.l (by rfl) hb ?_; intro gb w1 a1 z1 r1 b1)
    | (clear t1; refine at_new 23 64 arrB (by rfl) (by rfl) ?_; intro gr w2 a2 z2 r2 b2)
    | (refine at_get 23 64 arrB (by rfl) _ (by rfl) gb (by rfl) _ (r1.later b2) hb ?_)
    | (clear t2; refine at_new 23 64 arrB (by rfl) (by rfl) ?_; intro gc w3 a3 z3 r3 b3)
    | (clear t3; refine at_put 23 64 arrB (by rfl) _ _ (by rfl) gc (by rfl) b.l (by rfl) hb _ r3 (by simp) ?_; intro w4 r4 s4))
  have hgr : w.heap.size ≤ gr := by have := b1.size; omega
  have hgc : w.heap.size ≤ gc := by have := b1.size; have := b2.size; omega
  have n1 : gb ≠ gc := by have := b2.size; omega
  have n2 : gr ≠ gc := by omega
  have I3 : NwI w gb gr gc b Blk.zero w3 := ⟨bnext (bnext b1 b2 (Nat.le_refl _)) b3 (Nat.le_refl _), (r1.later b2).later b3, r2.later b3, r3⟩
  have I4 : NwI w gb gr gc b b w4 := I3.put hgc n1 n2 r4 s4
  clear r1 r2 r3 r4 s4 b1 b2 b3 a1 z1 a2 z2 a3 z3 I3
  go_loopw [7] (fun v wr => ∃ k : Nat, k ≤ L.length ∧ v = .int .i64 (k : Int) ∧ ((pts L).take k).all rfit = true ∧ NwI w gb gr gc b (ovB t b ((pts L).take k)) wr) (fun v _ => L.length - (intOf v).toNat)
  case atStart => exact ⟨0, Nat.zero_le _, rfl, rfl, I4⟩
  case round =>
    clear I4
    obtain ⟨k, hk, rfl, hok, I⟩ := hrel
    have Hr := H.later (w' := wr) I.bl
    by_cases hkl : k < L.length
    · have a9 : (k : Int) < (L.length : Int) := by omega
      obtain ⟨bb, o, e0, hbE, hcell⟩ := Hr.cell (by simpa using (by omega : 0 < L.length))
      simp only at e0
      subst e0
      obtain ⟨T, hT⟩ : ∃ T, L[k]? = some T := ⟨L[k], List.getElem?_eq_getElem hkl⟩
      have hrg := hcell k T hT
      have hmem := List.mem_of_getElem? hT
      have hwf := H.wf T hmem
      have hPM := Hr.ms T hmem
      have hgp : (pts L)[k]? = some T.p := by unfold pts; rw [List.getElem?_map, hT]; rfl
      have hst : Hid ((pts L).take (k + 1) = (pts L).take k ++ [T.p]) := by show _ = _; rw [List.take_add_one, hgp]; rfl
      have hX := (ovB t b ((pts L).take k)).len
      have HL : ∀ u, BsS u T.d T.p.data → Calls Try.prog 10 #[.agg (ovB t b ((pts L).take k)).cs.toArray, .agg T.cs.toArray, .int .u32 (t : Int)] u _ := fun u h => rrlay_any (ovB t b ((pts L).take k)) T.p T.d T.n t hwf h ht
      have hnx : Hid (ovB t b ((pts L).take (k + 1)) = lyB (ovB t b ((pts L).take k)) T.p t) := by show _ = _; rw [hst.out, ovB_append]; rfl
      have hcase : Hid ((lyE T.p = 0 ∧ ((pts L).take (k + 1)).all rfit = true) ∨ (lyE T.p = 2 ∧ eN = 2)) := by
        show _ ∨ _
        cases hf : rfit T.p
        · refine .inr ⟨by unfold lyE; rw [hf]; rfl, ?_⟩
          rw [← hEN.out]; unfold nwE; rw [if_neg]
          intro ha
          have := List.all_eq_true.1 ha T.p (List.mem_map.2 ⟨T, hmem, rfl⟩)
          rw [hf] at this; cases this
        · refine .inl ⟨by unfold lyE; rw [hf]; rfl, ?_⟩
          rw [hst.out, List.all_append, hok]; simp [hf]
      have hY := (lyB (ovB t b ((pts L).take k)) T.p t).len
      generalize lyB (ovB t b ((pts L).take k)) T.p t = Y at *
      generalize ovB t b ((pts L).take k) = X at *
      generalize lyE T.p = e0 at *
      clear hcell hbE hgp hst
      go_wp2_with fail
      refine wp_region_held_drew (S := fun u => Below wr.heap.size wr u) (by kernel_rfl) (Below.refl _ _).drew (fun hHeld => ?_)
      refine wpAnyH_take (i := 0) (oi := { dst := some 18, op := Op.load 23 (Operand.tmp 6), type := 23, pos := _, after := #[], guard := none }) (v := .agg X.cs.toArray) rfl (by kernel_rfl) (by kernel_rfl) (by kernel_rfl) (fun _ _ _ h => h)
        (yields_row 23 64 arrB (by rfl) (.tmp 6) rfl gc (by rfl) X.l hX (fun u hu => I.rc.later hu)) hHeld ?_
      try simp only [Act.put, List.setIfInBounds_toArray, List.set_cons_zero, List.set_cons_succ]
      refine wpAnyH_take (i := 1) (oi := { dst := some 19, op := Op.move (Operand.tmp 1), type := 39, pos := _, after := #[], guard := none }) (v := .slice (some ⟨bb, o, none⟩) L.length sc) rfl (by kernel_rfl) (by kernel_rfl) (by kernel_rfl) (fun _ _ _ h => h) (Or.inl ⟨by rfl, ?_⟩) hHeld ?_
      · intro u hu
        go_simp
      try simp only [Act.put, List.setIfInBounds_toArray, List.set_cons_zero, List.set_cons_succ]
      refine wpAnyH_take (i := 2) (oi := { dst := some 20, op := Op.move (Operand.tmp 7), type := 3, pos := _, after := #[], guard := none }) (v := .int .i64 (k : Int)) rfl (by kernel_rfl) (by kernel_rfl) (by kernel_rfl) (fun _ _ _ h => h) (Or.inl ⟨by rfl, ?_⟩) hHeld ?_
      · intro u hu
        go_simp
      try simp only [Act.put, List.setIfInBounds_toArray, List.set_cons_zero, List.set_cons_succ]
      refine wpAnyH_take (i := 3) (oi := { dst := some 21, op := Op.indexAddr 39 (Operand.tmp 19) (Operand.tmp 20), type := 0, pos := _, after := #[{ on := 1, ground := Ground.data }, { on := 2, ground := Ground.data }], guard := none }) (v := .pointer (some ⟨bb, o + k * 9, none⟩)) rfl (by kernel_rfl) (by kernel_rfl) (by kernel_rfl) (fun _ _ _ h => h) (Or.inl ⟨by rfl, ?_⟩) hHeld ?_
      · intro u hu
        go_simp
      try simp only [Act.put, List.setIfInBounds_toArray, List.set_cons_zero, List.set_cons_succ]
      refine wpAnyH_take (i := 4) (oi := { dst := some 22, op := Op.load 27 (Operand.tmp 21), type := 27, pos := _, after := #[{ on := 3, ground := Ground.data }], guard := none }) (v := .agg T.cs.toArray) rfl (by kernel_rfl) (by kernel_rfl) (by kernel_rfl) (fun _ _ _ h => h)
        (yields_Pe (by rfl) _ (by rfl) bb (o + k * 9) (by rfl) T (fun u hu => (Stp.of_below hu (fun _ => False)).range hrg id)) hHeld ?_
      try simp only [Act.put, List.setIfInBounds_toArray, List.set_cons_zero, List.set_cons_succ]
      refine wpAnyH_take (i := 5) (oi := { dst := some 23, op := Op.load 23 (Operand.tmp 2), type := 23, pos := _, after := #[], guard := none }) (v := .agg b.cs.toArray) rfl (by kernel_rfl) (by kernel_rfl) (by kernel_rfl) (fun _ _ _ h => h)
        (yields_row 23 64 arrB (by rfl) (.tmp 2) rfl gb (by rfl) b.l hb (fun u hu => I.rb.later hu)) hHeld ?_
      try simp only [Act.put, List.setIfInBounds_toArray, List.set_cons_zero, List.set_cons_succ]
      refine wpAnyH_ready (rs := [6, 11]) (by kernel_rfl) (by simp) ?_
      refine (AllReadyH.cons (o := { dst := some 24, op := Op.call { callee := Callee.value (Operand.func 12), args := #[Operand.tmp 23], argTypes := #[23] }, type := 28, pos := _, after := #[{ on := 5, ground := Ground.data }], guard := none }) rfl (fun K hK => ?_) (AllReadyH.cons (o := { dst := some 8, op := Op.alloc 23, type := 0, pos := _, after := #[], guard := none }) rfl (fun K hK => ?_) AllReadyH.nil))
      · skip
        go_simp
        refine (HT _).mono ?_
        rintro e v6 ⟨rfl, c6⟩
        try go_wp2_with fail
        try (have y8 := y8.later c6)
        refine hK.out _ _ (bnext hHeld c6 (Nat.le_refl _)) (fun hHeld => ?_)
        clear hK K
        try simp only [Act.put, List.setIfInBounds_toArray, List.set_cons_zero, List.set_cons_succ]
        refine wpAnyH_ready (rs := [7, 11]) (by kernel_rfl) (by simp) ?_
        refine (AllReadyH.cons (o := { dst := some 25, op := Op.call { callee := Callee.value (Operand.func 10), args := #[Operand.tmp 18, Operand.tmp 22, Operand.tmp 24], argTypes := #[23, 27, 28] }, type := 31, pos := _, after := #[{ on := 0, ground := Ground.data }, { on := 4, ground := Ground.data }, { on := 6, ground := Ground.data }, { on := 6, ground := Ground.chain }], guard := none }) rfl (fun K hK => ?_) (AllReadyH.cons (o := { dst := some 8, op := Op.alloc 23, type := 0, pos := _, after := #[], guard := none }) rfl (fun K hK => ?_) AllReadyH.nil))
        · skip
          go_simp
          refine (HL _ (hPM.bs.later hHeld)).mono ?_
          rintro e v7 ⟨rfl, c7⟩
          try go_wp2_with fail
          try (have y8 := y8.later c7)
          refine hK.out _ _ (bnext hHeld c7 (Nat.le_refl _)) (fun hHeld => ?_)
          clear hK K
          try simp only [Act.put, List.setIfInBounds_toArray, List.set_cons_zero, List.set_cons_succ]
          refine wpAnyH_take (i := 8) (oi := { dst := some 17, op := Op.move (Operand.tmp 25), type := 31, pos := _, after := #[{ on := 7, ground := Ground.data }], guard := none }) (v := .tuple #[.agg Y.cs.toArray, .int .i64 e0]) rfl (by kernel_rfl) (by kernel_rfl) (by kernel_rfl) (fun _ _ _ h => h) (Or.inl ⟨by rfl, ?_⟩) hHeld ?_
          · intro u hu
            go_simp
          try simp only [Act.put, List.setIfInBounds_toArray, List.set_cons_zero, List.set_cons_succ]
          refine wpAnyH_take (i := 9) (oi := { dst := some 26, op := Op.extract (Operand.tmp 17) 0, type := 23, pos := _, after := #[{ on := 8, ground := Ground.data }], guard := none }) (v := .agg Y.cs.toArray) rfl (by kernel_rfl) (by kernel_rfl) (by kernel_rfl) (fun _ _ _ h => h) (Or.inl ⟨by rfl, ?_⟩) hHeld ?_
          · intro u hu
            go_simp
          try simp only [Act.put, List.setIfInBounds_toArray, List.set_cons_zero, List.set_cons_succ]
          refine wpAnyH_take (i := 10) (oi := { dst := some 27, op := Op.extract (Operand.tmp 17) 1, type := 30, pos := _, after := #[{ on := 8, ground := Ground.data }, { on := 12, ground := Ground.gcOnly Departure.lateStores }], guard := none }) (v := .int .i64 e0) rfl (by kernel_rfl) (by kernel_rfl) (by kernel_rfl) (fun _ _ _ h => h) (Or.inl ⟨by rfl, ?_⟩) hHeld ?_
          · intro u hu
            go_simp
          try simp only [Act.put, List.setIfInBounds_toArray, List.set_cons_zero, List.set_cons_succ]
          refine wpAnyH_ready (rs := [11]) (by kernel_rfl) (by simp) ?_
          refine (AllReadyH.cons (o := { dst := some 8, op := Op.alloc 23, type := 0, pos := _, after := #[], guard := none }) rfl (fun K hK => ?_) AllReadyH.nil)
          refine step_new 23 64 arrB rfl rfl ?_
          intro g8 v8 a8 z8 y8 b8
          have m8 : wr.heap.size ≤ g8 := Nat.le_trans hHeld.size a8
          refine hK.out _ _ (bnext hHeld b8 (Nat.le_refl _)) (fun hHeld => ?_)
          clear hK K
          try simp only [Act.put, List.setIfInBounds_toArray, List.set_cons_zero, List.set_cons_succ]
          refine wpAnyH_ready (rs := [12]) (by kernel_rfl) (by simp) ?_
          refine (AllReadyH.cons (o := { dst := none, op := Op.store 23 (Operand.tmp 8) (Operand.tmp 26), type := 0, pos := _, after := #[{ on := 11, ground := Ground.data }, { on := 9, ground := Ground.data }, { on := 7, ground := Ground.chain }, { on := 0, ground := Ground.phase }, { on := 1, ground := Ground.phase }, { on := 2, ground := Ground.phase }, { on := 3, ground := Ground.phase }, { on := 4, ground := Ground.phase }, { on := 5, ground := Ground.phase }, { on := 6, ground := Ground.phase }, { on := 7, ground := Ground.phase }, { on := 8, ground := Ground.phase }, { on := 9, ground := Ground.phase }, { on := 10, ground := Ground.textOnly Departure.lateStores }, { on := 11, ground := Ground.phase }], guard := none }) rfl (fun K hK => ?_) AllReadyH.nil)
          refine step_put 23 64 arrB rfl (.tmp 8) (.tmp 26) rfl g8 (by rfl) Y.l (by rfl) hY _ y8 (by simp) ?_
          intro v9 y9 s9
          refine hK.out _ _ (((Stp.of_below hHeld (fun x => wr.heap.size ≤ x)).next s9 (fun x hx => .inl (by subst hx; exact m8))).below (Nat.le_refl _) (fun _ h => h)) (fun hHeld => ?_)
          clear hK K
          try simp only [Act.put]
          refine wpAnyH_take (i := 13) (oi := { dst := some 9, op := Op.assign (Operand.tmp 27), type := 30, pos := _, after := #[{ on := 10, ground := Ground.data }, { on := 12, ground := Ground.chain }, { on := 0, ground := Ground.phase }, { on := 1, ground := Ground.phase }, { on := 2, ground := Ground.phase }, { on := 3, ground := Ground.phase }, { on := 4, ground := Ground.phase }, { on := 5, ground := Ground.phase }, { on := 6, ground := Ground.phase }, { on := 7, ground := Ground.phase }, { on := 8, ground := Ground.phase }, { on := 9, ground := Ground.phase }, { on := 10, ground := Ground.phase }, { on := 11, ground := Ground.phase }, { on := 12, ground := Ground.phase }], guard := none }) (v := .int .i64 e0) rfl (by kernel_rfl) (by kernel_rfl) (by kernel_rfl) (fun _ _ _ h => h) (Or.inl ⟨by rfl, ?_⟩) hHeld ?_
          · intro u hu
            go_simp
          try simp only [Act.put, List.setIfInBounds_toArray, List.set_cons_zero, List.set_cons_succ]
          refine wpAnyH_done (by kernel_rfl) ?_ _
          have I9 := I.later hHeld
          clear HT HL hPM hrg I hHeld Hr H
          rcases hcase.out with ⟨rfl, hok2⟩ | ⟨rfl, hN2⟩
          · go_wp2_with (first
              | (refine at_get 23 64 arrB (by rfl) _ (by rfl) g8 (by rfl) Y.l y9 hY ?_)
              | (refine at_put 23 64 arrB (by rfl) _ _ (by rfl) gc (by rfl) Y.l (by rfl) hY _ I9.rc hX ?_; intro w9 r9 s10))
            go_roundw
            case rel => exact ⟨k + 1, by omega, by go_num, hok2, by rw [hnx.out]; exact I9.put hgc n1 n2 r9 s10⟩
            case measure => simp [intOf]; omega
          · have hRb : R = b := by rw [hN.out, hN2]; rfl
            subst hRb
            subst hN2
            clear hN hEN
            go_wp2_with (first
              | (refine at_get 23 64 arrB (by rfl) _ (by rfl) gb (by rfl) R.l I9.rb hR ?_)
              | (refine at_put 23 64 arrB (by rfl) _ _ (by rfl) gr (by rfl) R.l (by rfl) hR _ I9.rr (by simp) ?_; intro w9 r9 s10))
            exact bodyPost_ret (retAt arrB Try.results18 rfl rfl r9 hR) rfl ⟨rfl, ((Stp.of_below I9.bl (fun x => w.heap.size ≤ x)).next s10 (fun x hx => .inl (by subst hx; exact hgr))).below (Nat.le_refl _) (fun _ h => h)⟩
        · skip
          refine step_new 23 64 arrB rfl rfl ?_
          intro g8 v8 a8 z8 y8 b8
          have m8 : wr.heap.size ≤ g8 := Nat.le_trans hHeld.size a8
          refine hK.out _ _ (bnext hHeld b8 (Nat.le_refl _)) (fun hHeld => ?_)
          clear hK K
          try simp only [Act.put, List.setIfInBounds_toArray, List.set_cons_zero, List.set_cons_succ]
          refine wpAnyH_ready (rs := [7]) (by kernel_rfl) (by simp) ?_
          refine (AllReadyH.cons (o := { dst := some 25, op := Op.call { callee := Callee.value (Operand.func 10), args := #[Operand.tmp 18, Operand.tmp 22, Operand.tmp 24], argTypes := #[23, 27, 28] }, type := 31, pos := _, after := #[{ on := 0, ground := Ground.data }, { on := 4, ground := Ground.data }, { on := 6, ground := Ground.data }, { on := 6, ground := Ground.chain }], guard := none }) rfl (fun K hK => ?_) AllReadyH.nil)
          go_simp
          refine (HL _ (hPM.bs.later hHeld)).mono ?_
          rintro e v7 ⟨rfl, c7⟩
          try go_wp2_with fail
          try (have y8 := y8.later c7)
          refine hK.out _ _ (bnext hHeld c7 (Nat.le_refl _)) (fun hHeld => ?_)
          clear hK K
          try simp only [Act.put, List.setIfInBounds_toArray, List.set_cons_zero, List.set_cons_succ]
          refine wpAnyH_take (i := 8) (oi := { dst := some 17, op := Op.move (Operand.tmp 25), type := 31, pos := _, after := #[{ on := 7, ground := Ground.data }], guard := none }) (v := .tuple #[.agg Y.cs.toArray, .int .i64 e0]) rfl (by kernel_rfl) (by kernel_rfl) (by kernel_rfl) (fun _ _ _ h => h) (Or.inl ⟨by rfl, ?_⟩) hHeld ?_
          · intro u hu
            go_simp
          try simp only [Act.put, List.setIfInBounds_toArray, List.set_cons_zero, List.set_cons_succ]
          refine wpAnyH_take (i := 9) (oi := { dst := some 26, op := Op.extract (Operand.tmp 17) 0, type := 23, pos := _, after := #[{ on := 8, ground := Ground.data }], guard := none }) (v := .agg Y.cs.toArray) rfl (by kernel_rfl) (by kernel_rfl) (by kernel_rfl) (fun _ _ _ h => h) (Or.inl ⟨by rfl, ?_⟩) hHeld ?_
          · intro u hu
            go_simp
          try simp only [Act.put, List.setIfInBounds_toArray, List.set_cons_zero, List.set_cons_succ]
          refine wpAnyH_take (i := 10) (oi := { dst := some 27, op := Op.extract (Operand.tmp 17) 1, type := 30, pos := _, after := #[{ on := 8, ground := Ground.data }, { on := 12, ground := Ground.gcOnly Departure.lateStores }], guard := none }) (v := .int .i64 e0) rfl (by kernel_rfl) (by kernel_rfl) (by kernel_rfl) (fun _ _ _ h => h) (Or.inl ⟨by rfl, ?_⟩) hHeld ?_
          · intro u hu
            go_simp
          try simp only [Act.put, List.setIfInBounds_toArray, List.set_cons_zero, List.set_cons_succ]
          refine wpAnyH_ready (rs := [12]) (by kernel_rfl) (by simp) ?_
          refine (AllReadyH.cons (o := { dst := none, op := Op.store 23 (Operand.tmp 8) (Operand.tmp 26), type := 0, pos := _, after := #[{ on := 11, ground := Ground.data }, { on := 9, ground := Ground.data }, { on := 7, ground := Ground.chain }, { on := 0, ground := Ground.phase }, { on := 1, ground := Ground.phase }, { on := 2, ground := Ground.phase }, { on := 3, ground := Ground.phase }, { on := 4, ground := Ground.phase }, { on := 5, ground := Ground.phase }, { on := 6, ground := Ground.phase }, { on := 7, ground := Ground.phase }, { on := 8, ground := Ground.phase }, { on := 9, ground := Ground.phase }, { on := 10, ground := Ground.textOnly Departure.lateStores }, { on := 11, ground := Ground.phase }], guard := none }) rfl (fun K hK => ?_) AllReadyH.nil)
          refine step_put 23 64 arrB rfl (.tmp 8) (.tmp 26) rfl g8 (by rfl) Y.l (by rfl) hY _ y8 (by simp) ?_
          intro v9 y9 s9
          refine hK.out _ _ (((Stp.of_below hHeld (fun x => wr.heap.size ≤ x)).next s9 (fun x hx => .inl (by subst hx; exact m8))).below (Nat.le_refl _) (fun _ h => h)) (fun hHeld => ?_)
          clear hK K
          try simp only [Act.put]
          refine wpAnyH_take (i := 13) (oi := { dst := some 9, op := Op.assign (Operand.tmp 27), type := 30, pos := _, after := #[{ on := 10, ground := Ground.data }, { on := 12, ground := Ground.chain }, { on := 0, ground := Ground.phase }, { on := 1, ground := Ground.phase }, { on := 2, ground := Ground.phase }, { on := 3, ground := Ground.phase }, { on := 4, ground := Ground.phase }, { on := 5, ground := Ground.phase }, { on := 6, ground := Ground.phase }, { on := 7, ground := Ground.phase }, { on := 8, ground := Ground.phase }, { on := 9, ground := Ground.phase }, { on := 10, ground := Ground.phase }, { on := 11, ground := Ground.phase }, { on := 12, ground := Ground.phase }], guard := none }) (v := .int .i64 e0) rfl (by kernel_rfl) (by kernel_rfl) (by kernel_rfl) (fun _ _ _ h => h) (Or.inl ⟨by rfl, ?_⟩) hHeld ?_
          · intro u hu
            go_simp
          try simp only [Act.put, List.setIfInBounds_toArray, List.set_cons_zero, List.set_cons_succ]
          refine wpAnyH_done (by kernel_rfl) ?_ _
          have I9 := I.later hHeld
          clear HT HL hPM hrg I hHeld Hr H
          rcases hcase.out with ⟨rfl, hok2⟩ | ⟨rfl, hN2⟩
          · go_wp2_with (first
              | (refine at_get 23 64 arrB (by rfl) _ (by rfl) g8 (by rfl) Y.l y9 hY ?_)
              | (refine at_put 23 64 arrB (by rfl) _ _ (by rfl) gc (by rfl) Y.l (by rfl) hY _ I9.rc hX ?_; intro w9 r9 s10))
            go_roundw
            case rel => exact ⟨k + 1, by omega, by go_num, hok2, by rw [hnx.out]; exact I9.put hgc n1 n2 r9 s10⟩
            case measure => simp [intOf]; omega
          · have hRb : R = b := by rw [hN.out, hN2]; rfl
            subst hRb
            subst hN2
            clear hN hEN
            go_wp2_with (first
              | (refine at_get 23 64 arrB (by rfl) _ (by rfl) gb (by rfl) R.l I9.rb hR ?_)
              | (refine at_put 23 64 arrB (by rfl) _ _ (by rfl) gr (by rfl) R.l (by rfl) hR _ I9.rr (by simp) ?_; intro w9 r9 s10))
            exact bodyPost_ret (retAt arrB Try.results18 rfl rfl r9 hR) rfl ⟨rfl, ((Stp.of_below I9.bl (fun x => w.heap.size ≤ x)).next s10 (fun x hx => .inl (by subst hx; exact hgr))).below (Nat.le_refl _) (fun _ h => h)⟩
      · skip
        refine step_new 23 64 arrB rfl rfl ?_
        intro g8 v8 a8 z8 y8 b8
        have m8 : wr.heap.size ≤ g8 := Nat.le_trans hHeld.size a8
        refine hK.out _ _ (bnext hHeld b8 (Nat.le_refl _)) (fun hHeld => ?_)
        clear hK K
        try simp only [Act.put, List.setIfInBounds_toArray, List.set_cons_zero, List.set_cons_succ]
        refine wpAnyH_ready (rs := [6]) (by kernel_rfl) (by simp) ?_
        refine (AllReadyH.cons (o := { dst := some 24, op := Op.call { callee := Callee.value (Operand.func 12), args := #[Operand.tmp 23], argTypes := #[23] }, type := 28, pos := _, after := #[{ on := 5, ground := Ground.data }], guard := none }) rfl (fun K hK => ?_) AllReadyH.nil)
        go_simp
        refine (HT _).mono ?_
        rintro e v6 ⟨rfl, c6⟩
        try go_wp2_with fail
        try (have y8 := y8.later c6)
        refine hK.out _ _ (bnext hHeld c6 (Nat.le_refl _)) (fun hHeld => ?_)
        clear hK K
        try simp only [Act.put, List.setIfInBounds_toArray, List.set_cons_zero, List.set_cons_succ]
        refine wpAnyH_ready (rs := [7]) (by kernel_rfl) (by simp) ?_
        refine (AllReadyH.cons (o := { dst := some 25, op := Op.call { callee := Callee.value (Operand.func 10), args := #[Operand.tmp 18, Operand.tmp 22, Operand.tmp 24], argTypes := #[23, 27, 28] }, type := 31, pos := _, after := #[{ on := 0, ground := Ground.data }, { on := 4, ground := Ground.data }, { on := 6, ground := Ground.data }, { on := 6, ground := Ground.chain }], guard := none }) rfl (fun K hK => ?_) AllReadyH.nil)
        go_simp
        refine (HL _ (hPM.bs.later hHeld)).mono ?_
        rintro e v7 ⟨rfl, c7⟩
        try go_wp2_with fail
        try (have y8 := y8.later c7)
        refine hK.out _ _ (bnext hHeld c7 (Nat.le_refl _)) (fun hHeld => ?_)
        clear hK K
        try simp only [Act.put, List.setIfInBounds_toArray, List.set_cons_zero, List.set_cons_succ]
        refine wpAnyH_take (i := 8) (oi := { dst := some 17, op := Op.move (Operand.tmp 25), type := 31, pos := _, after := #[{ on := 7, ground := Ground.data }], guard := none }) (v := .tuple #[.agg Y.cs.toArray, .int .i64 e0]) rfl (by kernel_rfl) (by kernel_rfl) (by kernel_rfl) (fun _ _ _ h => h) (Or.inl ⟨by rfl, ?_⟩) hHeld ?_
        · intro u hu
          go_simp
        try simp only [Act.put, List.setIfInBounds_toArray, List.set_cons_zero, List.set_cons_succ]
        refine wpAnyH_take (i := 9) (oi := { dst := some 26, op := Op.extract (Operand.tmp 17) 0, type := 23, pos := _, after := #[{ on := 8, ground := Ground.data }], guard := none }) (v := .agg Y.cs.toArray) rfl (by kernel_rfl) (by kernel_rfl) (by kernel_rfl) (fun _ _ _ h => h) (Or.inl ⟨by rfl, ?_⟩) hHeld ?_
        · intro u hu
          go_simp
        try simp only [Act.put, List.setIfInBounds_toArray, List.set_cons_zero, List.set_cons_succ]
        refine wpAnyH_take (i := 10) (oi := { dst := some 27, op := Op.extract (Operand.tmp 17) 1, type := 30, pos := _, after := #[{ on := 8, ground := Ground.data }, { on := 12, ground := Ground.gcOnly Departure.lateStores }], guard := none }) (v := .int .i64 e0) rfl (by kernel_rfl) (by kernel_rfl) (by kernel_rfl) (fun _ _ _ h => h) (Or.inl ⟨by rfl, ?_⟩) hHeld ?_
        · intro u hu
          go_simp
        try simp only [Act.put, List.setIfInBounds_toArray, List.set_cons_zero, List.set_cons_succ]
        refine wpAnyH_ready (rs := [12]) (by kernel_rfl) (by simp) ?_
        refine (AllReadyH.cons (o := { dst := none, op := Op.store 23 (Operand.tmp 8) (Operand.tmp 26), type := 0, pos := _, after := #[{ on := 11, ground := Ground.data }, { on := 9, ground := Ground.data }, { on := 7, ground := Ground.chain }, { on := 0, ground := Ground.phase }, { on := 1, ground := Ground.phase }, { on := 2, ground := Ground.phase }, { on := 3, ground := Ground.phase }, { on := 4, ground := Ground.phase }, { on := 5, ground := Ground.phase }, { on := 6, ground := Ground.phase }, { on := 7, ground := Ground.phase }, { on := 8, ground := Ground.phase }, { on := 9, ground := Ground.phase }, { on := 10, ground := Ground.textOnly Departure.lateStores }, { on := 11, ground := Ground.phase }], guard := none }) rfl (fun K hK => ?_) AllReadyH.nil)
        refine step_put 23 64 arrB rfl (.tmp 8) (.tmp 26) rfl g8 (by rfl) Y.l (by rfl) hY _ y8 (by simp) ?_
        intro v9 y9 s9
        refine hK.out _ _ (((Stp.of_below hHeld (fun x => wr.heap.size ≤ x)).next s9 (fun x hx => .inl (by subst hx; exact m8))).below (Nat.le_refl _) (fun _ h => h)) (fun hHeld => ?_)
        clear hK K
        try simp only [Act.put]
        refine wpAnyH_take (i := 13) (oi := { dst := some 9, op := Op.assign (Operand.tmp 27), type := 30, pos := _, after := #[{ on := 10, ground := Ground.data }, { on := 12, ground := Ground.chain }, { on := 0, ground := Ground.phase }, { on := 1, ground := Ground.phase }, { on := 2, ground := Ground.phase }, { on := 3, ground := Ground.phase }, { on := 4, ground := Ground.phase }, { on := 5, ground := Ground.phase }, { on := 6, ground := Ground.phase }, { on := 7, ground := Ground.phase }, { on := 8, ground := Ground.phase }, { on := 9, ground := Ground.phase }, { on := 10, ground := Ground.phase }, { on := 11, ground := Ground.phase }, { on := 12, ground := Ground.phase }], guard := none }) (v := .int .i64 e0) rfl (by kernel_rfl) (by kernel_rfl) (by kernel_rfl) (fun _ _ _ h => h) (Or.inl ⟨by rfl, ?_⟩) hHeld ?_
        · intro u hu
          go_simp
        try simp only [Act.put, List.setIfInBounds_toArray, List.set_cons_zero, List.set_cons_succ]
        refine wpAnyH_done (by kernel_rfl) ?_ _
        have I9 := I.later hHeld
        clear HT HL hPM hrg I hHeld Hr H
        rcases hcase.out with ⟨rfl, hok2⟩ | ⟨rfl, hN2⟩
        · go_wp2_with (first
            | (refine at_get 23 64 arrB (by rfl) _ (by rfl) g8 (by rfl) Y.l y9 hY ?_)
            | (refine at_put 23 64 arrB (by rfl) _ _ (by rfl) gc (by rfl) Y.l (by rfl) hY _ I9.rc hX ?_; intro w9 r9 s10))
          go_roundw
          case rel => exact ⟨k + 1, by omega, by go_num, hok2, by rw [hnx.out]; exact I9.put hgc n1 n2 r9 s10⟩
          case measure => simp [intOf]; omega
        · have hRb : R = b := by rw [hN.out, hN2]; rfl
          subst hRb
          subst hN2
          clear hN hEN
          go_wp2_with (first
            | (refine at_get 23 64 arrB (by rfl) _ (by rfl) gb (by rfl) R.l I9.rb hR ?_)
            | (refine at_put 23 64 arrB (by rfl) _ _ (by rfl) gr (by rfl) R.l (by rfl) hR _ I9.rr (by simp) ?_; intro w9 r9 s10))
          exact bodyPost_ret (retAt arrB Try.results18 rfl rfl r9 hR) rfl ⟨rfl, ((Stp.of_below I9.bl (fun x => w.heap.size ≤ x)).next s10 (fun x hx => .inl (by subst hx; exact hgr))).below (Nat.le_refl _) (fun _ h => h)⟩
    · have a9 : ¬ (k : Int) < (L.length : Int) := by omega
      have e1 : (pts L).take k = pts L := List.take_of_length_le (by omega)
      rw [e1] at hok I
      have hN0 : eN = 0 := by rw [← hEN.out]; unfold nwE; rw [if_pos hok]
      have hRO : R = ovB t b (pts L) := by rw [hN.out, hN0]; rfl
      rw [← hRO] at I
      subst hN0
      clear hN hEN hRO Hr H HT
      go_wp2_with (first
        | (refine at_get 23 64 arrB (by rfl) _ (by rfl) gc (by rfl) R.l I.rc hR ?_)
        | (refine at_put 23 64 arrB (by rfl) _ _ (by rfl) gr (by rfl) R.l (by rfl) hR _ I.rr (by simp) ?_; intro w9 r9 s10))
      exact bodyPost_ret (retAt arrB Try.results18 rfl rfl r9 hR) rfl ⟨rfl, ((Stp.of_below I.bl (fun x => w.heap.size ≤ x)).next s10 (fun x hx => .inl (by subst hx; exact hgr))).below (Nat.le_refl _) (fun _ h => h)⟩
end Go.Proofs.Yteceapdkgidenaa
