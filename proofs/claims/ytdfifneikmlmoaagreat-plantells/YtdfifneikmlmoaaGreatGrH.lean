/-
  What ahead of layer 14 does: no statement is proved here.
-/
import Derived.Test.YtdfifneikmlmoaaGreatGrG
namespace Go.Proofs.YtdfifneikmlmoaaGreat
open Go.ChangeShapes Go.WideShapes Go.ChangeAt Go.RowKit
set_option linter.unusedVariables false
set_option linter.unusedSimpArgs false

section
variable {ops : Array Oper} {o : Oper} {a : Act} {S : World → Prop}
theorem yields_M' (T E : Nat) (hT : Tryz.prog.underlying T = some (.map 3 E)) (z : Value) (hz : ∀ w, (zeroValue E).run Tryz.prog w = .ok z w) (hw : Region.wanted o (yielded ops a.tmps) = true) (m x : Operand) (ho : o.op = .lookup T m x false) (b : Nat) (f : Int → Option Value) (hm : a.eval m = .map (some b)) (k : Int) (hx : a.eval x = .int .i64 k) (hk : (Lit.int .i64 k).wf = true) (hS : ∀ w, S w → MpI Tryz.prog 3 w b f) (v : Value) (hv : (f k).getD z = v) :
    YieldsIf Tryz.prog ops S o v a := by
  subst hv; exact yields_M T E hT z hz hw m x ho b f hm k hx hk hS
end
theorem wtP_mem {l : List Pt} {s : Int} {p : Pt} : p ∈ wtP l s ↔ p ∈ l ∧ p.at' = s ∧ p.wr = false := by
  unfold wtP inS; simp [List.mem_filter]
theorem wts_len (l : List Pt) (s : Int) : (wts l s).length = (wtP l s).length := by unfold wts ids; simp
theorem wts_get {l : List Pt} {s : Int} {k : Nat} (hk : k < (wtP l s).length) : (wts l s).getD k 0 = ((wtP l s)[k]).id := by
  unfold wts ids; rw [List.getD_eq_getElem?_getD, List.getElem?_map, List.getElem?_eq_getElem hk]; rfl
theorem GZ.ok.gt_of {Z : GZ} {t : Int} (h : Z.ok t) {p : Pt} (hp : p ∈ Z.l) : gt Z.l p.id = p := by unfold gt; rw [fnd_of h.srt hp]; rfl
/-- Those of the sector ahead of a number. -/
def ahd (l : List Pt) (p : Pt) : List Pt := (wtP l p.at').filter fun q => decide (q.id < p.id)
theorem ahd_cut {l : List Pt} {p : Pt} (hs : l.Pairwise fun a b => a.id < b.id) (k : Nat) (hk : k ≤ (wtP l p.at').length) (h1 : ∀ q ∈ (wtP l p.at').take k, q.id < p.id) (h2 : ∀ h : k < (wtP l p.at').length, p.id ≤ ((wtP l p.at')[k]).id) : ahd l p = (wtP l p.at').take k := by
  unfold ahd
  have hW : (wtP l p.at').Pairwise fun a b => a.id < b.id := hs.filter _
  generalize wtP l p.at' = W at *
  have := List.take_append_drop k W
  conv => lhs; rw [← this]
  rw [List.filter_append, List.filter_eq_self.2 (fun q hq => by simpa using h1 q hq)]
  have : (W.drop k).filter (fun q => decide (q.id < p.id)) = [] := by
    refine List.filter_eq_nil_iff.2 fun q hq => ?_
    simp only [decide_eq_true_eq, Int.not_lt]
    by_cases hlt : k < W.length
    · rw [List.drop_eq_getElem_cons hlt] at hq
      have h3 := h2 hlt
      rcases List.mem_cons.1 hq with rfl | hq
      · exact h3
      · have hp2 : (W.drop k).Pairwise fun a b => a.id < b.id := hW.sublist (List.drop_sublist k W)
        rw [List.drop_eq_getElem_cons hlt, List.pairwise_cons] at hp2
        have := hp2.1 q hq
        omega
    · rw [List.drop_eq_nil_of_le (by omega)] at hq; cases hq
  rw [this, List.append_nil]
theorem bhd_is {l : List Pt} (p : Pt) (hp : fit p = true) (hf : ∀ q ∈ l, fit q = true) : mtS (shB (ahd l p)) (shK (ahd l p)) p = bhd l p := by
  rw [mtS_is p hp _ (fun q hq => by
    unfold ahd at hq
    have h1 := wtP_mem.1 (List.mem_filter.1 hq).1
    exact ⟨hf q h1.1, h1.2.1⟩)]
  unfold ahd bhd wtP
  rw [List.filter_filter, List.any_filter]
  congr 1
  funext q
  unfold inS meet
  by_cases e : q.at' = p.at'
  · cases q.wr <;> simp [e]
  · have e' : (q.at' == p.at') = false := by simpa using e
    cases q.wr <;> simp [e']
set_option maxRecDepth 100000 in
set_option maxHeartbeats 2000000 in
theorem ahead_any {w : World} {g mp mw : Nat} {f fw : Int → Option Value} {Z : GZ} {E F : Nat → Prop} (H : Gr w g mp mw f fw Z E F) (p : Pt) (d n : Sv) (hs : wfi p.at') :
    Calls Tryz.prog 74 #[.pointer (some ⟨g, 0, none⟩), .agg (p.cs d n).toArray] w fun e w' => e = .returned (.agg (shC (shB (ahd Z.l p)) (shK (ahd Z.l p))).toArray) ∧ Below w.heap.size w w' := by
  have tok : True := trivial
  have tok2 : True := trivial
  have tok3 : True := trivial
  go_enter Tryz.func74, Tryz.ntmps74
  go_wp2_with (first
    | (clear tok; refine at_boxP (by rfl) _ (by rfl) p d n (by rfl) ?_; intro g1 w1 a1 a2 r1 b1)
    | (clear tok2; refine at_newC 96 2 _ srtS (by rfl) (by rfl) ?_; intro g2 w2 a3 a4 r2 b2)
    | (clear tok3; refine at_newC 96 2 _ srtS (by rfl) (by rfl) ?_; intro g3 w3 a5 a6 r3 b3))
  replace r1 := (r1.later b2).later b3
  replace r2 := r2.later b3
  have b9 : Below w.heap.size w w3 := bnext (bnext b1 b2 (Nat.le_refl _)) b3 (Nat.le_refl _)
  have H3 := H.later b9
  obtain ⟨⟨va, vn, vc⟩, e1, ov, iv, hob⟩ := H3.wait p.at'
  have hvn : (wtP Z.l p.at').length = vn := by rw [← wts_len]; exact iv.i.len
  simp only at e1
  refine wp_region_held_drew (S := fun u => Below w3.heap.size w3 u) (by kernel_rfl) (Below.refl _ _).drew (fun hHeld => ?_)
  refine wpAnyH_take (i := 0) (oi := { dst := some 8, op := Op.move (Operand.tmp 0), type := 24, pos := _, after := #[], guard := none }) (v := .pointer (some ⟨g, 0, none⟩)) rfl (by kernel_rfl) (by kernel_rfl) (by kernel_rfl) (fun _ _ _ h => h) (Or.inl ⟨by rfl, ?_⟩) hHeld ?_
  · intro u hu
    go_simp
  try simp only [Act.put, List.setIfInBounds_toArray, List.set_cons_zero, List.set_cons_succ]
  refine wpAnyH_take (i := 1) (oi := { dst := some 9, op := Op.nilCheck (Operand.tmp 8), type := 0, pos := _, after := #[{ on := 0, ground := Ground.data }], guard := none }) (v := .pointer (some ⟨g, 0, none⟩)) rfl (by kernel_rfl) (by kernel_rfl) (by kernel_rfl) (fun _ _ _ h => h) (Or.inl ⟨by rfl, ?_⟩) hHeld ?_
  · intro u hu
    go_simp
  try simp only [Act.put, List.setIfInBounds_toArray, List.set_cons_zero, List.set_cons_succ]
  refine wpAnyH_take (i := 2) (oi := { dst := some 10, op := Op.fieldAddr 77 (Operand.tmp 9) 2, type := 0, pos := _, after := #[{ on := 1, ground := Ground.data }], guard := none }) (v := .pointer (some ⟨g, 2, none⟩)) rfl (by kernel_rfl) (by kernel_rfl) (by kernel_rfl) (fun _ _ _ h => h) (Or.inl ⟨by rfl, ?_⟩) hHeld ?_
  · intro u hu
    go_simp
  try simp only [Act.put, List.setIfInBounds_toArray, List.set_cons_zero, List.set_cons_succ]
  refine wpAnyH_take (i := 3) (oi := { dst := some 11, op := Op.load 75 (Operand.tmp 10), type := 75, pos := _, after := #[{ on := 2, ground := Ground.data }], guard := none }) (v := .map (some mw)) rfl (by kernel_rfl) (by kernel_rfl) (by kernel_rfl) (fun _ _ _ h => h) (Or.inl ⟨by rfl, ?_⟩) hHeld ?_
  · intro u hu
    have x1 := (H3.later hu).cells.2.2; go_simp
  try simp only [Act.put, List.setIfInBounds_toArray, List.set_cons_zero, List.set_cons_succ]
  refine wpAnyH_take (i := 4) (oi := { dst := some 12, op := Op.fieldAddr 54 (Operand.tmp 3) 1, type := 0, pos := _, after := #[], guard := none }) (v := .pointer (some ⟨g1, 1, none⟩)) rfl (by kernel_rfl) (by kernel_rfl) (by kernel_rfl) (fun _ _ _ h => h) (Or.inl ⟨by rfl, ?_⟩) hHeld ?_
  · intro u hu
    go_simp
  try simp only [Act.put, List.setIfInBounds_toArray, List.set_cons_zero, List.set_cons_succ]
  refine wpAnyH_take (i := 5) (oi := { dst := some 13, op := Op.load 3 (Operand.tmp 12), type := 3, pos := _, after := #[{ on := 4, ground := Ground.data }], guard := none }) (v := .int .i64 p.at') rfl (by kernel_rfl) (by kernel_rfl) (by kernel_rfl) (fun _ _ _ h => h) (Or.inl ⟨by rfl, ?_⟩) hHeld ?_
  · intro u hu
    have x1 := (Pt.cells (r1.later hu)).2.1; go_simp
  try simp only [Act.put, List.setIfInBounds_toArray, List.set_cons_zero, List.set_cons_succ]
  refine wpAnyH_take (i := 6) (oi := { dst := some 14, op := Op.lookup 75 (Operand.tmp 11) (Operand.tmp 13) false, type := 23, pos := _, after := #[{ on := 3, ground := Ground.data }, { on := 5, ground := Ground.data }], guard := none }) (v := .slice va vn vc) rfl (by kernel_rfl) (by kernel_rfl) (by kernel_rfl) (fun _ _ _ h => h)
    (yields_M' 75 23 uWm _ zI (by rfl) _ _ (by rfl) mw fw (by rfl) p.at' (by rfl) hs (fun u hu => (H3.later hu).wm) _ e1) hHeld ?_
  try simp only [Act.put, List.setIfInBounds_toArray, List.set_cons_zero, List.set_cons_succ]
  refine wpAnyH_take (i := 7) (oi := { dst := some 15, op := Op.call { callee := Callee.builtin Builtin.len, args := #[Operand.tmp 14], argTypes := #[23] }, type := 3, pos := _, after := #[{ on := 6, ground := Ground.data }], guard := none }) (v := .int .i64 (vn : Int)) rfl (by kernel_rfl) (by kernel_rfl) (by kernel_rfl) (fun _ _ _ h => h) (Or.inl ⟨by rfl, ?_⟩) hHeld ?_
  · intro u hu
    go_simp
  try simp only [Act.put, List.setIfInBounds_toArray, List.set_cons_zero, List.set_cons_succ]
  refine wpAnyH_take (i := 8) (oi := { dst := some 16, op := Op.move (Operand.const (Value.int IntKind.i64 0)), type := 3, pos := _, after := #[], guard := none }) (v := .int .i64 0) rfl (by kernel_rfl) (by kernel_rfl) (by kernel_rfl) (fun _ _ _ h => h) (Or.inl ⟨by rfl, ?_⟩) hHeld ?_
  · intro u hu
    go_simp
  try simp only [Act.put, List.setIfInBounds_toArray, List.set_cons_zero, List.set_cons_succ]
  refine wpAnyH_done (by kernel_rfl) ?_ _
  go_wp2_with fail
  subst hvn
  have b8 : Below w.heap.size w w3.drew := b9.drew
  have st0 : Stp (fun x => x = g3) w3 w3.drew := (Stp.refl _ w3).drew
  have r30 := r3.step (Stp.refl (fun _ => False) w3).drew id
  have hg3 : ∀ x, x < w.heap.size → x ≠ g3 := fun x hx e => by have := b1.size; have := b2.size; omega
  clear hHeld e1 ov
  have hfew := H.ok.fewW p.at'
  go_loopw [16] (fun x wr => ∃ k : Nat, k ≤ (wtP Z.l p.at').length ∧ x = .int .i64 (k : Int) ∧ Stp (fun x => x = g3) w3 wr ∧ Cs wr g3 (shC (shB ((wtP Z.l p.at').take k)) (shK ((wtP Z.l p.at').take k))) ∧ ∀ q ∈ (wtP Z.l p.at').take k, q.id < p.id) (fun v _ => (wtP Z.l p.at').length - (intOf v).toNat)
  case atStart => exact ⟨0, Nat.zero_le _, rfl, st0, r30, fun q hq => by cases hq⟩
  case round =>
    obtain ⟨k, hk, rfl, st, rs, hlt⟩ := hrel
    have H4 := H3.step st (fun x hx => hg3 x (H.lt x hx)) (fun x hx => hg3 x (H.el x hx))
    have r14 := r1.step st (by omega)
    have r24 := r2.step st (by omega)
    by_cases hkl : k < (wtP Z.l p.at').length
    · have iv4 : Ins wr va (wtP Z.l p.at').length vc (wts Z.l p.at') := iv.i.step st (fun x hn e => hg3 _ (H.lt _ (hob x.block (by simp only at e; rw [e]; rfl)).1))
      obtain ⟨b, o, e, hcs⟩ := iv4.cell (by omega)
      have ck := hcs k hkl
      rw [wts_get hkl] at ck
      have hq := wtP_mem.1 (List.getElem_mem hkl)
      have hcut := ahd_cut (p := p) H.ok.srt k hk hlt
      have htk : (wtP Z.l p.at').take (k + 1) = (wtP Z.l p.at').take k ++ [(wtP Z.l p.at')[k]] := by
        rw [List.take_add_one, List.getElem?_eq_getElem hkl]; rfl
      obtain ⟨d4, n4, e4, m4, _⟩ := H4.look ((wtP Z.l p.at')[k]).id
      rw [H.ok.gt_of hq.1] at e4 m4
      have hfq := H.ok.ft _ hq.1
      have hwq := (H.ok.wfp hq.1).i
      have hsh := sh_lt ((wtP Z.l p.at').take k) (fun q hq => H.ok.ft q (wtP_mem.1 (List.mem_of_mem_take hq)).1)
      have hx1 : oB (shB ((wtP Z.l p.at').take k)) ((wtP Z.l p.at')[k]) = shB ((wtP Z.l p.at').take (k + 1)) := by rw [htk, shB_snoc]; rfl
      have hx2 : oK (shK ((wtP Z.l p.at').take k)) ((wtP Z.l p.at')[k]) = shK ((wtP Z.l p.at').take (k + 1)) := by rw [htk, shK_snoc]; rfl
      have hlt1 : ((wtP Z.l p.at')[k]).id < p.id → ∀ q ∈ (wtP Z.l p.at').take (k + 1), q.id < p.id := fun h q hq => by
        rw [htk] at hq
        rcases List.mem_append.1 hq with h1 | h1
        · exact hlt q h1
        · rw [List.mem_singleton.1 h1]; exact h
      replace hcut : Hid (p.id ≤ ((wtP Z.l p.at')[k]).id → ahd Z.l p = (wtP Z.l p.at').take k) := fun h => hcut (fun _ => h)
      generalize (wtP Z.l p.at')[k] = q at *
      subst e
      have a9 : (k : Int) < ((wtP Z.l p.at').length : Int) := by omega
      obtain ⟨_, _, _, _, _, _, _, _, _⟩ := Pt.cells r14
      clear hcs iv4 htk
      by_cases hc : p.id ≤ q.id
      · rw [← hcut.out hc] at rs
        clear hlt hsh
        go_wp2_with (first
          | (refine at_getC 96 2 _ srtS (by rfl) _ (by rfl) g3 (by rfl) _ rs rfl ?_)
          | (refine at_putC 96 2 _ srtS (by rfl) _ _ (by rfl) g2 (by rfl) _ (by rfl) rfl (shC_one _ _) _ r24 rfl ?_; intro w6 r6 s6))
        refine bodyPost_ret (retC srtS rfl rfl r6 rfl) rfl ⟨rfl, ?_⟩
        exact (((Stp.of_below b9 (fun _ => False)).next st (fun x e => .inr (by have := b1.size; have := b2.size; omega))).next s6 (fun x e => .inr (by have := b1.size; omega))).below (Nat.le_refl _) (fun x e => e.elim)
      · have hc' : q.id < p.id := by omega
        have hlt2 := hlt1 hc'
        have hW := with_any (shB ((wtP Z.l p.at').take k)) (shK ((wtP Z.l p.at').take k)) q d4 n4
        clear hcut hlt hlt1
        go_wp2_with fail
        refine wp_region_last (S := fun u => Below wr.heap.size wr u) _ _ (by simp only [List.pop_toArray, List.dropLast_cons_cons, List.dropLast_singleton]; rfl) (by simp only [List.back?_toArray, List.getLast?_cons_cons, List.getLast?_singleton]; rfl) (by kernel_rfl) (by kernel_rfl) (Below.refl _ _).drew (fun hHeld => ?_)
        refine wpAnyH_take (i := 0) (oi := { dst := some 24, op := Op.load 96 (Operand.tmp 5), type := 96, pos := _, after := #[], guard := none }) (v := .agg (shC (shB ((wtP Z.l p.at').take k)) (shK ((wtP Z.l p.at').take k))).toArray) rfl (by kernel_rfl) (by kernel_rfl) (by kernel_rfl) (fun _ _ _ h => h)
          (yields_C 96 2 _ srtS (by rfl) _ (by rfl) g3 (by rfl) _ rfl (fun u hu => rs.later hu)) hHeld ?_
        try simp only [Act.put, List.setIfInBounds_toArray, List.set_cons_zero, List.set_cons_succ]
        refine wpAnyH_take (i := 1) (oi := { dst := some 25, op := Op.move (Operand.tmp 0), type := 24, pos := _, after := #[], guard := none }) (v := .pointer (some ⟨g, 0, none⟩)) rfl (by kernel_rfl) (by kernel_rfl) (by kernel_rfl) (fun _ _ _ h => h) (Or.inl ⟨by rfl, ?_⟩) hHeld ?_
        · intro u hu
          go_simp
        try simp only [Act.put, List.setIfInBounds_toArray, List.set_cons_zero, List.set_cons_succ]
        refine wpAnyH_take (i := 2) (oi := { dst := some 26, op := Op.nilCheck (Operand.tmp 25), type := 0, pos := _, after := #[{ on := 1, ground := Ground.data }], guard := none }) (v := .pointer (some ⟨g, 0, none⟩)) rfl (by kernel_rfl) (by kernel_rfl) (by kernel_rfl) (fun _ _ _ h => h) (Or.inl ⟨by rfl, ?_⟩) hHeld ?_
        · intro u hu
          go_simp
        try simp only [Act.put, List.setIfInBounds_toArray, List.set_cons_zero, List.set_cons_succ]
        refine wpAnyH_take (i := 3) (oi := { dst := some 27, op := Op.fieldAddr 77 (Operand.tmp 26) 1, type := 0, pos := _, after := #[{ on := 2, ground := Ground.data }], guard := none }) (v := .pointer (some ⟨g, 1, none⟩)) rfl (by kernel_rfl) (by kernel_rfl) (by kernel_rfl) (fun _ _ _ h => h) (Or.inl ⟨by rfl, ?_⟩) hHeld ?_
        · intro u hu
          go_simp
        try simp only [Act.put, List.setIfInBounds_toArray, List.set_cons_zero, List.set_cons_succ]
        refine wpAnyH_take (i := 4) (oi := { dst := some 28, op := Op.load 74 (Operand.tmp 27), type := 74, pos := _, after := #[{ on := 3, ground := Ground.data }], guard := none }) (v := .map (some mp)) rfl (by kernel_rfl) (by kernel_rfl) (by kernel_rfl) (fun _ _ _ h => h) (Or.inl ⟨by rfl, ?_⟩) hHeld ?_
        · intro u hu
          have x1 := (H4.later hu).cells.2.1; go_simp
        try simp only [Act.put, List.setIfInBounds_toArray, List.set_cons_zero, List.set_cons_succ]
        refine wpAnyH_take (i := 5) (oi := { dst := some 29, op := Op.move (Operand.tmp 7), type := 3, pos := _, after := #[], guard := none }) (v := .int .i64 q.id) rfl (by kernel_rfl) (by kernel_rfl) (by kernel_rfl) (fun _ _ _ h => h) (Or.inl ⟨by rfl, ?_⟩) hHeld ?_
        · intro u hu
          go_simp
        try simp only [Act.put, List.setIfInBounds_toArray, List.set_cons_zero, List.set_cons_succ]
        refine wpAnyH_take (i := 6) (oi := { dst := some 30, op := Op.lookup 74 (Operand.tmp 28) (Operand.tmp 29) false, type := 54, pos := _, after := #[{ on := 4, ground := Ground.data }, { on := 5, ground := Ground.data }], guard := none }) (v := .agg (q.cs d4 n4).toArray) rfl (by kernel_rfl) (by kernel_rfl) (by kernel_rfl) (fun _ _ _ h => h)
          (yields_M' 74 54 uPm _ zP (by rfl) _ _ (by rfl) mp f (by rfl) q.id (by rfl) hwq (fun u hu => (H4.later hu).pm) _ e4) hHeld ?_
        try simp only [Act.put, List.setIfInBounds_toArray, List.set_cons_zero, List.set_cons_succ]
        refine wpAnyH_ready (rs := [7]) (by kernel_rfl) (by simp) ?_
        refine (AllReadyH.cons (o := { dst := some 31, op := Op.call { callee := Callee.value (Operand.func 58), args := #[Operand.tmp 24, Operand.tmp 30], argTypes := #[96, 54] }, type := 96, pos := _, after := #[{ on := 0, ground := Ground.data }, { on := 6, ground := Ground.data }], guard := none }) rfl (fun K hK => ?_) AllReadyH.nil)
        go_simp
        refine (hW _ hsh.1 hsh.2 hfq m4.bs.len.symm).mono ?_
        rintro e w5 ⟨rfl, q5⟩
        try go_wp2_with fail
        refine hK.out _ _ (bnext (by assumption) q5 (Nat.le_refl _)) (fun hHeld => ?_)
        clear hK K
        try simp only [Act.put, List.setIfInBounds_toArray, List.set_cons_zero, List.set_cons_succ]
        refine wpAnyH_done (by kernel_rfl) ?_ _
        have rs5 := rs.later hHeld
        clear hx1 hx2 hW H4 r14 r24 hsh rs
        show wpList _ _ _ [_] _ _
        refine at_putC 96 2 _ srtS (by rfl) _ _ (by rfl) g3 (by rfl) _ (by rfl) rfl (shC_one _ _) _ rs5 rfl ?_
        intro w6 r6 s6
        go_wp2_with fail
        go_roundw
        case rel => exact ⟨k + 1, by omega, by go_num, (st.next (Stp.of_below hHeld (fun _ => False)) (fun x e => e.elim)).next s6 (fun x e => .inl e), r6, hlt2⟩
        case measure => simp [intOf]; omega
    · have hk' : k = (wtP Z.l p.at').length := by omega
      have e5 := ahd_cut (p := p) H.ok.srt k hk hlt (fun h => absurd h hkl)
      rw [← e5] at rs
      subst hk'
      go_wp2_with (first
        | (refine at_getC 96 2 _ srtS (by rfl) _ (by rfl) g3 (by rfl) _ rs rfl ?_)
        | (refine at_putC 96 2 _ srtS (by rfl) _ _ (by rfl) g2 (by rfl) _ (by rfl) rfl (shC_one _ _) _ r24 rfl ?_; intro w6 r6 s6))
      refine bodyPost_ret (retC srtS rfl rfl r6 rfl) rfl ⟨rfl, ?_⟩
      exact (((Stp.of_below b9 (fun _ => False)).next st (fun x e => .inr (by have := b1.size; have := b2.size; omega))).next s6 (fun x e => .inr (by have := b1.size; omega))).below (Nat.le_refl _) (fun x e => e.elim)
end Go.Proofs.YtdfifneikmlmoaaGreat
