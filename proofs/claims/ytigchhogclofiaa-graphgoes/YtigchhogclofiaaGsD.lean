/-
  What patch of the statements of layer 14 returns: no statement is proved here.
-/
import Derived.Test.YtigchhogclofiaaGsC
namespace Go.Proofs.Ytigchhogclofiaa
open Go.ChangeShapes Go.WideShapes Go.ChangeAt Go.RowKit
set_option linter.unusedVariables false
set_option linter.unusedSimpArgs false

/-- A need near the last number. -/
def nr (last : Nat) (x : Int) : Int := (last : Int) - (among x last : Nat)
/-- The first k needs are near. -/
def nrL (last : Nat) (l : List Int) (k : Nat) : List Int := (l.take k).map (nr last) ++ l.drop k
/-- The patch of an act. -/
def ptc (x : Ac) (last : Nat) : Pt := if x.near && decide (0 < last) then { fewP x.p with needs := (fewP x.p).needs.map (nr last) } else fewP x.p
theorem nrL_len (last : Nat) (l : List Int) (k : Nat) : (nrL last l k).length = l.length := by unfold nrL; simp; omega
theorem nrL_zero (last : Nat) (l : List Int) : nrL last l 0 = l := by unfold nrL; simp
theorem nrL_all (last : Nat) (l : List Int) : nrL last l l.length = l.map (nr last) := by unfold nrL; simp
theorem nrL_get {last : Nat} {l : List Int} {k : Nat} (h : k < l.length) : (nrL last l k).getD k 0 = l.getD k 0 := by
  unfold nrL
  rw [List.getD_eq_getElem?_getD, List.getElem?_append_right (by simp; omega), List.getElem?_drop, List.getD_eq_getElem?_getD]
  congr 2
  simp; omega
theorem nrL_set {last : Nat} {l : List Int} {k : Nat} (h : k < l.length) : (nrL last l k).set k (nr last (l.getD k 0)) = nrL last l (k + 1) := by
  unfold nrL
  rw [List.set_append_right _ _ (by simp; omega), List.take_add_one, List.getElem?_eq_getElem h, List.getD_eq_getElem?_getD, List.getElem?_eq_getElem h, List.drop_eq_getElem_cons h]
  have : k - ((l.take k).map (nr last)).length = 0 := by simp; omega
  rw [this]
  simp only [List.set_cons_zero, List.map_append, List.append_assoc, Option.toList_some, List.map_cons, List.map_nil, List.cons_append, List.nil_append, Option.getD_some]
theorem nr_wf {last : Nat} (h : 0 < last) (hl : last ≤ 100000) (x : Int) : wfi (nr last x) := by
  have := among_lt x last h
  unfold nr; exact wfi_of (by omega)
theorem nrL_wf {last : Nat} {l : List Int} {k : Nat} (h : 0 < last) (hl : last ≤ 100000) (hw : ∀ x ∈ l, wfi x) : ∀ x ∈ nrL last l k, wfi x := by
  intro x hx
  unfold nrL at hx
  rcases List.mem_append.1 hx with hx | hx
  · obtain ⟨y, _, rfl⟩ := List.mem_map.1 hx; exact nr_wf h hl y
  · exact hw x (List.mem_of_mem_drop hx)
/-- One number of a row of one's own, anew. -/
theorem OwV.set {w : World} {g n c : Nat} {l : List Int} (h : OwV w (.slice (some ⟨g, 0, none⟩) n c) l) (i : Nat) (hi : i < l.length) (y : Int) :
    w.cell? ⟨g, i, none⟩ = some (.int .i64 (l.getD i 0)) ∧ w.frozen? ⟨g, i, none⟩ = false ∧ OwV (w.setCell ⟨g, i, none⟩ (.int .i64 y)) (.slice (some ⟨g, 0, none⟩) n c) (l.set i y) := by
  rcases h.row with ⟨e, _⟩ | ⟨g', cap, cur, e, hw⟩
  · cases e
  · injection e with e1 e2 e3
    injection e1 with e1; injection e1 with e1
    subst e1; subst e2; subst e3
    refine ⟨hw.cell i hi, hw.frozen i, ?_⟩
    have hsz : i < cur.size := by have := hw.le; rw [hw.size]; omega
    have e4 : (w.setCell ⟨g, i, none⟩ (.int .i64 y)).heap[g]? = some (.cells (cur.setIfInBounds i (.int .i64 y)) 3 (0, 0)) := by
      rw [setCell_eq_setRow w g i _ _ (0, 0) _ hw.at', setRow_heap w g _ _ _ _ hw.at']
    have hl : (l.set i y).length = l.length := List.length_set
    rw [← hl]
    refine Rw1.own (cur := cur.setIfInBounds i (.int .i64 y)) ⟨e4, by rw [hl]; exact hw.le, hw.cm, by simp [hw.size], ?_⟩
    rw [hl, Array.toList_setIfInBounds, List.take_set, hw.take, List.map_set]
set_option maxRecDepth 100000 in
set_option maxHeartbeats 4000000 in
theorem patch_any {w : World} (x : Ac) (hx : x.ok w) (last : Nat) (hl : last ≤ 100000) :
    Calls Try.prog 9 #[.agg x.cs.toArray, .int .i64 (last : Int)] w fun e w' => ∃ d' n' : Sv, e = .returned (.agg ((ptc x last).cs d' n').toArray) ∧ PtM w' (Made w w') (ptc x last) d' n' ∧ Below w.heap.size w w' := by
  have t1 : True := trivial
  have t2 : True := trivial
  have t3 : True := trivial
  have t4 : True := trivial
  have t5 : True := trivial
  have hprow : ∃ d, Try.prog.underlying 30 = some d ∧ d.isRow = true := ⟨_, Try.underlying30, rfl⟩
  have hpsz : (Try.prog.info? 30).map (·.size) = some 9 := by kernel_rfl
  go_enter Try.func9, Try.ntmps9
  go_wp2_with (first
    | (clear t1; refine at_boxC 32 (by rfl) _ (by rfl) x.cs (by rfl) x.cs_one ?_; intro g1 w1 a1 a2 r1 b1)
    | (clear t2; refine at_newP (by rfl) (by rfl) ?_; intro g2 w2 a3 a4 r2 b2; have r12 := r1.later b2; have B2 := bnext b1 b2 (Nat.le_refl _))
    | (clear t3; refine at_getP 30 9 hprow hpsz (by rfl) _ (by rfl) g1 2 (by rfl) x.cs r12 (x.p.cs x.dv x.nv) (by rfl) rfl ?_)
    | (go_at_call 27; refine (few_any x.p x.dv x.nv (hx.b.later B2) (hx.i.later B2)).mono ?_; rintro e w3 ⟨d', n', rfl, m3, b3, o3, n3, ap3⟩; have r13 := r12.later b3; have r23 := r2.later b3)
    | (clear t4; refine at_newP (by rfl) (by rfl) ?_; intro g4 w4 a5 a6 r4 b4)
    | (clear t5; refine at_putP (by rfl) _ _ (by rfl) g4 (by rfl) (fewP x.p) d' n' (by rfl) _ r4 rfl ?_; intro w5 r5 s5))
  have r15 := (r13.later b4).step s5 (by have := r13.lt; omega)
  have r25 := (r23.later b4).step s5 (by have := r23.lt; omega)
  have m5 := (m3.later b4).step s5 (fun y hy e => by have := hy.2; omega)
  have o5 := (o3.later b4).step s5 (fun r hr e => by have := o3.lt hr; omega)
  have B5 : Below w.heap.size w w5 := ((Stp.of_below (bnext (bnext B2 b3 (Nat.le_refl _)) b4 (Nat.le_refl _)) (fun _ => False)).next s5 (fun y e => .inr (by have := B2.size; have := b3.size; omega))).below (Nat.le_refl _) (fun y e => e.elim)
  have cn : w5.cell? ⟨g1, 11, none⟩ = some (.bool x.near) := r15.cell 11 _ rfl
  have c5 := (Pt.cells r5).2.2.2.2.2.1
  have hnl : (fewP x.p).needs.length = n'.n := m5.is.i.len
  have h6 : (fewP x.p).needs.length ≤ 6 := by unfold fewP; simp; omega
  have hob : ∀ r, (Value.slice n'.a n'.n n'.c).ownBlock = some r → w2.heap.size ≤ r ∧ r < w3.heap.size := fun r hr => ⟨n3 r hr, o3.lt hr⟩
  have l13 := r15.lt
  have z3 := b3.size
  have z4 := b4.size
  have z5 := s5.size
  have zB := B2.size
  clear m3 o3 r4 r23 r13 r12 r1 r2 b4 s5 b3 b2 b1 B2
  have t6 : True := trivial
  have t7 : True := trivial
  by_cases hc : (x.near && decide (0 < last)) = true
  · have hc2 : x.near = true ∧ 0 < last := by simpa using hc
    rw [hc2.1] at cn
    have hl0 : (0 : Int) < (last : Int) := by omega
    have eP : ptc x last = { fewP x.p with needs := (fewP x.p).needs.map (nr last) } := by unfold ptc; rw [if_pos hc]
    have eP' : Hid (ptc x last = { fewP x.p with needs := (fewP x.p).needs.map (nr last) }) := eP
    have hwf := m5.is.i.wf
    clear eP hc
    obtain ⟨na, nn, nc⟩ := n'
    simp only at hnl c5 o5 n3
    subst hnl
    simp only at hob ap3
    have fin : ∀ wr w7, OwV wr (.slice na (fewP x.p).needs.length nc) (nrL last (fewP x.p).needs (fewP x.p).needs.length) → Stp (fun y => (Value.slice na (fewP x.p).needs.length nc).ownBlock = some y) w5 wr → Cs w7 g2 (({ fewP x.p with needs := (fewP x.p).needs.map (nr last) } : Pt).cs d' ⟨na, (fewP x.p).needs.length, nc⟩) → Stp (fun y => y = g2) wr w7 → ∃ d'' n'' : Sv, Ending.returned (Value.agg (({ fewP x.p with needs := (fewP x.p).needs.map (nr last) } : Pt).cs d' ⟨na, (fewP x.p).needs.length, nc⟩).toArray) = .returned (.agg ((ptc x last).cs d'' n'').toArray) ∧ PtM w7 (Made w w7) (ptc x last) d'' n'' ∧ Below w.heap.size w w7 := fun wr w7 hO hst r7 s7 => by
      rw [eP'.out]
      have z7 := s7.size
      have z8 := hst.size
      rw [nrL_all] at hO
      have hO7 := hO.step s7 (fun r hr e => by have := hob r hr; omega)
      obtain ⟨sv, e1, e2, e3, e4⟩ := hO7.ins (B := w2.heap.size) (fun y hy => by obtain ⟨z, _, rfl⟩ := List.mem_map.1 hy; exact nr_wf hc2.2 hl z) (fun r hr => (hob r hr).1)
      have e5 : (⟨na, (fewP x.p).needs.length, nc⟩ : Sv) = sv := by
        obtain ⟨sa, sn, sc⟩ := sv
        injection e1 with f1 f2 f3
        subst f1; subst f2; subst f3; rfl
      subst e5
      have hds : Stp (fun y => (Value.slice na (fewP x.p).needs.length nc).ownBlock = some y ∨ y = g2) w5 w7 := (hst.mono (fun y e => .inl (.inl e))).next s7 (fun y e => .inl (.inr e))
      refine ⟨d', _, rfl, ⟨?_, e3, ?_, e4.mono (fun y hy => ⟨by have := hy.1; omega, hy.2⟩)⟩, (Stp.of_below B5 (fun _ => False)).next hds (fun y e => .inr ?_) |>.below (Nat.le_refl _) (fun y e => e.elim)⟩
      · refine (m5.bs.step (E := fun y => Made w2 w3 y ∧ (Value.slice na (fewP x.p).needs.length nc).ownBlock ≠ some y) hds (fun ad h1 h2 => ⟨m5.ed ad h1 h2, fun e => ap3 _ e ad h1 h2 rfl⟩) (fun y hy e => ?_))
        rcases e with e | e
        · exact hy.2 e
        · have := hy.1.1; omega
      · exact m5.ed.mono (fun y hy => ⟨by have := hy.1; omega, by have := hy.2; omega⟩)
      · rcases e with e | e
        · have := (hob y e).1; omega
        · omega
    have hA := fun (y : Int) (u : World) => among_any y last u hc2.2 (by omega)
    have eC : ({ fewP x.p with needs := (fewP x.p).needs.map (nr last) } : Pt).cs d' ⟨na, (fewP x.p).needs.length, nc⟩ = (fewP x.p).cs d' ⟨na, (fewP x.p).needs.length, nc⟩ := rfl
    rw [eC] at fin
    have hC5 : Hid (w5.cell? ⟨g4, 5, none⟩ = some (.slice na (fewP x.p).needs.length nc)) := c5
    clear c5 eC
    have hnl6 : ((fewP x.p).needs.length : Int) ≤ 6 := by omega
    go_loopw [6] (fun v wr => ∃ k : Nat, k ≤ (fewP x.p).needs.length ∧ v = .int .i64 (k : Int) ∧ Stp (fun y => (Value.slice na (fewP x.p).needs.length nc).ownBlock = some y) w5 wr ∧ OwV wr (.slice na (fewP x.p).needs.length nc) (nrL last (fewP x.p).needs k)) (fun v _ => (fewP x.p).needs.length - (intOf v).toNat)
    case atStart => exact ⟨0, Nat.zero_le _, rfl, Stp.refl _ _, by rw [nrL_zero]; exact o5⟩
    case round =>
      obtain ⟨k, hk, rfl, st, ow⟩ := hrel
      have hob4 : (Value.slice na (fewP x.p).needs.length nc).ownBlock ≠ some g4 := fun e => by have := hob g4 e; omega
      have hob1 : (Value.slice na (fewP x.p).needs.length nc).ownBlock ≠ some g1 := fun e => by have := hob g1 e; omega
      have hob2 : (Value.slice na (fewP x.p).needs.length nc).ownBlock ≠ some g2 := fun e => by have := hob g2 e; omega
      have c5 := st.cell hC5.out hob4
      have cnr := st.cell cn hob1
      have r5r := r5.step st hob4
      have r25r := r25.step st hob2
      by_cases hkl : k < (fewP x.p).needs.length
      · obtain ⟨rb, cap, cur, e1, _⟩ := ow.row1 (fun e => by have := nrL_len last (fewP x.p).needs k; rw [e, List.length_nil] at this; omega)
        rw [nrL_len] at e1
        injection e1 with e1 e2 e3
        subst e1; subst e3; clear e2
        have hset := ow.set k (by rw [nrL_len]; exact hkl) (nr last ((fewP x.p).needs.getD k 0))
        rw [nrL_get hkl, nrL_set hkl] at hset
        obtain ⟨ck, fk, ow2⟩ := hset
        have hnr : nr last ((fewP x.p).needs.getD k 0) = (last : Int) - (among ((fewP x.p).needs.getD k 0) last : Nat) := rfl
        have hal := among_lt ((fewP x.p).needs.getD k 0) last hc2.2
        have hwr : IntKind.i64.wrap ((last : Int) - (among ((fewP x.p).needs.getD k 0) last : Nat)) = nr last ((fewP x.p).needs.getD k 0) := by rw [hnr, IntKind.wrap_i64]; omega
        have hA2 := hA ((fewP x.p).needs.getD k 0)
        have ow2' : Hid (OwV (wr.setCell ⟨rb, k, none⟩ (.int .i64 (nr last ((fewP x.p).needs.getD k 0)))) (.slice (some ⟨rb, 0, none⟩) (fewP x.p).needs.length nc) (nrL last (fewP x.p).needs (k + 1))) := ow2
        have a9 : (k : Int) < ((fewP x.p).needs.length : Int) := by omega
        clear ow2 hA hnr hal
        generalize nr last ((fewP x.p).needs.getD k 0) = y at *
        generalize (fewP x.p).needs.getD k 0 = y0 at *
        go_wp2_with fail
        have a8 : (0 : Int) ≤ (k : Int) := by omega
        refine wp_region_last (S := fun u => Below wr.heap.size wr u) _ _ (by simp only [List.pop_toArray, List.dropLast_cons_cons, List.dropLast_singleton]; rfl) (by simp only [List.back?_toArray, List.getLast?_cons_cons, List.getLast?_singleton]; rfl) (by kernel_rfl) (by kernel_rfl) (Below.refl _ _).drew (fun hHeld => ?_)
        refine wpAnyH_take (i := 0) (oi := { dst := some 25, op := Op.fieldAddr 30 (Operand.tmp 5) 5, type := 0, pos := _, after := #[], guard := none }) (v := .pointer (some ⟨g4, 5, none⟩)) rfl (by kernel_rfl) (by kernel_rfl) (by kernel_rfl) (fun _ _ _ h => h) (Or.inl ⟨by rfl, ?_⟩) hHeld ?_
        · intro u hu
          go_simp
        try simp only [Act.put, List.setIfInBounds_toArray, List.set_cons_zero, List.set_cons_succ]
        refine wpAnyH_take (i := 1) (oi := { dst := some 26, op := Op.load 28 (Operand.tmp 25), type := 28, pos := _, after := #[{ on := 0, ground := Ground.data }], guard := none }) (v := .slice (some ⟨rb, 0, none⟩) (fewP x.p).needs.length nc) rfl (by kernel_rfl) (by kernel_rfl) (by kernel_rfl) (fun _ _ _ h => h) (Or.inl ⟨by rfl, ?_⟩) hHeld ?_
        · intro u hu
          have x1 := (Stp.of_below hu (fun _ => False)).cell c5 id; go_simp
        try simp only [Act.put, List.setIfInBounds_toArray, List.set_cons_zero, List.set_cons_succ]
        refine wpAnyH_take (i := 2) (oi := { dst := some 27, op := Op.move (Operand.tmp 6), type := 3, pos := _, after := #[], guard := none }) (v := .int .i64 (k : Int)) rfl (by kernel_rfl) (by kernel_rfl) (by kernel_rfl) (fun _ _ _ h => h) (Or.inl ⟨by rfl, ?_⟩) hHeld ?_
        · intro u hu
          go_simp
        try simp only [Act.put, List.setIfInBounds_toArray, List.set_cons_zero, List.set_cons_succ]
        refine wpAnyH_take (i := 3) (oi := { dst := some 28, op := Op.move (Operand.tmp 1), type := 3, pos := _, after := #[], guard := none }) (v := .int .i64 (last : Int)) rfl (by kernel_rfl) (by kernel_rfl) (by kernel_rfl) (fun _ _ _ h => h) (Or.inl ⟨by rfl, ?_⟩) hHeld ?_
        · intro u hu
          go_simp
        try simp only [Act.put, List.setIfInBounds_toArray, List.set_cons_zero, List.set_cons_succ]
        refine wpAnyH_take (i := 4) (oi := { dst := some 29, op := Op.fieldAddr 30 (Operand.tmp 5) 5, type := 0, pos := _, after := #[], guard := none }) (v := .pointer (some ⟨g4, 5, none⟩)) rfl (by kernel_rfl) (by kernel_rfl) (by kernel_rfl) (fun _ _ _ h => h) (Or.inl ⟨by rfl, ?_⟩) hHeld ?_
        · intro u hu
          go_simp
        try simp only [Act.put, List.setIfInBounds_toArray, List.set_cons_zero, List.set_cons_succ]
        refine wpAnyH_take (i := 5) (oi := { dst := some 30, op := Op.load 28 (Operand.tmp 29), type := 28, pos := _, after := #[{ on := 4, ground := Ground.data }], guard := none }) (v := .slice (some ⟨rb, 0, none⟩) (fewP x.p).needs.length nc) rfl (by kernel_rfl) (by kernel_rfl) (by kernel_rfl) (fun _ _ _ h => h) (Or.inl ⟨by rfl, ?_⟩) hHeld ?_
        · intro u hu
          have x1 := (Stp.of_below hu (fun _ => False)).cell c5 id; go_simp
        try simp only [Act.put, List.setIfInBounds_toArray, List.set_cons_zero, List.set_cons_succ]
        refine wpAnyH_take (i := 6) (oi := { dst := some 31, op := Op.move (Operand.tmp 6), type := 3, pos := _, after := #[], guard := none }) (v := .int .i64 (k : Int)) rfl (by kernel_rfl) (by kernel_rfl) (by kernel_rfl) (fun _ _ _ h => h) (Or.inl ⟨by rfl, ?_⟩) hHeld ?_
        · intro u hu
          go_simp
        try simp only [Act.put, List.setIfInBounds_toArray, List.set_cons_zero, List.set_cons_succ]
        refine wpAnyH_take (i := 7) (oi := { dst := some 32, op := Op.indexAddr 28 (Operand.tmp 30) (Operand.tmp 31), type := 0, pos := _, after := #[{ on := 5, ground := Ground.data }, { on := 6, ground := Ground.data }], guard := none }) (v := .pointer (some ⟨rb, k, none⟩)) rfl (by kernel_rfl) (by kernel_rfl) (by kernel_rfl) (fun _ _ _ h => h) (Or.inl ⟨by rfl, ?_⟩) hHeld ?_
        · intro u hu
          go_simp
        try simp only [Act.put, List.setIfInBounds_toArray, List.set_cons_zero, List.set_cons_succ]
        refine wpAnyH_take (i := 8) (oi := { dst := some 33, op := Op.load 3 (Operand.tmp 32), type := 3, pos := _, after := #[{ on := 7, ground := Ground.data }], guard := none }) (v := .int .i64 y0) rfl (by kernel_rfl) (by kernel_rfl) (by kernel_rfl) (fun _ _ _ h => h) (Or.inl ⟨by rfl, ?_⟩) hHeld ?_
        · intro u hu
          have x1 := (Stp.of_below hu (fun _ => False)).cell ck id; go_simp
        try simp only [Act.put, List.setIfInBounds_toArray, List.set_cons_zero, List.set_cons_succ]
        refine wpAnyH_take (i := 9) (oi := { dst := some 34, op := Op.move (Operand.tmp 1), type := 3, pos := _, after := #[], guard := none }) (v := .int .i64 (last : Int)) rfl (by kernel_rfl) (by kernel_rfl) (by kernel_rfl) (fun _ _ _ h => h) (Or.inl ⟨by rfl, ?_⟩) hHeld ?_
        · intro u hu
          go_simp
        try simp only [Act.put, List.setIfInBounds_toArray, List.set_cons_zero, List.set_cons_succ]
        refine wpAnyH_ready (rs := [10]) (by kernel_rfl) (by simp) ?_
        refine (AllReadyH.cons (o := { dst := some 35, op := Op.call { callee := Callee.value (Operand.func 7), args := #[Operand.tmp 33, Operand.tmp 34], argTypes := #[3, 3] }, type := 3, pos := _, after := #[{ on := 8, ground := Ground.data }, { on := 9, ground := Ground.data }], guard := none }) rfl (fun K hK => ?_) AllReadyH.nil)
        go_simp
        refine (hA2 _).mono ?_
        rintro e w6 ⟨rfl, rfl⟩
        try go_wp2_with fail
        refine hK.out _ _ (hHeld) (fun hHeld => ?_)
        clear hK K
        try simp only [Act.put, List.setIfInBounds_toArray, List.set_cons_zero, List.set_cons_succ]
        refine wpAnyH_take (i := 11) (oi := { dst := some 36, op := Op.binOp BinOp.sub 3 (Operand.tmp 28) (Operand.tmp 35) 3, type := 3, pos := _, after := #[{ on := 3, ground := Ground.data }, { on := 10, ground := Ground.data }], guard := none }) (v := .int .i64 y) rfl (by kernel_rfl) (by kernel_rfl) (by kernel_rfl) (fun _ _ _ h => h) (Or.inl ⟨by rfl, ?_⟩) hHeld ?_
        · intro u hu
          go_simp
        try simp only [Act.put, List.setIfInBounds_toArray, List.set_cons_zero, List.set_cons_succ]
        refine wpAnyH_take (i := 12) (oi := { dst := some 37, op := Op.indexAddr 28 (Operand.tmp 26) (Operand.tmp 27), type := 0, pos := _, after := #[{ on := 1, ground := Ground.data }, { on := 2, ground := Ground.data }, { on := 0, ground := Ground.phase }, { on := 1, ground := Ground.phase }, { on := 2, ground := Ground.phase }, { on := 3, ground := Ground.phase }, { on := 4, ground := Ground.phase }, { on := 5, ground := Ground.phase }, { on := 6, ground := Ground.phase }, { on := 7, ground := Ground.phase }, { on := 8, ground := Ground.phase }, { on := 9, ground := Ground.phase }, { on := 10, ground := Ground.phase }, { on := 11, ground := Ground.phase }], guard := none }) (v := .pointer (some ⟨rb, k, none⟩)) rfl (by kernel_rfl) (by kernel_rfl) (by kernel_rfl) (fun _ _ _ h => h) (Or.inl ⟨by rfl, ?_⟩) hHeld ?_
        · intro u hu
          go_simp
        try simp only [Act.put, List.setIfInBounds_toArray, List.set_cons_zero, List.set_cons_succ]
        refine wpAnyH_done (by kernel_rfl) ?_ _
        have ow3 : OwV (wr.drew.setCell ⟨rb, k, none⟩ (.int .i64 y)) (.slice (some ⟨rb, 0, none⟩) (fewP x.p).needs.length nc) (nrL last (fewP x.p).needs (k + 1)) := ow2'.out
        have ckd : wr.drew.cell? ⟨rb, k, none⟩ = some (.int .i64 y0) := ck
        have fkd : wr.drew.frozen? ⟨rb, k, none⟩ = false := fk
        have s9 : Stp (fun y => (Value.slice (some ⟨rb, 0, none⟩) (fewP x.p).needs.length nc).ownBlock = some y) w5 (wr.drew.setCell ⟨rb, k, none⟩ (.int .i64 y)) := (st.drew).setCell (p := ⟨rb, k, none⟩) (.inl rfl) _
        show wpList _ _ _ [_] _ _
        refine op_unit (by rfl) (wr.drew.setCell ⟨rb, k, none⟩ (.int .i64 y)) (by simp [execOp, Instr.storeAt, Instr.sureAddr]; go_simp) ?_
        clear hHeld c5 cnr ck fk ckd fkd
        go_wp2_with fail
        go_roundw
        case rel => exact ⟨k + 1, by omega, by go_num, s9, ow3⟩
        case measure => simp [intOf]; omega
      · have hk' : k = (fewP x.p).needs.length := by omega
        subst hk'
        go_wp2_with (first
          | (clear t6; refine at_getP0 (by rfl) _ (by rfl) g4 (by rfl) (fewP x.p) d' ⟨na, (fewP x.p).needs.length, nc⟩ r5r ?_)
          | (clear t7; refine at_putP (by rfl) _ _ (by rfl) g2 (by rfl) (fewP x.p) d' ⟨na, (fewP x.p).needs.length, nc⟩ (by rfl) _ r25r rfl ?_; intro w7 r7 s7))
        exact bodyPost_ret (retC srtP rfl rfl r7 rfl) rfl (fin wr w7 ow st r7 s7)
  · have eP : ptc x last = fewP x.p := by unfold ptc; rw [if_neg hc]
    have eP' : Hid (ptc x last = fewP x.p) := eP
    clear eP
    refine wp_loop_rounds 1 ?_
    rw [rounds_succ]
    have fin : ∀ w7, Cs w7 g2 ((fewP x.p).cs d' n') → Stp (fun y => y = g2) w5 w7 → ∃ d'' n'' : Sv, Ending.returned (Value.agg ((fewP x.p).cs d' n').toArray) = .returned (.agg ((ptc x last).cs d'' n'').toArray) ∧ PtM w7 (Made w w7) (ptc x last) d'' n'' ∧ Below w.heap.size w w7 := fun w7 r7 s7 => by
      rw [eP'.out]
      have z7 := s7.size
      exact ⟨d', n', rfl, (m5.step s7 (fun y hy e => by have := hy.1; omega)).mono (fun y hy => ⟨by have := hy.1; omega, by have := hy.2; omega⟩), ((Stp.of_below B5 (fun _ => False)).next s7 (fun y e => .inr (by omega))).below (Nat.le_refl _) (fun y e => e.elim)⟩
    cases hn : x.near with
    | false =>
      rw [hn] at cn
      go_wp2_with (first
        | (clear t6; refine at_getP0 (by rfl) _ (by rfl) g4 (by rfl) (fewP x.p) d' n' r5 ?_)
        | (clear t7; refine at_putP (by rfl) _ _ (by rfl) g2 (by rfl) (fewP x.p) d' n' (by rfl) _ r25 rfl ?_; intro w7 r7 s7))
      all_goals exact bodyPost_ret (retC srtP rfl rfl r7 rfl) rfl (fin w7 r7 s7)
    | true =>
      rw [hn] at cn
      have hl0 : ¬ (0 : Int) < (last : Int) := fun h => hc (by rw [hn]; simp; omega)
      have hl1 : (last : Int) = 0 := by omega
      go_wp2_with (first
        | (clear t6; refine at_getP0 (by rfl) _ (by rfl) g4 (by rfl) (fewP x.p) d' n' r5 ?_)
        | (clear t7; refine at_putP (by rfl) _ _ (by rfl) g2 (by rfl) (fewP x.p) d' n' (by rfl) _ r25 rfl ?_; intro w7 r7 s7))
      all_goals exact bodyPost_ret (retC srtP rfl rfl r7 rfl) rfl (fin w7 r7 s7)
end Go.Proofs.Ytigchhogclofiaa
