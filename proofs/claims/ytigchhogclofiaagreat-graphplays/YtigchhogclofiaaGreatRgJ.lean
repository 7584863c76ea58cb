/-
  What Add of the document's graph returns and leaves: no statement is proved here.
-/
import Derived.Test.YtigchhogclofiaaGreatRgI
import Derived.Deep.DeepCutAuto
namespace Go.Proofs.YtigchhogclofiaaGreat
open Go.ChangeShapes Go.WideShapes Go.ChangeAt Go.RowKit
set_option linter.unusedVariables false
set_option linter.unusedSimpArgs false

theorem GZ.ok.bump {Z : GZ} (h : Z.ok 2000) (hlt : Z.last < 2000) : (⟨Z.last + 1, Z.l⟩ : GZ).ok 2000 :=
  ⟨h.srt, fun p hp => by have := h.rng p hp; exact ⟨this.1, by simp only; omega⟩, h.ft, h.nds, h.wf, by have := h.l0; simp only; omega, by simp only; omega⟩
theorem GZ.ok.snoc {Z : GZ} (h : Z.ok 2000) (hlt : Z.last < 2000) {p : Pt} (hf : fit p = true) (hg : givn Z.last p.needs = true) (hw : wfi p.own ∧ wfi p.child) : (⟨Z.last + 1, Z.l ++ [{ p with id := Z.last + 1, wr := false }]⟩ : GZ).ok 2000 := by
  have l0 := h.l0
  refine ⟨?_, fun q hq => ?_, fun q hq => ?_, fun q hq => ?_, fun q hq => ?_, by simp only; omega, by simp only; omega⟩
  · simp only
    rw [List.pairwise_append]
    refine ⟨h.srt, List.pairwise_singleton _ _, fun a ha b hb => ?_⟩
    rw [List.mem_singleton.1 hb]
    have := h.rng a ha
    simp only; omega
  · simp only at hq
    rcases List.mem_append.1 hq with hq | hq
    · have := h.rng q hq; simp only; omega
    · rw [List.mem_singleton.1 hq]; simp only; omega
  · simp only at hq
    rcases List.mem_append.1 hq with hq | hq
    · exact h.ft q hq
    · rw [List.mem_singleton.1 hq]; exact hf
  · simp only at hq
    rcases List.mem_append.1 hq with hq | hq
    · exact h.nds q hq
    · rw [List.mem_singleton.1 hq]
      intro x hx
      unfold givn at hg
      have := List.all_eq_true.1 hg x hx
      simp at this
      simp only; omega
  · simp only at hq
    rcases List.mem_append.1 hq with hq | hq
    · exact h.wf q hq
    · rw [List.mem_singleton.1 hq]; exact hw
theorem Rf.bump {w : World} {g : Nat} {Z : GZ} {a : Option Addr} {c : Nat} {L : List Pe} {R : Nat → Prop} (H : Rf w g Z a c L R) (hlt : Z.last < 2000) : Rf (w.setCell ⟨g, 0, none⟩ (.int .i64 (Z.last + 1))) g ⟨Z.last + 1, Z.l⟩ a c L R := by
  have s : Stp (fun x => x = g) w (w.setCell ⟨g, 0, none⟩ (.int .i64 (Z.last + 1))) := (Stp.refl (fun x => x = g) w).setCell (p := ⟨g, 0, none⟩) (.inl rfl) _
  have hR : ∀ x, R x → ¬ x = g := fun x hx e => H.rg (e ▸ hx)
  exact ⟨H.cc.set 0 (.int .i64 (Z.last + 1)) rfl, H.row.step s (fun r hr => hR r (H.rv r hr)), fun t ht => (H.ms t ht).step s hR, H.rv, H.rg, fun x hx => Nat.lt_of_lt_of_le (H.lt x hx) s.size, H.eq, H.ok.bump hlt, H.nl⟩
/-- The graph with one more. -/
theorem Rf.added {w W w' : World} {g : Nat} {Z : GZ} {a : Option Addr} {c : Nat} {L : List Pe} {R : Nat → Prop} (H : Rf W g ⟨Z.last + 1, Z.l⟩ a c L R) (hw : w.heap.size ≤ W.heap.size) (ok : Z.ok 2000) (hlt : Z.last < 2000) {p : Pt} {d n : Sv} {xa : Option Addr} {xn xc : Nat} (hf : fit p = true) (hg : givn Z.last p.needs = true) (hwf : p.wfp) (hn : p.needs.length ≤ 100000)
    (ho : OwP w' (.slice xa xn xc) (L ++ [⟨{ p with id := Z.last + 1, wr := false }, d, n⟩])) (hv : ∀ r, (Value.slice xa xn xc).ownBlock = some r → Made w w' r ∧ r ≠ g) (hc : Cs w' g [.int .i64 (Z.last + 1), .slice xa xn xc]) (hs : Stp (fun x => x = g ∨ W.heap.size ≤ x) W w') (m : PtM w' (fun x => Made w w' x ∧ x ≠ g) p d n) :
    Rh w' g ⟨Z.last + 1, Z.l ++ [{ p with id := Z.last + 1, wr := false }]⟩ (fun x => (R x ∨ Made w w' x) ∧ x ≠ g) := by
  obtain ⟨ya, yc, e, _⟩ := ho.shape
  injection e with e1 e2 e3
  subst e2
  have key : ∀ x, R x → ¬ (x = g ∨ W.heap.size ≤ x) := fun x hx e => by
    rcases e with e | e
    · exact H.rg (e ▸ hx)
    · have := H.lt x hx; omega
  refine ⟨xa, xc, _, hc, ho, fun u hu => ?_, fun r hr => ⟨.inr (hv r hr).1, (hv r hr).2⟩, fun e => e.2 rfl, fun x hx => ?_, ?_, ok.snoc hlt hf hg ⟨hwf.w, hwf.c⟩, fun q hq => ?_⟩
  · rcases List.mem_append.1 hu with hu | hu
    · exact ((H.ms u hu).step hs key).mono (fun x hx => ⟨.inl hx, fun e => H.rg (e ▸ hx)⟩)
    · rw [List.mem_singleton.1 hu]
      exact (PtM.mono m (fun x hx => ⟨.inr hx.1, hx.2⟩)).other rfl rfl
  · rcases hx.1 with e | e
    · have := H.lt x e; have := hs.size; omega
    · exact e.2
  · have := H.eq
    simp only at this
    rw [List.map_append, this]; rfl
  · simp only at hq
    rcases List.mem_append.1 hq with hq | hq
    · exact H.nl q hq
    · rw [List.mem_singleton.1 hq]; exact hn
theorem ob_eq {b n c r : Nat} (h : (Value.slice (some ⟨b, 0, none⟩) n c).ownBlock = some r) : b = r := by simpa [Value.ownBlock] using h
theorem ow_11 {w w' : World} {B : Nat} {v v' : Value} {L : List Pe} (hA : Apd w B 30 9 v ([] : List Pe).length L.length (fl [] ++ fl L) v' w') : OwP w' v' L := by
  have := hA.1
  rw [List.length_nil, Nat.zero_add, fl_nil, List.nil_append] at this
  exact this
theorem ow_12 {w w' : World} {B : Nat} {v v' : Value} {L : List Pe} {t : Pe} (hA : Apd w B 30 9 v L.length 1 (fl L ++ t.cs) v' w') : OwP w' v' (L ++ [t]) := by
  unfold OwP
  rw [fl_append, fl_cons, fl_nil, List.append_nil]
  simpa using hA.1
theorem step_bs0P {ops : Array Oper} {o : Oper} {a : Act} {w : World} {K : Act → World → Prop} {Q : Exit → Act → World → Prop} {R : Prop} (hgd : o.guard = none) (ho : o.op = .buildSlice 46 0 #[])
    (h : ∀ g w', w.heap.size ≤ g → OwP w' (.slice (some ⟨g, 0, none⟩) 0 0) [] → Below w.heap.size w w' → K (a.put o.dst (.slice (some ⟨g, 0, none⟩) 0 0)) w') : if Region.wanted o (yielded ops a.tmps) = true then Oper.wp Tryz.prog o a w K Q else R := by
  have hw : Region.wanted o (yielded ops a.tmps) = true := by simp [Region.wanted, hgd]
  rw [if_pos hw]
  have h0 : (Instr.buildSlice 46 0 #[]).run Tryz.prog w = .ok (.slice (some ⟨w.heap.size, 0, none⟩) 0 0) (w.alloc (.cells #[] 30)) := by kernel_rfl
  have hr : (execOp a.eval o).run Tryz.prog w = .ok (.value (.slice (some ⟨w.heap.size, 0, none⟩) 0 0)) (w.alloc (.cells #[] 30)) := by simp [execOp, ho, h0]
  unfold Oper.wp
  rw [hr]
  exact h w.heap.size _ (Nat.le_refl _) (World.ownsRow_made w #[] 0 (Nat.zero_le _) (Nat.zero_le _) rfl) ((Below.refl _ w).alloc (Nat.le_refl _) _)
theorem step_bs1P {ops : Array Oper} {o : Oper} {a : Act} {w : World} {K : Act → World → Prop} {Q : Exit → Act → World → Prop} {R : Prop} (hgd : o.guard = none) (x : Operand) (ho : o.op = .buildSlice 46 1 #[(0, x)]) (t : Pe) (hx : a.eval x = .agg t.cs.toArray)
    (h : ∀ g w', w.heap.size ≤ g → Cs w' g t.cs → Below w.heap.size w w' → K (a.put o.dst (.slice (some ⟨g, 0, none⟩) 1 1)) w') : if Region.wanted o (yielded ops a.tmps) = true then Oper.wp Tryz.prog o a w K Q else R := by
  have hw : Region.wanted o (yielded ops a.tmps) = true := by simp [Region.wanted, hgd]
  rw [if_pos hw]
  have hr : (execOp a.eval o).run Tryz.prog w = .ok (.value (.slice (some ⟨w.heap.size, 0, none⟩) 1 1)) (w.alloc (.cells t.cs.toArray 30)) := by simp [execOp, ho, hx, bslice_p]
  unfold Oper.wp
  rw [hr]
  exact h w.heap.size _ (Nat.le_refl _) (Cs.made w t.cs _ t.cs_one) ((Below.refl _ w).alloc (Nat.le_refl _) _)
set_option maxRecDepth 100000 in
set_option maxHeartbeats 4000000 in
theorem radd_any {w : World} {g : Nat} {Z : GZ} {a : Option Addr} {c : Nat} {L : List Pe} {R E : Nat → Prop} (H : Rf w g Z a c L R) (p : Pt) (d n : Sv) (hp : p.wfp) (hpm : PtM w E p d n) (hE : ∀ x, E x → x ≠ g) (hlt : Z.last < 2000) (hd : p.data.length ≤ 100000) (hn : p.needs.length ≤ 100000) :
    Calls Tryz.prog 21 #[.pointer (some ⟨g, 0, none⟩), .agg (p.cs d n).toArray] w fun e w' => e = .returned (.tuple #[.int .i64 (Z.addN p), .int .i64 (Z.addE p)]) ∧ Rh w' g (Z.add p) (fun x => (R x ∨ Made w w' x) ∧ x ≠ g) ∧ Stp (fun x => x = g) w w' := by
  have t1 : True := trivial
  have h1 := wfi_to hp.s
  have h2 := wfi_to hp.o
  have h3 := wfi_to hp.k
  have hdl := hpm.bs.len
  have hnl := hpm.is.i.len
  obtain ⟨da, dn, dc⟩ := d
  obtain ⟨na, nn, nc⟩ := n
  simp only at hdl hnl
  subst hdl
  subst hnl
  have hdm : p.data.length ≤ maxLen := Nat.le_trans hpm.bs.le hpm.bs.cap
  have hnm : p.needs.length ≤ maxLen := Nat.le_trans hpm.is.i.le hpm.is.i.cap
  have hl2 : (p.data.length : Int) ≤ 100000 := by omega
  have hl1 : (0 : Int) ≤ (p.data.length : Int) := by omega
  obtain ⟨most, hmost⟩ : ∃ m : Int, Hid (m = if p.kind = 0 then 64 else 54) := ⟨_, rfl⟩
  have hm1 : most = 64 ∨ most = 54 := by rw [hmost.out]; split; exact .inl rfl; exact .inr rfl
  have hFit : Hid ((!fit p) = (decide (p.at' < 0) || decide (2047 < p.at') || decide (p.kind < 0) || decide (6 < p.kind) || decide ((p.data.length : Int) = 0) || decide (most < (p.data.length : Int)) || decide (p.off < 0) || decide (most - (p.data.length : Int) < p.off))) := by
    show _ = _
    unfold fit
    rw [← hmost.out, Bool.eq_iff_iff]
    simp only [Bool.not_eq_true', Bool.and_eq_false_iff, Bool.or_eq_true, decide_eq_true_eq, decide_eq_false_iff_not]
    omega
  go_enter Tryz.func21, Tryz.ntmps21
  go_upto_if 11 with (first
    | (clear t1; refine at_boxP (by rfl) _ (by rfl) p ⟨da, p.data.length, dc⟩ ⟨na, p.needs.length, nc⟩ (by rfl) ?_; intro g1 w1 a1 a2 r1 b1; obtain ⟨c0, c1, c2, c3, c4, c5, c6, c7, c8⟩ := Pt.cells r1))
  generalize (p.cs ⟨da, p.data.length, dc⟩ ⟨na, p.needs.length, nc⟩).toArray = AV
  go_cut [6] (fun u wx => u = .int .i64 most ∧ wx = w1)
  case first =>
    by_cases hk : p.kind = 0
    · have e : most = 64 := by rw [hmost.out, if_pos hk]
      go_wp2_with fail
      go_meet
      exact ⟨by rw [e], rfl⟩
    · have e : most = 54 := by rw [hmost.out, if_neg hk]
      go_wp2_with fail
      go_meet
      exact ⟨by rw [e], rfl⟩
  case rest =>
    obtain ⟨rfl, e0⟩ := hcut
    subst wc
    go_upto_region 4 with fail
    go_cut [57] (fun u wx => u = .bool (!fit p) ∧ wx = w1)
    case first =>
      go_wp2_with fail
      all_goals
        go_meet
        refine ⟨?_, rfl⟩
        rw [hFit.out]
        first
          | rfl
          | (refine congrArg Value.bool (Eq.symm ?_); simp only [Bool.or_eq_true, decide_eq_true_eq]; omega)
          | (refine congrArg Value.bool (Eq.symm ?_); simp only [Bool.or_eq_true, decide_eq_true_eq]; have h0 : p.data.length = 0 := by (rename_i h0; rw [h0]; rfl)
             omega)
    case rest =>
      obtain ⟨rfl, e0⟩ := hcut
      subst wc
      have z0' := H.cells.1
      have bad : ∀ {w'}, Below w.heap.size w w' → Z.addOk p = false → Hid (Z.addN p = 0) ∧ Hid (Z.addE p = 2) ∧ Rh w' g (Z.add p) (fun x => (R x ∨ Made w w' x) ∧ x ≠ g) ∧ Stp (fun x => x = g) w w' := fun {w'} hb hk => by
        have e : Z.add p = Z := by unfold GZ.add; rw [hk]; rfl
        refine ⟨?_, ?_, ?_, Stp.of_below hb _⟩
        · show _ = _; unfold GZ.addN; rw [hk]; rfl
        · show _ = _; unfold GZ.addE; rw [hk]; rfl
        · rw [e]
          exact ⟨a, c, L, (H.later hb).mono (fun x hx => ⟨.inl hx, fun e => H.rg (e ▸ hx)⟩) (fun e => e.2 rfl) (fun x hx => hx.1.elim ((H.later hb).lt x) (fun e => e.2))⟩
      clear hFit hmost
      obtain ⟨ft, hft⟩ : ∃ f, Hid (fit p = f) := ⟨_, rfl⟩
      rw [hft.out]
      cases ft with
      | false =>
        have hbd : Hid (Z.addOk p = false) := (by unfold GZ.addOk; rw [hft.out]; rfl : Z.addOk p = false)
        go_wp2_with fail
        go_returns
        have hb2 := bad b1 hbd.out
        exact ⟨by rw [hb2.1.out, hb2.2.1.out]; rfl, hb2.2.2⟩
      | true =>
        go_wp2_with fail
        go_loopw [7] (fun v wr => ∃ i : Nat, i ≤ p.needs.length ∧ v = .int .i64 (i : Int) ∧ givn Z.last (p.needs.take i) = true ∧ Below w1.heap.size w1 wr) (fun v _ => p.needs.length - (intOf v).toNat)
        case atStart => exact ⟨0, Nat.zero_le _, rfl, rfl, Below.refl _ _⟩
        case round =>
          clear c0 c1 c2 c3 c4 c5 c6 c7 c8
          obtain ⟨i, hi, rfl, hgv, B⟩ := hrel
          have rB := r1.later B
          have k5 := (Pt.cells rB).2.2.2.2.2.1
          have HB := H.later (bnext b1 B (Nat.le_refl _))
          obtain ⟨z0, z1⟩ := HB.cells
          have a8 : (0 : Int) ≤ (i : Int) := by omega
          by_cases hil : i < p.needs.length
          · have a9 : (i : Int) < (p.needs.length : Int) := by omega
            have mB := hpm.later (bnext b1 B (Nat.le_refl _))
            obtain ⟨nb, no, en, hnc⟩ := mB.is.i.cell (by show 0 < p.needs.length; omega)
            simp only at en
            subst en
            have cn := hnc i hil
            have hst := givn_take Z.last p.needs i hil hgv
            have hno := fun h => givn_no Z.last p.needs (i + 1) h
            generalize p.needs.getD i 0 = x at *
            clear hnc
            go_wp2_with fail
            refine wp_region_held_drew (S := fun u => Below wr.heap.size wr u) (by kernel_rfl) (Below.refl _ _).drew (fun hHeld => ?_)
            by_cases hx1 : x < 1
            · have hbd : Hid (Z.addOk p = false) := (by unfold GZ.addOk; rw [hno (by rw [hst]; simp; omega)]; simp : Z.addOk p = false)
              refine wpAnyH_take (i := 0) (oi := { dst := some 65, op := Op.fieldAddr 30 (Operand.tmp 3) 5, type := 0, pos := _, after := #[], guard := none }) (v := .pointer (some ⟨g1, 5, none⟩)) rfl (by kernel_rfl) (by kernel_rfl) (by kernel_rfl) (fun _ _ _ h => h) (Or.inl ⟨by rfl, ?_⟩) hHeld ?_
              · intro u hu
                go_simp
              try simp only [Act.put, List.setIfInBounds_toArray, List.set_cons_zero, List.set_cons_succ]
              refine wpAnyH_take (i := 1) (oi := { dst := some 66, op := Op.load 28 (Operand.tmp 65), type := 28, pos := _, after := #[{ on := 0, ground := Ground.data }], guard := none }) (v := .slice (some ⟨nb, no, none⟩) p.needs.length nc) rfl (by kernel_rfl) (by kernel_rfl) (by kernel_rfl) (fun _ _ _ h => h) (Or.inl ⟨by rfl, ?_⟩) hHeld ?_
              · intro u hu
                have x1 := (Stp.of_below hu (fun _ => False)).cell k5 id; go_simp
              try simp only [Act.put, List.setIfInBounds_toArray, List.set_cons_zero, List.set_cons_succ]
              refine wpAnyH_take (i := 2) (oi := { dst := some 67, op := Op.move (Operand.tmp 7), type := 3, pos := _, after := #[], guard := none }) (v := .int .i64 (i : Int)) rfl (by kernel_rfl) (by kernel_rfl) (by kernel_rfl) (fun _ _ _ h => h) (Or.inl ⟨by rfl, ?_⟩) hHeld ?_
              · intro u hu
                go_simp
              try simp only [Act.put, List.setIfInBounds_toArray, List.set_cons_zero, List.set_cons_succ]
              refine wpAnyH_take (i := 3) (oi := { dst := some 68, op := Op.indexAddr 28 (Operand.tmp 66) (Operand.tmp 67), type := 0, pos := _, after := #[{ on := 1, ground := Ground.data }, { on := 2, ground := Ground.data }], guard := none }) (v := .pointer (some ⟨nb, no + i, none⟩)) rfl (by kernel_rfl) (by kernel_rfl) (by kernel_rfl) (fun _ _ _ h => h) (Or.inl ⟨by rfl, ?_⟩) hHeld ?_
              · intro u hu
                go_simp
              try simp only [Act.put, List.setIfInBounds_toArray, List.set_cons_zero, List.set_cons_succ]
              refine wpAnyH_take (i := 4) (oi := { dst := some 69, op := Op.load 3 (Operand.tmp 68), type := 3, pos := _, after := #[{ on := 3, ground := Ground.data }], guard := none }) (v := .int .i64 x) rfl (by kernel_rfl) (by kernel_rfl) (by kernel_rfl) (fun _ _ _ h => h) (Or.inl ⟨by rfl, ?_⟩) hHeld ?_
              · intro u hu
                have x1 := (Stp.of_below hu (fun _ => False)).cell cn id; go_simp
              try simp only [Act.put, List.setIfInBounds_toArray, List.set_cons_zero, List.set_cons_succ]
              refine wpAnyH_take (i := 5) (oi := { dst := some 70, op := Op.binOp BinOp.lss 3 (Operand.tmp 69) (Operand.const (Value.int IntKind.i64 1)) 3, type := 4, pos := _, after := #[{ on := 4, ground := Ground.data }], guard := none }) (v := .bool true) rfl (by kernel_rfl) (by kernel_rfl) (by kernel_rfl) (fun _ _ _ h => h) (Or.inl ⟨by rfl, ?_⟩) hHeld ?_
              · intro u hu
                go_simp
              try simp only [Act.put, List.setIfInBounds_toArray, List.set_cons_zero, List.set_cons_succ]
              refine wpAnyH_take (i := 6) (oi := { dst := some 71, op := Op.move (Operand.tmp 70), type := 4, pos := _, after := #[{ on := 5, ground := Ground.data }], guard := none }) (v := .bool true) rfl (by kernel_rfl) (by kernel_rfl) (by kernel_rfl) (fun _ _ _ h => h) (Or.inl ⟨by rfl, ?_⟩) hHeld ?_
              · intro u hu
                go_simp
              try simp only [Act.put, List.setIfInBounds_toArray, List.set_cons_zero, List.set_cons_succ]
              refine wpAnyH_take (i := 7) (oi := { dst := some 72, op := Op.fieldAddr 30 (Operand.tmp 3) 5, type := 0, pos := _, after := #[{ on := 6, ground := Ground.guard }], guard := some (6, false) }) (v := undef) rfl (by kernel_rfl) (by kernel_rfl) (by kernel_rfl) (fun _ _ _ h => h)
                (Or.inr ⟨by rfl, rfl⟩) hHeld ?_
              try simp only [Act.put, List.setIfInBounds_toArray, List.set_cons_zero, List.set_cons_succ]
              refine wpAnyH_take (i := 8) (oi := { dst := some 73, op := Op.load 28 (Operand.tmp 72), type := 28, pos := _, after := #[{ on := 7, ground := Ground.data }, { on := 6, ground := Ground.guard }], guard := some (6, false) }) (v := undef) rfl (by kernel_rfl) (by kernel_rfl) (by kernel_rfl) (fun _ _ _ h => h)
                (Or.inr ⟨by rfl, rfl⟩) hHeld ?_
              try simp only [Act.put, List.setIfInBounds_toArray, List.set_cons_zero, List.set_cons_succ]
              refine wpAnyH_take (i := 9) (oi := { dst := some 74, op := Op.move (Operand.tmp 7), type := 3, pos := _, after := #[{ on := 6, ground := Ground.guard }], guard := some (6, false) }) (v := undef) rfl (by kernel_rfl) (by kernel_rfl) (by kernel_rfl) (fun _ _ _ h => h)
                (Or.inr ⟨by rfl, rfl⟩) hHeld ?_
              try simp only [Act.put, List.setIfInBounds_toArray, List.set_cons_zero, List.set_cons_succ]
              refine wpAnyH_take (i := 10) (oi := { dst := some 75, op := Op.indexAddr 28 (Operand.tmp 73) (Operand.tmp 74), type := 0, pos := _, after := #[{ on := 8, ground := Ground.data }, { on := 9, ground := Ground.data }, { on := 6, ground := Ground.guard }], guard := some (6, false) }) (v := undef) rfl (by kernel_rfl) (by kernel_rfl) (by kernel_rfl) (fun _ _ _ h => h)
                (Or.inr ⟨by rfl, rfl⟩) hHeld ?_
              try simp only [Act.put, List.setIfInBounds_toArray, List.set_cons_zero, List.set_cons_succ]
              refine wpAnyH_take (i := 11) (oi := { dst := some 76, op := Op.load 3 (Operand.tmp 75), type := 3, pos := _, after := #[{ on := 10, ground := Ground.data }, { on := 6, ground := Ground.guard }], guard := some (6, false) }) (v := undef) rfl (by kernel_rfl) (by kernel_rfl) (by kernel_rfl) (fun _ _ _ h => h)
                (Or.inr ⟨by rfl, rfl⟩) hHeld ?_
              try simp only [Act.put, List.setIfInBounds_toArray, List.set_cons_zero, List.set_cons_succ]
              refine wpAnyH_take (i := 12) (oi := { dst := some 77, op := Op.move (Operand.tmp 0), type := 25, pos := _, after := #[{ on := 6, ground := Ground.guard }], guard := some (6, false) }) (v := undef) rfl (by kernel_rfl) (by kernel_rfl) (by kernel_rfl) (fun _ _ _ h => h)
                (Or.inr ⟨by rfl, rfl⟩) hHeld ?_
              try simp only [Act.put, List.setIfInBounds_toArray, List.set_cons_zero, List.set_cons_succ]
              refine wpAnyH_take (i := 13) (oi := { dst := some 78, op := Op.nilCheck (Operand.tmp 77), type := 0, pos := _, after := #[{ on := 12, ground := Ground.data }, { on := 6, ground := Ground.guard }], guard := some (6, false) }) (v := undef) rfl (by kernel_rfl) (by kernel_rfl) (by kernel_rfl) (fun _ _ _ h => h)
                (Or.inr ⟨by rfl, rfl⟩) hHeld ?_
              try simp only [Act.put, List.setIfInBounds_toArray, List.set_cons_zero, List.set_cons_succ]
              refine wpAnyH_take (i := 14) (oi := { dst := some 79, op := Op.fieldAddr 48 (Operand.tmp 78) 0, type := 0, pos := _, after := #[{ on := 13, ground := Ground.data }, { on := 6, ground := Ground.guard }], guard := some (6, false) }) (v := undef) rfl (by kernel_rfl) (by kernel_rfl) (by kernel_rfl) (fun _ _ _ h => h)
                (Or.inr ⟨by rfl, rfl⟩) hHeld ?_
              try simp only [Act.put, List.setIfInBounds_toArray, List.set_cons_zero, List.set_cons_succ]
              refine wpAnyH_take (i := 15) (oi := { dst := some 80, op := Op.load 3 (Operand.tmp 79), type := 3, pos := _, after := #[{ on := 14, ground := Ground.data }, { on := 6, ground := Ground.guard }], guard := some (6, false) }) (v := undef) rfl (by kernel_rfl) (by kernel_rfl) (by kernel_rfl) (fun _ _ _ h => h)
                (Or.inr ⟨by rfl, rfl⟩) hHeld ?_
              try simp only [Act.put, List.setIfInBounds_toArray, List.set_cons_zero, List.set_cons_succ]
              refine wpAnyH_take (i := 16) (oi := { dst := some 81, op := Op.binOp BinOp.gtr 3 (Operand.tmp 76) (Operand.tmp 80) 3, type := 4, pos := _, after := #[{ on := 11, ground := Ground.data }, { on := 15, ground := Ground.data }, { on := 6, ground := Ground.guard }], guard := some (6, false) }) (v := undef) rfl (by kernel_rfl) (by kernel_rfl) (by kernel_rfl) (fun _ _ _ h => h)
                (Or.inr ⟨by rfl, rfl⟩) hHeld ?_
              try simp only [Act.put, List.setIfInBounds_toArray, List.set_cons_zero, List.set_cons_succ]
              refine wpAnyH_take (i := 17) (oi := { dst := some 82, op := Op.pick (Operand.tmp 71) (Operand.const (Value.bool true)) (Operand.tmp 81), type := 4, pos := _, after := #[{ on := 6, ground := Ground.data }, { on := 16, ground := Ground.data }], guard := none }) (v := .bool true) rfl (by kernel_rfl) (by kernel_rfl) (by kernel_rfl) (fun _ _ _ h => h) (Or.inl ⟨by rfl, ?_⟩) hHeld ?_
              · intro u hu
                go_simp
              try simp only [Act.put, List.setIfInBounds_toArray, List.set_cons_zero, List.set_cons_succ]
              refine wpAnyH_done (by kernel_rfl) ?_ _
              have B9 := bnext (bnext b1 B (Nat.le_refl _)) hHeld (Nat.le_refl _)
              go_wp2_with fail
              go_returns
              have hb2 := bad B9 hbd.out
              exact ⟨by rw [hb2.1.out, hb2.2.1.out]; rfl, hb2.2.2⟩
            · by_cases hx2 : Z.last < x
              · have hbd : Hid (Z.addOk p = false) := (by unfold GZ.addOk; rw [hno (by rw [hst]; simp; omega)]; simp : Z.addOk p = false)
                refine wpAnyH_take (i := 0) (oi := { dst := some 65, op := Op.fieldAddr 30 (Operand.tmp 3) 5, type := 0, pos := _, after := #[], guard := none }) (v := .pointer (some ⟨g1, 5, none⟩)) rfl (by kernel_rfl) (by kernel_rfl) (by kernel_rfl) (fun _ _ _ h => h) (Or.inl ⟨by rfl, ?_⟩) hHeld ?_
                · intro u hu
                  go_simp
                try simp only [Act.put, List.setIfInBounds_toArray, List.set_cons_zero, List.set_cons_succ]
                refine wpAnyH_take (i := 1) (oi := { dst := some 66, op := Op.load 28 (Operand.tmp 65), type := 28, pos := _, after := #[{ on := 0, ground := Ground.data }], guard := none }) (v := .slice (some ⟨nb, no, none⟩) p.needs.length nc) rfl (by kernel_rfl) (by kernel_rfl) (by kernel_rfl) (fun _ _ _ h => h) (Or.inl ⟨by rfl, ?_⟩) hHeld ?_
                · intro u hu
                  have x1 := (Stp.of_below hu (fun _ => False)).cell k5 id; go_simp
                try simp only [Act.put, List.setIfInBounds_toArray, List.set_cons_zero, List.set_cons_succ]
                refine wpAnyH_take (i := 2) (oi := { dst := some 67, op := Op.move (Operand.tmp 7), type := 3, pos := _, after := #[], guard := none }) (v := .int .i64 (i : Int)) rfl (by kernel_rfl) (by kernel_rfl) (by kernel_rfl) (fun _ _ _ h => h) (Or.inl ⟨by rfl, ?_⟩) hHeld ?_
                · intro u hu
                  go_simp
                try simp only [Act.put, List.setIfInBounds_toArray, List.set_cons_zero, List.set_cons_succ]
                refine wpAnyH_take (i := 3) (oi := { dst := some 68, op := Op.indexAddr 28 (Operand.tmp 66) (Operand.tmp 67), type := 0, pos := _, after := #[{ on := 1, ground := Ground.data }, { on := 2, ground := Ground.data }], guard := none }) (v := .pointer (some ⟨nb, no + i, none⟩)) rfl (by kernel_rfl) (by kernel_rfl) (by kernel_rfl) (fun _ _ _ h => h) (Or.inl ⟨by rfl, ?_⟩) hHeld ?_
                · intro u hu
                  go_simp
                try simp only [Act.put, List.setIfInBounds_toArray, List.set_cons_zero, List.set_cons_succ]
                refine wpAnyH_take (i := 4) (oi := { dst := some 69, op := Op.load 3 (Operand.tmp 68), type := 3, pos := _, after := #[{ on := 3, ground := Ground.data }], guard := none }) (v := .int .i64 x) rfl (by kernel_rfl) (by kernel_rfl) (by kernel_rfl) (fun _ _ _ h => h) (Or.inl ⟨by rfl, ?_⟩) hHeld ?_
                · intro u hu
                  have x1 := (Stp.of_below hu (fun _ => False)).cell cn id; go_simp
                try simp only [Act.put, List.setIfInBounds_toArray, List.set_cons_zero, List.set_cons_succ]
                refine wpAnyH_take (i := 5) (oi := { dst := some 70, op := Op.binOp BinOp.lss 3 (Operand.tmp 69) (Operand.const (Value.int IntKind.i64 1)) 3, type := 4, pos := _, after := #[{ on := 4, ground := Ground.data }], guard := none }) (v := .bool false) rfl (by kernel_rfl) (by kernel_rfl) (by kernel_rfl) (fun _ _ _ h => h) (Or.inl ⟨by rfl, ?_⟩) hHeld ?_
                · intro u hu
                  go_simp
                try simp only [Act.put, List.setIfInBounds_toArray, List.set_cons_zero, List.set_cons_succ]
                refine wpAnyH_take (i := 6) (oi := { dst := some 71, op := Op.move (Operand.tmp 70), type := 4, pos := _, after := #[{ on := 5, ground := Ground.data }], guard := none }) (v := .bool false) rfl (by kernel_rfl) (by kernel_rfl) (by kernel_rfl) (fun _ _ _ h => h) (Or.inl ⟨by rfl, ?_⟩) hHeld ?_
                · intro u hu
                  go_simp
                try simp only [Act.put, List.setIfInBounds_toArray, List.set_cons_zero, List.set_cons_succ]
                refine wpAnyH_take (i := 7) (oi := { dst := some 72, op := Op.fieldAddr 30 (Operand.tmp 3) 5, type := 0, pos := _, after := #[{ on := 6, ground := Ground.guard }], guard := some (6, false) }) (v := .pointer (some ⟨g1, 5, none⟩)) rfl (by kernel_rfl) (by kernel_rfl) (by kernel_rfl) (fun _ _ _ h => h) (Or.inl ⟨by rfl, ?_⟩) hHeld ?_
                · intro u hu
                  go_simp
                try simp only [Act.put, List.setIfInBounds_toArray, List.set_cons_zero, List.set_cons_succ]
                refine wpAnyH_take (i := 8) (oi := { dst := some 73, op := Op.load 28 (Operand.tmp 72), type := 28, pos := _, after := #[{ on := 7, ground := Ground.data }, { on := 6, ground := Ground.guard }], guard := some (6, false) }) (v := .slice (some ⟨nb, no, none⟩) p.needs.length nc) rfl (by kernel_rfl) (by kernel_rfl) (by kernel_rfl) (fun _ _ _ h => h) (Or.inl ⟨by rfl, ?_⟩) hHeld ?_
                · intro u hu
                  have x1 := (Stp.of_below hu (fun _ => False)).cell k5 id; go_simp
                try simp only [Act.put, List.setIfInBounds_toArray, List.set_cons_zero, List.set_cons_succ]
                refine wpAnyH_take (i := 9) (oi := { dst := some 74, op := Op.move (Operand.tmp 7), type := 3, pos := _, after := #[{ on := 6, ground := Ground.guard }], guard := some (6, false) }) (v := .int .i64 (i : Int)) rfl (by kernel_rfl) (by kernel_rfl) (by kernel_rfl) (fun _ _ _ h => h) (Or.inl ⟨by rfl, ?_⟩) hHeld ?_
                · intro u hu
                  go_simp
                try simp only [Act.put, List.setIfInBounds_toArray, List.set_cons_zero, List.set_cons_succ]
                refine wpAnyH_take (i := 10) (oi := { dst := some 75, op := Op.indexAddr 28 (Operand.tmp 73) (Operand.tmp 74), type := 0, pos := _, after := #[{ on := 8, ground := Ground.data }, { on := 9, ground := Ground.data }, { on := 6, ground := Ground.guard }], guard := some (6, false) }) (v := .pointer (some ⟨nb, no + i, none⟩)) rfl (by kernel_rfl) (by kernel_rfl) (by kernel_rfl) (fun _ _ _ h => h) (Or.inl ⟨by rfl, ?_⟩) hHeld ?_
                · intro u hu
                  go_simp
                try simp only [Act.put, List.setIfInBounds_toArray, List.set_cons_zero, List.set_cons_succ]
                refine wpAnyH_take (i := 11) (oi := { dst := some 76, op := Op.load 3 (Operand.tmp 75), type := 3, pos := _, after := #[{ on := 10, ground := Ground.data }, { on := 6, ground := Ground.guard }], guard := some (6, false) }) (v := .int .i64 x) rfl (by kernel_rfl) (by kernel_rfl) (by kernel_rfl) (fun _ _ _ h => h) (Or.inl ⟨by rfl, ?_⟩) hHeld ?_
                · intro u hu
                  have x1 := (Stp.of_below hu (fun _ => False)).cell cn id; go_simp
                try simp only [Act.put, List.setIfInBounds_toArray, List.set_cons_zero, List.set_cons_succ]
                refine wpAnyH_take (i := 12) (oi := { dst := some 77, op := Op.move (Operand.tmp 0), type := 25, pos := _, after := #[{ on := 6, ground := Ground.guard }], guard := some (6, false) }) (v := .pointer (some ⟨g, 0, none⟩)) rfl (by kernel_rfl) (by kernel_rfl) (by kernel_rfl) (fun _ _ _ h => h) (Or.inl ⟨by rfl, ?_⟩) hHeld ?_
                · intro u hu
                  go_simp
                try simp only [Act.put, List.setIfInBounds_toArray, List.set_cons_zero, List.set_cons_succ]
                refine wpAnyH_take (i := 13) (oi := { dst := some 78, op := Op.nilCheck (Operand.tmp 77), type := 0, pos := _, after := #[{ on := 12, ground := Ground.data }, { on := 6, ground := Ground.guard }], guard := some (6, false) }) (v := .pointer (some ⟨g, 0, none⟩)) rfl (by kernel_rfl) (by kernel_rfl) (by kernel_rfl) (fun _ _ _ h => h) (Or.inl ⟨by rfl, ?_⟩) hHeld ?_
                · intro u hu
                  go_simp
                try simp only [Act.put, List.setIfInBounds_toArray, List.set_cons_zero, List.set_cons_succ]
                refine wpAnyH_take (i := 14) (oi := { dst := some 79, op := Op.fieldAddr 48 (Operand.tmp 78) 0, type := 0, pos := _, after := #[{ on := 13, ground := Ground.data }, { on := 6, ground := Ground.guard }], guard := some (6, false) }) (v := .pointer (some ⟨g, 0, none⟩)) rfl (by kernel_rfl) (by kernel_rfl) (by kernel_rfl) (fun _ _ _ h => h) (Or.inl ⟨by rfl, ?_⟩) hHeld ?_
                · intro u hu
                  go_simp
                try simp only [Act.put, List.setIfInBounds_toArray, List.set_cons_zero, List.set_cons_succ]
                refine wpAnyH_take (i := 15) (oi := { dst := some 80, op := Op.load 3 (Operand.tmp 79), type := 3, pos := _, after := #[{ on := 14, ground := Ground.data }, { on := 6, ground := Ground.guard }], guard := some (6, false) }) (v := .int .i64 Z.last) rfl (by kernel_rfl) (by kernel_rfl) (by kernel_rfl) (fun _ _ _ h => h) (Or.inl ⟨by rfl, ?_⟩) hHeld ?_
                · intro u hu
                  have x1 := (Stp.of_below hu (fun _ => False)).cell z0 id; go_simp
                try simp only [Act.put, List.setIfInBounds_toArray, List.set_cons_zero, List.set_cons_succ]
                refine wpAnyH_take (i := 16) (oi := { dst := some 81, op := Op.binOp BinOp.gtr 3 (Operand.tmp 76) (Operand.tmp 80) 3, type := 4, pos := _, after := #[{ on := 11, ground := Ground.data }, { on := 15, ground := Ground.data }, { on := 6, ground := Ground.guard }], guard := some (6, false) }) (v := .bool true) rfl (by kernel_rfl) (by kernel_rfl) (by kernel_rfl) (fun _ _ _ h => h) (Or.inl ⟨by rfl, ?_⟩) hHeld ?_
                · intro u hu
                  go_simp
                try simp only [Act.put, List.setIfInBounds_toArray, List.set_cons_zero, List.set_cons_succ]
                refine wpAnyH_take (i := 17) (oi := { dst := some 82, op := Op.pick (Operand.tmp 71) (Operand.const (Value.bool true)) (Operand.tmp 81), type := 4, pos := _, after := #[{ on := 6, ground := Ground.data }, { on := 16, ground := Ground.data }], guard := none }) (v := .bool true) rfl (by kernel_rfl) (by kernel_rfl) (by kernel_rfl) (fun _ _ _ h => h) (Or.inl ⟨by rfl, ?_⟩) hHeld ?_
                · intro u hu
                  go_simp
                try simp only [Act.put, List.setIfInBounds_toArray, List.set_cons_zero, List.set_cons_succ]
                refine wpAnyH_done (by kernel_rfl) ?_ _
                have B9 := bnext (bnext b1 B (Nat.le_refl _)) hHeld (Nat.le_refl _)
                go_wp2_with fail
                go_returns
                have hb2 := bad B9 hbd.out
                exact ⟨by rw [hb2.1.out, hb2.2.1.out]; rfl, hb2.2.2⟩
              · have hst2 : givn Z.last (p.needs.take (i + 1)) = true := by rw [hst]; simp; omega
                refine wpAnyH_take (i := 0) (oi := { dst := some 65, op := Op.fieldAddr 30 (Operand.tmp 3) 5, type := 0, pos := _, after := #[], guard := none }) (v := .pointer (some ⟨g1, 5, none⟩)) rfl (by kernel_rfl) (by kernel_rfl) (by kernel_rfl) (fun _ _ _ h => h) (Or.inl ⟨by rfl, ?_⟩) hHeld ?_
                · intro u hu
                  go_simp
                try simp only [Act.put, List.setIfInBounds_toArray, List.set_cons_zero, List.set_cons_succ]
                refine wpAnyH_take (i := 1) (oi := { dst := some 66, op := Op.load 28 (Operand.tmp 65), type := 28, pos := _, after := #[{ on := 0, ground := Ground.data }], guard := none }) (v := .slice (some ⟨nb, no, none⟩) p.needs.length nc) rfl (by kernel_rfl) (by kernel_rfl) (by kernel_rfl) (fun _ _ _ h => h) (Or.inl ⟨by rfl, ?_⟩) hHeld ?_
                · intro u hu
                  have x1 := (Stp.of_below hu (fun _ => False)).cell k5 id; go_simp
                try simp only [Act.put, List.setIfInBounds_toArray, List.set_cons_zero, List.set_cons_succ]
                refine wpAnyH_take (i := 2) (oi := { dst := some 67, op := Op.move (Operand.tmp 7), type := 3, pos := _, after := #[], guard := none }) (v := .int .i64 (i : Int)) rfl (by kernel_rfl) (by kernel_rfl) (by kernel_rfl) (fun _ _ _ h => h) (Or.inl ⟨by rfl, ?_⟩) hHeld ?_
                · intro u hu
                  go_simp
                try simp only [Act.put, List.setIfInBounds_toArray, List.set_cons_zero, List.set_cons_succ]
                refine wpAnyH_take (i := 3) (oi := { dst := some 68, op := Op.indexAddr 28 (Operand.tmp 66) (Operand.tmp 67), type := 0, pos := _, after := #[{ on := 1, ground := Ground.data }, { on := 2, ground := Ground.data }], guard := none }) (v := .pointer (some ⟨nb, no + i, none⟩)) rfl (by kernel_rfl) (by kernel_rfl) (by kernel_rfl) (fun _ _ _ h => h) (Or.inl ⟨by rfl, ?_⟩) hHeld ?_
                · intro u hu
                  go_simp
                try simp only [Act.put, List.setIfInBounds_toArray, List.set_cons_zero, List.set_cons_succ]
                refine wpAnyH_take (i := 4) (oi := { dst := some 69, op := Op.load 3 (Operand.tmp 68), type := 3, pos := _, after := #[{ on := 3, ground := Ground.data }], guard := none }) (v := .int .i64 x) rfl (by kernel_rfl) (by kernel_rfl) (by kernel_rfl) (fun _ _ _ h => h) (Or.inl ⟨by rfl, ?_⟩) hHeld ?_
                · intro u hu
                  have x1 := (Stp.of_below hu (fun _ => False)).cell cn id; go_simp
                try simp only [Act.put, List.setIfInBounds_toArray, List.set_cons_zero, List.set_cons_succ]
                refine wpAnyH_take (i := 5) (oi := { dst := some 70, op := Op.binOp BinOp.lss 3 (Operand.tmp 69) (Operand.const (Value.int IntKind.i64 1)) 3, type := 4, pos := _, after := #[{ on := 4, ground := Ground.data }], guard := none }) (v := .bool false) rfl (by kernel_rfl) (by kernel_rfl) (by kernel_rfl) (fun _ _ _ h => h) (Or.inl ⟨by rfl, ?_⟩) hHeld ?_
                · intro u hu
                  go_simp
                try simp only [Act.put, List.setIfInBounds_toArray, List.set_cons_zero, List.set_cons_succ]
                refine wpAnyH_take (i := 6) (oi := { dst := some 71, op := Op.move (Operand.tmp 70), type := 4, pos := _, after := #[{ on := 5, ground := Ground.data }], guard := none }) (v := .bool false) rfl (by kernel_rfl) (by kernel_rfl) (by kernel_rfl) (fun _ _ _ h => h) (Or.inl ⟨by rfl, ?_⟩) hHeld ?_
                · intro u hu
                  go_simp
                try simp only [Act.put, List.setIfInBounds_toArray, List.set_cons_zero, List.set_cons_succ]
                refine wpAnyH_take (i := 7) (oi := { dst := some 72, op := Op.fieldAddr 30 (Operand.tmp 3) 5, type := 0, pos := _, after := #[{ on := 6, ground := Ground.guard }], guard := some (6, false) }) (v := .pointer (some ⟨g1, 5, none⟩)) rfl (by kernel_rfl) (by kernel_rfl) (by kernel_rfl) (fun _ _ _ h => h) (Or.inl ⟨by rfl, ?_⟩) hHeld ?_
                · intro u hu
                  go_simp
                try simp only [Act.put, List.setIfInBounds_toArray, List.set_cons_zero, List.set_cons_succ]
                refine wpAnyH_take (i := 8) (oi := { dst := some 73, op := Op.load 28 (Operand.tmp 72), type := 28, pos := _, after := #[{ on := 7, ground := Ground.data }, { on := 6, ground := Ground.guard }], guard := some (6, false) }) (v := .slice (some ⟨nb, no, none⟩) p.needs.length nc) rfl (by kernel_rfl) (by kernel_rfl) (by kernel_rfl) (fun _ _ _ h => h) (Or.inl ⟨by rfl, ?_⟩) hHeld ?_
                · intro u hu
                  have x1 := (Stp.of_below hu (fun _ => False)).cell k5 id; go_simp
                try simp only [Act.put, List.setIfInBounds_toArray, List.set_cons_zero, List.set_cons_succ]
                refine wpAnyH_take (i := 9) (oi := { dst := some 74, op := Op.move (Operand.tmp 7), type := 3, pos := _, after := #[{ on := 6, ground := Ground.guard }], guard := some (6, false) }) (v := .int .i64 (i : Int)) rfl (by kernel_rfl) (by kernel_rfl) (by kernel_rfl) (fun _ _ _ h => h) (Or.inl ⟨by rfl, ?_⟩) hHeld ?_
                · intro u hu
                  go_simp
                try simp only [Act.put, List.setIfInBounds_toArray, List.set_cons_zero, List.set_cons_succ]
                refine wpAnyH_take (i := 10) (oi := { dst := some 75, op := Op.indexAddr 28 (Operand.tmp 73) (Operand.tmp 74), type := 0, pos := _, after := #[{ on := 8, ground := Ground.data }, { on := 9, ground := Ground.data }, { on := 6, ground := Ground.guard }], guard := some (6, false) }) (v := .pointer (some ⟨nb, no + i, none⟩)) rfl (by kernel_rfl) (by kernel_rfl) (by kernel_rfl) (fun _ _ _ h => h) (Or.inl ⟨by rfl, ?_⟩) hHeld ?_
                · intro u hu
                  go_simp
                try simp only [Act.put, List.setIfInBounds_toArray, List.set_cons_zero, List.set_cons_succ]
                refine wpAnyH_take (i := 11) (oi := { dst := some 76, op := Op.load 3 (Operand.tmp 75), type := 3, pos := _, after := #[{ on := 10, ground := Ground.data }, { on := 6, ground := Ground.guard }], guard := some (6, false) }) (v := .int .i64 x) rfl (by kernel_rfl) (by kernel_rfl) (by kernel_rfl) (fun _ _ _ h => h) (Or.inl ⟨by rfl, ?_⟩) hHeld ?_
                · intro u hu
                  have x1 := (Stp.of_below hu (fun _ => False)).cell cn id; go_simp
                try simp only [Act.put, List.setIfInBounds_toArray, List.set_cons_zero, List.set_cons_succ]
                refine wpAnyH_take (i := 12) (oi := { dst := some 77, op := Op.move (Operand.tmp 0), type := 25, pos := _, after := #[{ on := 6, ground := Ground.guard }], guard := some (6, false) }) (v := .pointer (some ⟨g, 0, none⟩)) rfl (by kernel_rfl) (by kernel_rfl) (by kernel_rfl) (fun _ _ _ h => h) (Or.inl ⟨by rfl, ?_⟩) hHeld ?_
                · intro u hu
                  go_simp
                try simp only [Act.put, List.setIfInBounds_toArray, List.set_cons_zero, List.set_cons_succ]
                refine wpAnyH_take (i := 13) (oi := { dst := some 78, op := Op.nilCheck (Operand.tmp 77), type := 0, pos := _, after := #[{ on := 12, ground := Ground.data }, { on := 6, ground := Ground.guard }], guard := some (6, false) }) (v := .pointer (some ⟨g, 0, none⟩)) rfl (by kernel_rfl) (by kernel_rfl) (by kernel_rfl) (fun _ _ _ h => h) (Or.inl ⟨by rfl, ?_⟩) hHeld ?_
                · intro u hu
                  go_simp
                try simp only [Act.put, List.setIfInBounds_toArray, List.set_cons_zero, List.set_cons_succ]
                refine wpAnyH_take (i := 14) (oi := { dst := some 79, op := Op.fieldAddr 48 (Operand.tmp 78) 0, type := 0, pos := _, after := #[{ on := 13, ground := Ground.data }, { on := 6, ground := Ground.guard }], guard := some (6, false) }) (v := .pointer (some ⟨g, 0, none⟩)) rfl (by kernel_rfl) (by kernel_rfl) (by kernel_rfl) (fun _ _ _ h => h) (Or.inl ⟨by rfl, ?_⟩) hHeld ?_
                · intro u hu
                  go_simp
                try simp only [Act.put, List.setIfInBounds_toArray, List.set_cons_zero, List.set_cons_succ]
                refine wpAnyH_take (i := 15) (oi := { dst := some 80, op := Op.load 3 (Operand.tmp 79), type := 3, pos := _, after := #[{ on := 14, ground := Ground.data }, { on := 6, ground := Ground.guard }], guard := some (6, false) }) (v := .int .i64 Z.last) rfl (by kernel_rfl) (by kernel_rfl) (by kernel_rfl) (fun _ _ _ h => h) (Or.inl ⟨by rfl, ?_⟩) hHeld ?_
                · intro u hu
                  have x1 := (Stp.of_below hu (fun _ => False)).cell z0 id; go_simp
                try simp only [Act.put, List.setIfInBounds_toArray, List.set_cons_zero, List.set_cons_succ]
                refine wpAnyH_take (i := 16) (oi := { dst := some 81, op := Op.binOp BinOp.gtr 3 (Operand.tmp 76) (Operand.tmp 80) 3, type := 4, pos := _, after := #[{ on := 11, ground := Ground.data }, { on := 15, ground := Ground.data }, { on := 6, ground := Ground.guard }], guard := some (6, false) }) (v := .bool false) rfl (by kernel_rfl) (by kernel_rfl) (by kernel_rfl) (fun _ _ _ h => h) (Or.inl ⟨by rfl, ?_⟩) hHeld ?_
                · intro u hu
                  go_simp
                try simp only [Act.put, List.setIfInBounds_toArray, List.set_cons_zero, List.set_cons_succ]
                refine wpAnyH_take (i := 17) (oi := { dst := some 82, op := Op.pick (Operand.tmp 71) (Operand.const (Value.bool true)) (Operand.tmp 81), type := 4, pos := _, after := #[{ on := 6, ground := Ground.data }, { on := 16, ground := Ground.data }], guard := none }) (v := .bool false) rfl (by kernel_rfl) (by kernel_rfl) (by kernel_rfl) (fun _ _ _ h => h) (Or.inl ⟨by rfl, ?_⟩) hHeld ?_
                · intro u hu
                  go_simp
                try simp only [Act.put, List.setIfInBounds_toArray, List.set_cons_zero, List.set_cons_succ]
                refine wpAnyH_done (by kernel_rfl) ?_ _
                have B9 := bnext B hHeld (Nat.le_refl _)
                go_wp2_with fail
                go_roundw
                case rel => exact ⟨i + 1, by omega, by go_num, hst2, B9⟩
                case measure => simp [intOf]; omega
          · have a9 : ¬ (i : Int) < (p.needs.length : Int) := by omega
            rw [List.take_of_length_le (by omega)] at hgv
            have hl0 := H.ok.l0
            have fz := HB.cc.frozen 0
            have s3 : Stp (fun x => x = g) wr (wr.setCell ⟨g, 0, none⟩ (.int .i64 (Z.last + 1))) := (Stp.refl (fun x => x = g) wr).setCell (p := ⟨g, 0, none⟩) (.inl rfl) _
            have H3 := HB.bump hlt
            have hgg : g < w.heap.size := H.cc.lt
            have r3 := rB.step s3 (by omega)
            have m3 := (hpm.later (bnext b1 B (Nat.le_refl _))).step s3 (fun x hx e => hE x hx e)
            have S3 : Stp (fun x => x = g) w (wr.setCell ⟨g, 0, none⟩ (.int .i64 (Z.last + 1))) := (Stp.of_below (bnext b1 B (Nat.le_refl _)) (fun x => x = g)).next s3 (fun x hx => .inl hx)
            have hok : Z.addOk p = true := by unfold GZ.addOk; rw [hft.out, hgv]; rfl
            have eN : Hid (Z.addN p = Z.last + 1) := by show _ = _; unfold GZ.addN; rw [if_pos hok]
            have eE : Hid (Z.addE p = 0) := by show _ = _; unfold GZ.addE; rw [if_pos hok]
            have eZ : Hid (Z.add p = ⟨Z.last + 1, Z.l ++ [{ p with id := Z.last + 1, wr := false }]⟩) := by show _ = _; unfold GZ.add; rw [if_pos hok]
            have u1 : True := trivial
            have u2 : True := trivial
            have u3 : True := trivial
            clear hok bad
            go_upto_region 14 with (first
              | (clear u1; refine at_getP0 (by rfl) _ (by rfl) g1 (by rfl) p ⟨da, p.data.length, dc⟩ ⟨na, p.needs.length, nc⟩ r3 ?_)
              | (go_at_call 51; refine (rown_any m3 hd hn).mono ?_; rintro e w4 ⟨d', n', rfl, m4, b4⟩; have H4 := H3.later b4)
              | (clear u2; refine at_newP (by rfl) (by rfl) ?_; intro g8 w5 a3 a4 r5 b5; have H5 := H4.later b5)
              | (clear u3; refine at_putP (by rfl) _ _ (by rfl) g8 (by rfl) p d' n' (by rfl) _ r5 rfl ?_; intro w6 r6 s6
                 have g8l : w4.heap.size ≤ g8 := a3
                 have hg8 : g8 ≠ g := by have := H4.cc.lt; omega
                 have H6 := H5.step s6 (fun e => hg8 e.symm) (fun x hx e => by have := H4.lt x hx; omega)
                 obtain ⟨y0, y1⟩ := H6.cells
                 simp only at y0
                 have y3 := (Pt.cells r6).1
                 have y4 := r6.frozen 0
                 have y5 := (Pt.cells r6).2.2.2.2.2.2.2.2
                 have y6 := r6.frozen 8))
            have r7 : Cs ((w6.setCell ⟨g8, 0, none⟩ (.int .i64 (Z.last + 1))).setCell ⟨g8, 8, none⟩ (.bool false)) g8 (({ p with id := Z.last + 1, wr := false } : Pt).cs d' n') := (r6.set 0 (.int .i64 (Z.last + 1)) rfl).set 8 (.bool false) rfl
            have s7 : Stp (fun x => x = g8) w6 ((w6.setCell ⟨g8, 0, none⟩ (.int .i64 (Z.last + 1))).setCell ⟨g8, 8, none⟩ (.bool false)) := ((Stp.refl (fun x => x = g8) w6).setCell (p := ⟨g8, 0, none⟩) (.inl rfl) _).setCell (p := ⟨g8, 8, none⟩) (.inl rfl) _
            have H7 := H6.step s7 (fun e => hg8 e.symm) (fun x hx e => by have := H4.lt x hx; omega)
            have z3 : (wr.setCell ⟨g, 0, none⟩ (.int .i64 (Z.last + 1))).heap.size = wr.heap.size := by simp
            have hM : ∀ x, Made (wr.setCell ⟨g, 0, none⟩ (.int .i64 (Z.last + 1))) w4 x → x ≠ g8 := fun x hx e => by have := hx.2; omega
            have m7 := ((m4.later b5).step s6 hM).step s7 hM
            have S7 : Stp (fun x => x = g) w ((w6.setCell ⟨g8, 0, none⟩ (.int .i64 (Z.last + 1))).setCell ⟨g8, 8, none⟩ (.bool false)) := (((S3.next (Stp.of_below (bnext b4 b5 (Nat.le_refl _)) (fun x => x = g)) (fun x hx => .inl hx)).next s6 (fun x hx => .inr (by have := S3.size; have := b4.size; omega))).next s7 (fun x hx => .inr (by have := S3.size; have := b4.size; omega)))
            have hszB := (bnext b1 B (Nat.le_refl _)).size
            have hM2 : ∀ x, Made (wr.setCell ⟨g, 0, none⟩ (.int .i64 (Z.last + 1))) w4 x → w.heap.size ≤ x ∧ x < w6.heap.size := fun x hx => ⟨by have := hx.1; omega, by have := hx.2; have := b5.size; have := s6.size; omega⟩
            have hnil : a = none → L.length = 0 ∧ c = 0 := by
              obtain ⟨a', c', e, _, h⟩ := H.row.shape
              injection e with e1 e2 e3
              subst e1; subst e3; exact h
            have hfew := H.few
            have z7 := s7.size
            have l8 := r7.lt
            clear y0 y1 y3 y4 y5 y6 r6 s6 s7 H6 H5 H4 H3 m4 m3 r5 b5 b4 r3 s3 S3 z3 hM fz z0 z1 k5 rB HB
            generalize (w6.setCell ⟨g8, 0, none⟩ (.int .i64 (Z.last + 1))).setCell ⟨g8, 8, none⟩ (.bool false) = W at *
            have zW := S7.size
            have HS : ∀ u, Stp (fun x => W.heap.size ≤ x) W u → Rf u g ⟨Z.last + 1, Z.l⟩ a c L R := fun u hu => H7.step hu (fun e => by have := H7.cc.lt; omega) (fun x hx e => by have := H7.lt x hx; omega)
            have RS : ∀ u, Stp (fun x => W.heap.size ≤ x) W u → Cs u g8 (({ p with id := Z.last + 1, wr := false } : Pt).cs d' n') := fun u hu => r7.step hu (fun e => by omega)
            have FIN : ∀ w12 xa xn xc, Stp (fun x => W.heap.size ≤ x) W w12 → OwP w12 (.slice xa xn xc) (L ++ [⟨{ p with id := Z.last + 1, wr := false }, d', n'⟩]) → New W.heap.size (.slice xa xn xc) → Rh (w12.setCell ⟨g, 1, none⟩ (.slice xa xn xc)) g (Z.add p) (fun x => (R x ∨ Made w (w12.setCell ⟨g, 1, none⟩ (.slice xa xn xc)) x) ∧ x ≠ g) ∧ Stp (fun x => x = g) w (w12.setCell ⟨g, 1, none⟩ (.slice xa xn xc)) ∧ (w12.setCell ⟨g, 1, none⟩ (.slice xa xn xc)).cell? ⟨g8, 0, none⟩ = some (.int .i64 (Z.last + 1)) := fun w12 xa xn xc hs ho hn12 => by
              have s8 : Stp (fun x => x = g) w12 (w12.setCell ⟨g, 1, none⟩ (.slice xa xn xc)) := (Stp.refl (fun x => x = g) w12).setCell (p := ⟨g, 1, none⟩) (.inl rfl) _
              have z8 : (w12.setCell ⟨g, 1, none⟩ (.slice xa xn xc)).heap.size = w12.heap.size := by simp
              have zs := hs.size
              have hgW : g < W.heap.size := H7.cc.lt
              have hc : Cs (w12.setCell ⟨g, 1, none⟩ (.slice xa xn xc)) g [.int .i64 (Z.last + 1), .slice xa xn xc] := (HS _ hs).cc.set 1 _ rfl
              have hM3 : ∀ x, Made (wr.setCell ⟨g, 0, none⟩ (.int .i64 (Z.last + 1))) w4 x → Made w (w12.setCell ⟨g, 1, none⟩ (.slice xa xn xc)) x ∧ x ≠ g := fun x hx => ⟨⟨(hM2 x hx).1, by have := (hM2 x hx).2; omega⟩, fun e => by have := (hM2 x hx).1; omega⟩
              have m12 : PtM (w12.setCell ⟨g, 1, none⟩ (.slice xa xn xc)) (fun x => Made w (w12.setCell ⟨g, 1, none⟩ (.slice xa xn xc)) x ∧ x ≠ g) p d' n' := ((m7.step hs (fun x hx e => by have := (hM2 x hx).2; omega)).step s8 (fun x hx e => (hM3 x hx).2 e)).mono hM3
              refine ⟨?_, (S7.next hs (fun x hx => .inr (by omega))).next s8 (fun x hx => .inl hx), ?_⟩
              · rw [eZ.out]
                exact H7.added zW H.ok hlt hft.out hgv hp hn (ho.step s8 (fun r hr e => by have := hn12 r hr; omega)) (fun r hr => ⟨⟨by have := hn12 r hr; omega, by have := ho.lt hr; omega⟩, fun e => by have := hn12 r hr; omega⟩) hc ((hs.mono (fun x hx => .inl (.inr hx))).next s8 (fun x hx => .inl (.inl hx))) m12
              · exact ((RS _ hs).step s8 (fun e => hg8 e)).cell 0 _ rfl
            clear hM2 m7 S7 H7 r7
            go_cut [98] (fun _ wx => Rh wx g (Z.add p) (fun x => (R x ∨ Made w wx x) ∧ x ≠ g) ∧ Stp (fun x => x = g) w wx ∧ wx.cell? ⟨g8, 0, none⟩ = some (.int .i64 (Z.last + 1)))
            case first =>
              refine wp_region_last (S := fun u => Stp (fun x => W.heap.size ≤ x) W u) _ _ (by simp only [List.pop_toArray, List.dropLast_cons_cons, List.dropLast_singleton]; rfl) (by simp only [List.back?_toArray, List.getLast?_cons_cons, List.getLast?_singleton]; rfl) (by kernel_rfl) (by kernel_rfl) (Stp.refl _ _).drew (fun hHeld => ?_)
              refine wpAnyH_take (i := 0) (oi := { dst := some 98, op := Op.move (Operand.tmp 0), type := 25, pos := _, after := #[], guard := none }) (v := .pointer (some ⟨g, 0, none⟩)) rfl (by kernel_rfl) (by kernel_rfl) (by kernel_rfl) (fun _ _ _ h => h) (Or.inl ⟨by rfl, ?_⟩) hHeld ?_
              · intro u hu
                go_simp
              try simp only [Act.put, List.setIfInBounds_toArray, List.set_cons_zero, List.set_cons_succ]
              refine wpAnyH_take (i := 2) (oi := { dst := some 100, op := Op.move (Operand.tmp 0), type := 25, pos := _, after := #[], guard := none }) (v := .pointer (some ⟨g, 0, none⟩)) rfl (by kernel_rfl) (by kernel_rfl) (by kernel_rfl) (fun _ _ _ h => h) (Or.inl ⟨by rfl, ?_⟩) hHeld ?_
              · intro u hu
                go_simp
              try simp only [Act.put, List.setIfInBounds_toArray, List.set_cons_zero, List.set_cons_succ]
              refine wpAnyH_take (i := 3) (oi := { dst := some 101, op := Op.nilCheck (Operand.tmp 100), type := 0, pos := _, after := #[{ on := 2, ground := Ground.data }], guard := none }) (v := .pointer (some ⟨g, 0, none⟩)) rfl (by kernel_rfl) (by kernel_rfl) (by kernel_rfl) (fun _ _ _ h => h) (Or.inl ⟨by rfl, ?_⟩) hHeld ?_
              · intro u hu
                go_simp
              try simp only [Act.put, List.setIfInBounds_toArray, List.set_cons_zero, List.set_cons_succ]
              refine wpAnyH_take (i := 4) (oi := { dst := some 102, op := Op.fieldAddr 48 (Operand.tmp 101) 1, type := 0, pos := _, after := #[{ on := 3, ground := Ground.data }], guard := none }) (v := .pointer (some ⟨g, 1, none⟩)) rfl (by kernel_rfl) (by kernel_rfl) (by kernel_rfl) (fun _ _ _ h => h) (Or.inl ⟨by rfl, ?_⟩) hHeld ?_
              · intro u hu
                go_simp
              try simp only [Act.put, List.setIfInBounds_toArray, List.set_cons_zero, List.set_cons_succ]
              refine wpAnyH_take (i := 5) (oi := { dst := some 103, op := Op.load 46 (Operand.tmp 102), type := 46, pos := _, after := #[{ on := 4, ground := Ground.data }], guard := none }) (v := .slice a L.length c) rfl (by kernel_rfl) (by kernel_rfl) (by kernel_rfl) (fun _ _ _ h => h) (Or.inl ⟨by rfl, ?_⟩) hHeld ?_
              · intro u hu
                have x1 := (HS _ hu).cells.2; go_simp
              try simp only [Act.put, List.setIfInBounds_toArray, List.set_cons_zero, List.set_cons_succ]
              refine wpAnyH_take (i := 7) (oi := { dst := some 105, op := Op.load 30 (Operand.tmp 8), type := 30, pos := _, after := #[], guard := none }) (v := .agg (({ p with id := Z.last + 1, wr := false } : Pt).cs d' n').toArray) rfl (by kernel_rfl) (by kernel_rfl) (by kernel_rfl) (fun _ _ _ h => h)
                (yields_P (by rfl) _ (by rfl) g8 (by rfl) { p with id := Z.last + 1, wr := false } d' n' (fun u hu => RS u hu)) hHeld ?_
              try simp only [Act.put, List.setIfInBounds_toArray, List.set_cons_zero, List.set_cons_succ]
              refine wpAnyH_ready (rs := [1, 8]) (by kernel_rfl) (by simp) ?_
              refine (AllReadyH.cons (o := { dst := some 99, op := Op.buildSlice 46 0 #[], type := 46, pos := _, after := #[], guard := none }) rfl (fun K hK => ?_) (AllReadyH.cons (o := { dst := some 106, op := Op.buildSlice 46 1 #[(0, Operand.tmp 105)], type := 46, pos := _, after := #[{ on := 7, ground := Ground.data }], guard := none }) rfl (fun K hK => ?_) AllReadyH.nil))
              · skip
                have zH1 := hHeld.size
                refine step_bs0P rfl (by rfl) ?_
                intro g9 w9 e9 o9 b9
                have l9 : g9 < w9.heap.size := o9.lt rfl
                have W9 : W.heap.size ≤ g9 := Nat.le_trans zH1 e9
                refine hK.out _ _ (hHeld.next (Stp.of_below b9 (fun _ => False)) (fun x e => e.elim)) (fun hHeld => ?_)
                clear hK K
                have zz9 := b9.size
                try (replace q10 := q10.later b9)
                try simp only [Act.put, List.setIfInBounds_toArray, List.set_cons_zero, List.set_cons_succ]
                refine wpAnyH_ready (rs := [6, 8]) (by kernel_rfl) (by simp) ?_
                refine (AllReadyH.cons (o := { dst := some 104, op := Op.call { callee := Callee.builtin Builtin.append, args := #[Operand.tmp 99, Operand.tmp 103], argTypes := #[46, 46] }, type := 46, pos := _, after := #[{ on := 1, ground := Ground.data }, { on := 5, ground := Ground.data }], guard := none }) rfl (fun K hK => ?_) (AllReadyH.cons (o := { dst := some 106, op := Op.buildSlice 46 1 #[(0, Operand.tmp 105)], type := 46, pos := _, after := #[{ on := 7, ground := Ground.data }], guard := none }) rfl (fun K hK => ?_) AllReadyH.nil))
                · skip
                  refine step_appR elP W.heap.size rfl _ _ (by rfl) (by rfl) o9 (fun r e => (ob_eq e) ▸ W9) a c (fl L) (by rfl) (fl_len L) hnil (HS _ hHeld).row.news (fl_one L) (by simp only [List.length_nil]; omega) hHeld.size ?_
                  intro v6 w11 hA
                  have o11 : OwP w11 v6 L := ow_11 hA
                  have n11 := hA.2.1
                  have s11 := hA.2.2.2.1
                  refine hK.out _ _ (hHeld.next s11 (fun x e => .inl ((ob_eq e) ▸ W9))) (fun hHeld => ?_)
                  clear hK K
                  have zz11 := s11.size
                  try (replace q10 := q10.step s11 (fun e => by have := ob_eq e; omega))
                  try simp only [Act.put, List.setIfInBounds_toArray, List.set_cons_zero, List.set_cons_succ]
                  refine wpAnyH_ready (rs := [8]) (by kernel_rfl) (by simp) ?_
                  refine (AllReadyH.cons (o := { dst := some 106, op := Op.buildSlice 46 1 #[(0, Operand.tmp 105)], type := 46, pos := _, after := #[{ on := 7, ground := Ground.data }], guard := none }) rfl (fun K hK => ?_) AllReadyH.nil)
                  refine step_bs1P rfl _ (by rfl) ⟨{ p with id := Z.last + 1, wr := false }, d', n'⟩ (by rfl) ?_
                  intro g10 w10 e10 q10 b10
                  have l10 := q10.lt
                  refine hK.out _ _ (hHeld.next (Stp.of_below b10 (fun _ => False)) (fun x e => e.elim)) (fun hHeld => ?_)
                  clear hK K
                  have zz10 := b10.size
                  try (replace o9 := o9.later b10)
                  try (replace o11 := o11.later b10)
                  try simp only [Act.put, List.setIfInBounds_toArray, List.set_cons_zero, List.set_cons_succ]
                  refine wpAnyH_ready (rs := [9]) (by kernel_rfl) (by simp) ?_
                  refine (AllReadyH.cons (o := { dst := some 107, op := Op.call { callee := Callee.builtin Builtin.append, args := #[Operand.tmp 104, Operand.tmp 106], argTypes := #[46, 46] }, type := 46, pos := _, after := #[{ on := 6, ground := Ground.data }, { on := 8, ground := Ground.data }, { on := 6, ground := Ground.chain }], guard := none }) rfl (fun K hK => ?_) AllReadyH.nil)
                  refine step_appR elP W.heap.size rfl _ _ (by rfl) (by rfl) o11 n11 (some ⟨g10, 0, none⟩) 1 (Pe.cs ⟨{ p with id := Z.last + 1, wr := false }, d', n'⟩) (by rfl) (by rfl) (fun e => by cases e) (fun ad e j u hu => by injection e with e; subst e; rw [Addr.add_lit, Nat.zero_add]; exact q10.cell j u hu) (Pe.cs_one _) (by omega) hHeld.size ?_
                  intro v12 w12 hA2
                  have o12 : OwP w12 v12 (L ++ [⟨{ p with id := Z.last + 1, wr := false }, d', n'⟩]) := ow_12 hA2
                  have n12 := hA2.2.1
                  refine hK.out _ _ (hHeld.next hA2.2.2.2.1 (fun x e => .inl (n11 x e))) (fun hHeld => ?_)
                  clear hK K
                  try simp only [Act.put, List.setIfInBounds_toArray, List.set_cons_zero, List.set_cons_succ]
                  refine wpAnyH_take (i := 10) (oi := { dst := some 108, op := Op.nilCheck (Operand.tmp 98), type := 0, pos := _, after := #[{ on := 0, ground := Ground.data }, { on := 0, ground := Ground.phase }, { on := 1, ground := Ground.phase }, { on := 2, ground := Ground.phase }, { on := 3, ground := Ground.phase }, { on := 4, ground := Ground.phase }, { on := 5, ground := Ground.phase }, { on := 6, ground := Ground.phase }, { on := 7, ground := Ground.phase }, { on := 8, ground := Ground.phase }, { on := 9, ground := Ground.phase }], guard := none }) (v := .pointer (some ⟨g, 0, none⟩)) rfl (by kernel_rfl) (by kernel_rfl) (by kernel_rfl) (fun _ _ _ h => h) (Or.inl ⟨by rfl, ?_⟩) hHeld ?_
                  · intro u hu
                    go_simp
                  try simp only [Act.put, List.setIfInBounds_toArray, List.set_cons_zero, List.set_cons_succ]
                  refine wpAnyH_take (i := 11) (oi := { dst := some 109, op := Op.fieldAddr 48 (Operand.tmp 108) 1, type := 0, pos := _, after := #[{ on := 10, ground := Ground.data }, { on := 0, ground := Ground.phase }, { on := 1, ground := Ground.phase }, { on := 2, ground := Ground.phase }, { on := 3, ground := Ground.phase }, { on := 4, ground := Ground.phase }, { on := 5, ground := Ground.phase }, { on := 6, ground := Ground.phase }, { on := 7, ground := Ground.phase }, { on := 8, ground := Ground.phase }, { on := 9, ground := Ground.phase }], guard := none }) (v := .pointer (some ⟨g, 1, none⟩)) rfl (by kernel_rfl) (by kernel_rfl) (by kernel_rfl) (fun _ _ _ h => h) (Or.inl ⟨by rfl, ?_⟩) hHeld ?_
                  · intro u hu
                    go_simp
                  try simp only [Act.put, List.setIfInBounds_toArray, List.set_cons_zero, List.set_cons_succ]
                  refine wpAnyH_done (by kernel_rfl) ?_ _
                  show wpList _ _ _ [_] _ _
                  obtain ⟨xa, xn, xc, rfl⟩ := o12.shape'
                  have fin := FIN w12 xa xn xc hHeld o12 n12
                  have x1 := (HS _ hHeld).cells.2
                  have x2 := (HS _ hHeld).cc.frozen 1
                  refine op_unit (by rfl) (w12.setCell ⟨g, 1, none⟩ (.slice xa xn xc)) (by simp [execOp, Instr.storeAt, Instr.sureAddr]; go_simp) ?_
                  clear x1 x2
                  go_wp2_with fail
                  go_meet
                  exact fin
                · skip
                  refine step_bs1P rfl _ (by rfl) ⟨{ p with id := Z.last + 1, wr := false }, d', n'⟩ (by rfl) ?_
                  intro g10 w10 e10 q10 b10
                  have l10 := q10.lt
                  refine hK.out _ _ (hHeld.next (Stp.of_below b10 (fun _ => False)) (fun x e => e.elim)) (fun hHeld => ?_)
                  clear hK K
                  have zz10 := b10.size
                  try (replace o9 := o9.later b10)
                  try (replace o11 := o11.later b10)
                  try simp only [Act.put, List.setIfInBounds_toArray, List.set_cons_zero, List.set_cons_succ]
                  refine wpAnyH_ready (rs := [6]) (by kernel_rfl) (by simp) ?_
                  refine (AllReadyH.cons (o := { dst := some 104, op := Op.call { callee := Callee.builtin Builtin.append, args := #[Operand.tmp 99, Operand.tmp 103], argTypes := #[46, 46] }, type := 46, pos := _, after := #[{ on := 1, ground := Ground.data }, { on := 5, ground := Ground.data }], guard := none }) rfl (fun K hK => ?_) AllReadyH.nil)
                  refine step_appR elP W.heap.size rfl _ _ (by rfl) (by rfl) o9 (fun r e => (ob_eq e) ▸ W9) a c (fl L) (by rfl) (fl_len L) hnil (HS _ hHeld).row.news (fl_one L) (by simp only [List.length_nil]; omega) hHeld.size ?_
                  intro v6 w11 hA
                  have o11 : OwP w11 v6 L := ow_11 hA
                  have n11 := hA.2.1
                  have s11 := hA.2.2.2.1
                  refine hK.out _ _ (hHeld.next s11 (fun x e => .inl ((ob_eq e) ▸ W9))) (fun hHeld => ?_)
                  clear hK K
                  have zz11 := s11.size
                  try (replace q10 := q10.step s11 (fun e => by have := ob_eq e; omega))
                  try simp only [Act.put, List.setIfInBounds_toArray, List.set_cons_zero, List.set_cons_succ]
                  refine wpAnyH_ready (rs := [9]) (by kernel_rfl) (by simp) ?_
                  refine (AllReadyH.cons (o := { dst := some 107, op := Op.call { callee := Callee.builtin Builtin.append, args := #[Operand.tmp 104, Operand.tmp 106], argTypes := #[46, 46] }, type := 46, pos := _, after := #[{ on := 6, ground := Ground.data }, { on := 8, ground := Ground.data }, { on := 6, ground := Ground.chain }], guard := none }) rfl (fun K hK => ?_) AllReadyH.nil)
                  refine step_appR elP W.heap.size rfl _ _ (by rfl) (by rfl) o11 n11 (some ⟨g10, 0, none⟩) 1 (Pe.cs ⟨{ p with id := Z.last + 1, wr := false }, d', n'⟩) (by rfl) (by rfl) (fun e => by cases e) (fun ad e j u hu => by injection e with e; subst e; rw [Addr.add_lit, Nat.zero_add]; exact q10.cell j u hu) (Pe.cs_one _) (by omega) hHeld.size ?_
                  intro v12 w12 hA2
                  have o12 : OwP w12 v12 (L ++ [⟨{ p with id := Z.last + 1, wr := false }, d', n'⟩]) := ow_12 hA2
                  have n12 := hA2.2.1
                  refine hK.out _ _ (hHeld.next hA2.2.2.2.1 (fun x e => .inl (n11 x e))) (fun hHeld => ?_)
                  clear hK K
                  try simp only [Act.put, List.setIfInBounds_toArray, List.set_cons_zero, List.set_cons_succ]
                  refine wpAnyH_take (i := 10) (oi := { dst := some 108, op := Op.nilCheck (Operand.tmp 98), type := 0, pos := _, after := #[{ on := 0, ground := Ground.data }, { on := 0, ground := Ground.phase }, { on := 1, ground := Ground.phase }, { on := 2, ground := Ground.phase }, { on := 3, ground := Ground.phase }, { on := 4, ground := Ground.phase }, { on := 5, ground := Ground.phase }, { on := 6, ground := Ground.phase }, { on := 7, ground := Ground.phase }, { on := 8, ground := Ground.phase }, { on := 9, ground := Ground.phase }], guard := none }) (v := .pointer (some ⟨g, 0, none⟩)) rfl (by kernel_rfl) (by kernel_rfl) (by kernel_rfl) (fun _ _ _ h => h) (Or.inl ⟨by rfl, ?_⟩) hHeld ?_
                  · intro u hu
                    go_simp
                  try simp only [Act.put, List.setIfInBounds_toArray, List.set_cons_zero, List.set_cons_succ]
                  refine wpAnyH_take (i := 11) (oi := { dst := some 109, op := Op.fieldAddr 48 (Operand.tmp 108) 1, type := 0, pos := _, after := #[{ on := 10, ground := Ground.data }, { on := 0, ground := Ground.phase }, { on := 1, ground := Ground.phase }, { on := 2, ground := Ground.phase }, { on := 3, ground := Ground.phase }, { on := 4, ground := Ground.phase }, { on := 5, ground := Ground.phase }, { on := 6, ground := Ground.phase }, { on := 7, ground := Ground.phase }, { on := 8, ground := Ground.phase }, { on := 9, ground := Ground.phase }], guard := none }) (v := .pointer (some ⟨g, 1, none⟩)) rfl (by kernel_rfl) (by kernel_rfl) (by kernel_rfl) (fun _ _ _ h => h) (Or.inl ⟨by rfl, ?_⟩) hHeld ?_
                  · intro u hu
                    go_simp
                  try simp only [Act.put, List.setIfInBounds_toArray, List.set_cons_zero, List.set_cons_succ]
                  refine wpAnyH_done (by kernel_rfl) ?_ _
                  show wpList _ _ _ [_] _ _
                  obtain ⟨xa, xn, xc, rfl⟩ := o12.shape'
                  have fin := FIN w12 xa xn xc hHeld o12 n12
                  have x1 := (HS _ hHeld).cells.2
                  have x2 := (HS _ hHeld).cc.frozen 1
                  refine op_unit (by rfl) (w12.setCell ⟨g, 1, none⟩ (.slice xa xn xc)) (by simp [execOp, Instr.storeAt, Instr.sureAddr]; go_simp) ?_
                  clear x1 x2
                  go_wp2_with fail
                  go_meet
                  exact fin
              · skip
                refine step_bs1P rfl _ (by rfl) ⟨{ p with id := Z.last + 1, wr := false }, d', n'⟩ (by rfl) ?_
                intro g10 w10 e10 q10 b10
                have l10 := q10.lt
                refine hK.out _ _ (hHeld.next (Stp.of_below b10 (fun _ => False)) (fun x e => e.elim)) (fun hHeld => ?_)
                clear hK K
                have zz10 := b10.size
                try (replace o9 := o9.later b10)
                try (replace o11 := o11.later b10)
                try simp only [Act.put, List.setIfInBounds_toArray, List.set_cons_zero, List.set_cons_succ]
                refine wpAnyH_ready (rs := [1]) (by kernel_rfl) (by simp) ?_
                refine (AllReadyH.cons (o := { dst := some 99, op := Op.buildSlice 46 0 #[], type := 46, pos := _, after := #[], guard := none }) rfl (fun K hK => ?_) AllReadyH.nil)
                have zH1 := hHeld.size
                refine step_bs0P rfl (by rfl) ?_
                intro g9 w9 e9 o9 b9
                have l9 : g9 < w9.heap.size := o9.lt rfl
                have W9 : W.heap.size ≤ g9 := Nat.le_trans zH1 e9
                refine hK.out _ _ (hHeld.next (Stp.of_below b9 (fun _ => False)) (fun x e => e.elim)) (fun hHeld => ?_)
                clear hK K
                have zz9 := b9.size
                try (replace q10 := q10.later b9)
                try simp only [Act.put, List.setIfInBounds_toArray, List.set_cons_zero, List.set_cons_succ]
                refine wpAnyH_ready (rs := [6]) (by kernel_rfl) (by simp) ?_
                refine (AllReadyH.cons (o := { dst := some 104, op := Op.call { callee := Callee.builtin Builtin.append, args := #[Operand.tmp 99, Operand.tmp 103], argTypes := #[46, 46] }, type := 46, pos := _, after := #[{ on := 1, ground := Ground.data }, { on := 5, ground := Ground.data }], guard := none }) rfl (fun K hK => ?_) AllReadyH.nil)
                refine step_appR elP W.heap.size rfl _ _ (by rfl) (by rfl) o9 (fun r e => (ob_eq e) ▸ W9) a c (fl L) (by rfl) (fl_len L) hnil (HS _ hHeld).row.news (fl_one L) (by simp only [List.length_nil]; omega) hHeld.size ?_
                intro v6 w11 hA
                have o11 : OwP w11 v6 L := ow_11 hA
                have n11 := hA.2.1
                have s11 := hA.2.2.2.1
                refine hK.out _ _ (hHeld.next s11 (fun x e => .inl ((ob_eq e) ▸ W9))) (fun hHeld => ?_)
                clear hK K
                have zz11 := s11.size
                try (replace q10 := q10.step s11 (fun e => by have := ob_eq e; omega))
                try simp only [Act.put, List.setIfInBounds_toArray, List.set_cons_zero, List.set_cons_succ]
                refine wpAnyH_ready (rs := [9]) (by kernel_rfl) (by simp) ?_
                refine (AllReadyH.cons (o := { dst := some 107, op := Op.call { callee := Callee.builtin Builtin.append, args := #[Operand.tmp 104, Operand.tmp 106], argTypes := #[46, 46] }, type := 46, pos := _, after := #[{ on := 6, ground := Ground.data }, { on := 8, ground := Ground.data }, { on := 6, ground := Ground.chain }], guard := none }) rfl (fun K hK => ?_) AllReadyH.nil)
                refine step_appR elP W.heap.size rfl _ _ (by rfl) (by rfl) o11 n11 (some ⟨g10, 0, none⟩) 1 (Pe.cs ⟨{ p with id := Z.last + 1, wr := false }, d', n'⟩) (by rfl) (by rfl) (fun e => by cases e) (fun ad e j u hu => by injection e with e; subst e; rw [Addr.add_lit, Nat.zero_add]; exact q10.cell j u hu) (Pe.cs_one _) (by omega) hHeld.size ?_
                intro v12 w12 hA2
                have o12 : OwP w12 v12 (L ++ [⟨{ p with id := Z.last + 1, wr := false }, d', n'⟩]) := ow_12 hA2
                have n12 := hA2.2.1
                refine hK.out _ _ (hHeld.next hA2.2.2.2.1 (fun x e => .inl (n11 x e))) (fun hHeld => ?_)
                clear hK K
                try simp only [Act.put, List.setIfInBounds_toArray, List.set_cons_zero, List.set_cons_succ]
                refine wpAnyH_take (i := 10) (oi := { dst := some 108, op := Op.nilCheck (Operand.tmp 98), type := 0, pos := _, after := #[{ on := 0, ground := Ground.data }, { on := 0, ground := Ground.phase }, { on := 1, ground := Ground.phase }, { on := 2, ground := Ground.phase }, { on := 3, ground := Ground.phase }, { on := 4, ground := Ground.phase }, { on := 5, ground := Ground.phase }, { on := 6, ground := Ground.phase }, { on := 7, ground := Ground.phase }, { on := 8, ground := Ground.phase }, { on := 9, ground := Ground.phase }], guard := none }) (v := .pointer (some ⟨g, 0, none⟩)) rfl (by kernel_rfl) (by kernel_rfl) (by kernel_rfl) (fun _ _ _ h => h) (Or.inl ⟨by rfl, ?_⟩) hHeld ?_
                · intro u hu
                  go_simp
                try simp only [Act.put, List.setIfInBounds_toArray, List.set_cons_zero, List.set_cons_succ]
                refine wpAnyH_take (i := 11) (oi := { dst := some 109, op := Op.fieldAddr 48 (Operand.tmp 108) 1, type := 0, pos := _, after := #[{ on := 10, ground := Ground.data }, { on := 0, ground := Ground.phase }, { on := 1, ground := Ground.phase }, { on := 2, ground := Ground.phase }, { on := 3, ground := Ground.phase }, { on := 4, ground := Ground.phase }, { on := 5, ground := Ground.phase }, { on := 6, ground := Ground.phase }, { on := 7, ground := Ground.phase }, { on := 8, ground := Ground.phase }, { on := 9, ground := Ground.phase }], guard := none }) (v := .pointer (some ⟨g, 1, none⟩)) rfl (by kernel_rfl) (by kernel_rfl) (by kernel_rfl) (fun _ _ _ h => h) (Or.inl ⟨by rfl, ?_⟩) hHeld ?_
                · intro u hu
                  go_simp
                try simp only [Act.put, List.setIfInBounds_toArray, List.set_cons_zero, List.set_cons_succ]
                refine wpAnyH_done (by kernel_rfl) ?_ _
                show wpList _ _ _ [_] _ _
                obtain ⟨xa, xn, xc, rfl⟩ := o12.shape'
                have fin := FIN w12 xa xn xc hHeld o12 n12
                have x1 := (HS _ hHeld).cells.2
                have x2 := (HS _ hHeld).cc.frozen 1
                refine op_unit (by rfl) (w12.setCell ⟨g, 1, none⟩ (.slice xa xn xc)) (by simp [execOp, Instr.storeAt, Instr.sureAddr]; go_simp) ?_
                clear x1 x2
                go_wp2_with fail
                go_meet
                exact fin
            case rest =>
              obtain ⟨k1, k2, k3⟩ := hcut
              clear HS RS FIN
              go_wp2_with fail
              go_returns
              exact ⟨by rw [eN.out, eE.out]; rfl, k1, k2⟩
end Go.Proofs.YtigchhogclofiaaGreat
