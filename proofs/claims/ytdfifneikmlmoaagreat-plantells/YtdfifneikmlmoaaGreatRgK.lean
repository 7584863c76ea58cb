/-
  What Sectors of the document's graph returns: no statement is proved here.
-/
import Derived.Test.YtdfifneikmlmoaaGreatPlF
import Derived.Great.BuildSlice
import Derived.Deep.DeepCutAuto
import Derived.Shelf.SlMaps.Clone
import Derived.Test.YtdfifneikmlmoaaGreatSmA
import Derived.Test.YtdfifneikmlmoaaGreatRgI
import Derived.Test.YtdfifneikmlmoaaGreatGsA
namespace Go.Proofs.YtdfifneikmlmoaaGreat
open Go.ChangeShapes Go.WideShapes Go.ChangeAt Go.RowKit
set_option linter.unusedVariables false
set_option linter.unusedSimpArgs false

/-- A batch, and where its sectors lie. -/
structure Be where
  s : Sv
  l : List Int
  f : Bool
def Be.cs (t : Be) : List Value := btc (.slice t.s.a t.s.n t.s.c) t.f
def Be.bt (t : Be) : Bt := ⟨t.l, t.f⟩
theorem Be.cs_len (t : Be) : t.cs.length = 2 := rfl
theorem Be.cs_one (t : Be) : ∀ v ∈ t.cs, v.oneCell' = true := btc_one rfl _
def fb (L : List Be) : List Value := L.flatMap Be.cs
theorem fb_nil : fb [] = [] := rfl
theorem fb_cons (t : Be) (L : List Be) : fb (t :: L) = t.cs ++ fb L := by unfold fb; rw [List.flatMap_cons]
theorem fb_append (L L' : List Be) : fb (L ++ L') = fb L ++ fb L' := by unfold fb; rw [List.flatMap_append]
theorem fb_len : ∀ L : List Be, (fb L).length = L.length * 2
  | [] => rfl
  | t :: L => by rw [fb_cons, List.length_append, t.cs_len, fb_len L, List.length_cons]; omega
theorem fb_get : ∀ (L : List Be) (i j : Nat) (t : Be), L[i]? = some t → j < 2 → (fb L)[i * 2 + j]? = t.cs[j]?
  | [], i, j, t, h, _ => by cases h
  | a :: L, 0, j, t, h, hj => by
    injection h with h; subst h
    rw [fb_cons, List.getElem?_append_left (by rw [a.cs_len]; omega)]
    congr 1; omega
  | a :: L, i + 1, j, t, h, hj => by
    have h' : L[i]? = some t := by simpa using h
    rw [fb_cons, List.getElem?_append_right (by rw [a.cs_len]; omega), a.cs_len, ← fb_get L i j t h' hj]
    congr 1; omega
/-- A type of batches, and of slices of them. -/
structure BtT (T TS : TypeId) : Prop where
  srt : Srt T 2 (btc (.slice none 0 0) false)
  el : ElT TS T 2
  inf : (Tryz.prog.info? T).map (fun i => (i.zero, i.size, i.bytes)) = some (some (.agg (btc (.slice none 0 0) false).toArray), 2, 32)
  und : ∃ d, Tryz.prog.underlying T = some d ∧ d.isRow = true
  sz : (Tryz.prog.info? T).map (·.size) = some 2
theorem btP : BtT 35 29 := ⟨srtBt, ⟨by kernel_rfl, ⟨.agg (btc (.slice none 0 0) false).toArray, 32, by kernel_rfl, rfl, by omega⟩, by omega⟩, by kernel_rfl, ⟨_, Tryz.underlying35, rfl⟩, by kernel_rfl⟩
theorem bslice_b {T TS : TypeId} (hT : BtT T TS) (t : Be) (w : World) : (Instr.buildSlice TS 1 #[(0, .agg t.cs.toArray)]).run Tryz.prog w = .ok (.slice (some ⟨w.heap.size, 0, none⟩) 1 1) (w.alloc (.cells t.cs.toArray T)) := by
  obtain ⟨ie, hie, hz, hs, hb⟩ := info_parts hT.inf
  refine run_buildSlice w _ _ 1 _ t.cs.toArray ie _ hT.el.und hie hz (by rw [hs]; omega) (by rw [hs]; omega) ?_
  rw [hs]
  have := Great.fill_whole (s := 2) (by omega) [.agg t.cs.toArray] ((Array.range (1 * 2)).map ((Value.agg (btc (.slice none 0 0) false).toArray).cells[· % (Value.agg (btc (.slice none 0 0) false).toArray).cells.size]!)) (by intro v hv; simp at hv; subst hv; simp [Value.cells, t.cs_len]) (by simp)
  simpa [Value.cells] using this
section
variable {ops : Array Oper} {rest : List Oper} {o : Oper} {a : Act} {w : World} {Q : Exit → Act → World → Prop} {T TS : TypeId}
theorem at_bsB (hT : BtT T TS) (x : Operand) (ho : o.op = .buildSlice TS 1 #[(0, x)]) (hw : Region.wanted o (yielded ops a.tmps) = true) (t : Be) (hx : a.eval x = .agg t.cs.toArray)
    (h : wpList Tryz.prog ops Q rest (a.put o.dst (.slice (some ⟨w.heap.size, 0, none⟩) 1 1)) (w.alloc (.cells t.cs.toArray T))) : wpList Tryz.prog ops Q (o :: rest) a w := by
  refine op_val hw _ _ ?_ h
  simp [execOp, ho, hx, bslice_b hT]
theorem at_getBe (hT : BtT T TS) (x : Operand) (ho : o.op = .load T x) (hw : Region.wanted o (yielded ops a.tmps) = true) (g i : Nat) (hx : a.eval x = .pointer (some ⟨g, i, none⟩)) (t : Be) (hr : w.rangeAt g i t.cs)
    (h : wpList Tryz.prog ops Q rest (a.put o.dst (.agg t.cs.toArray)) w) : wpList Tryz.prog ops Q (o :: rest) a w := by
  refine op_val hw _ _ ?_ h
  obtain ⟨d, h1, h2⟩ := hT.und
  have : (loadVar T ⟨g, i, none⟩).run Tryz.prog w = .ok (.agg t.cs.toArray) w := run_loadVar_mid w g i _ t.cs _ hr h1 h2 (by rw [hT.sz]; rfl)
  simp [execOp, ho, hx, Instr.loadAt, Instr.sureAddr, this]
end
theorem cell_newB (w : World) (t : Be) (T : TypeId) : ∀ j u, t.cs[j]? = some u → (w.alloc (.cells t.cs.toArray T)).cell? ((⟨w.heap.size, 0, none⟩ : Addr).add j) = some u := fun j u hu => by
  rw [Addr.add_lit, Nat.zero_add]
  exact (Cs.made w t.cs T t.cs_one).cell j u hu
theorem ro_ty {w : World} {e : TypeId} {sz n : Nat} {v : Value} {xs : List Value} (h : w.ownsRow 0 e sz v n xs) {r : Nat} (hr : v.ownBlock = some r) : ∃ cur, w.heap[r]? = some (.cells cur e (0, 0)) := by
  rcases h.2 with ⟨h1, h2⟩ | ⟨g, cap, cur, h1, _, h3, _⟩
  · rw [h1] at hr; cases hr
  · rw [h1] at hr
    have : g = r := by simpa [Value.ownBlock] using hr
    subst this
    exact ⟨cur, h3⟩
/-- The slice v, of one's own, of the batches l; all of it behind N. -/
structure BtI (w : World) (T : TypeId) (N : Nat) (v : Value) (L : List Be) : Prop where
  ow : w.ownsRow 0 T 2 v L.length (fb L)
  nw : New N v
  el : ∀ t ∈ L, OwV w t.s.v t.l ∧ New N t.s.v ∧ ∀ x ∈ t.l, wfi x
def BtS (w : World) (T : TypeId) (N : Nat) (v : Value) (l : List Bt) : Prop := ∃ L : List Be, L.map Be.bt = l ∧ BtI w T N v L
section
variable {w w' : World} {T : TypeId} {N : Nat} {v : Value} {L : List Be} {l : List Bt} {X : Nat → Prop}
theorem BtI.nil (w : World) (T : TypeId) (N : Nat) : BtI w T N (.slice none 0 0) [] := ⟨⟨rfl, .inl ⟨rfl, rfl⟩⟩, (fun r e => by cases e), fun t h => by cases h⟩
theorem BtI.step (h : BtI w T N v L) (k : Stp X w w') (hX : ∀ x, X x → x < N ∨ w.heap.size ≤ x) : BtI w' T N v L :=
  ⟨ro_step h.ow k (fun r hr hx => by have := h.nw r hr; have := (h.ow.lt r hr).2; rcases hX r hx with e | e <;> omega), h.nw, fun t ht => by
    obtain ⟨h1, h2, h3⟩ := h.el t ht
    exact ⟨h1.step k (fun r hr hx => by have := h2 r hr; have := h1.lt hr; rcases hX r hx with e | e <;> omega), h2, h3⟩⟩
theorem BtI.later (h : BtI w T N v L) (k : Below w.heap.size w w') : BtI w' T N v L := h.step (Stp.of_below k (fun _ => False)) (fun x e => e.elim)
theorem BtI.shape (h : BtI w T N v L) : ∃ a c, v = .slice a L.length c ∧ (a = none → L.length = 0 ∧ c = 0) := by
  rcases h.ow.2 with ⟨h1, h2⟩ | ⟨g, cap, cur, h1, _, h3, h4, h5, h6, h7⟩
  · exact ⟨none, 0, by rw [h1, h2], fun _ => ⟨h2, rfl⟩⟩
  · exact ⟨_, cap, h1, fun e => by cases e⟩
theorem BtI.mono (h : BtI w T N v L) {M : Nat} (hM : M ≤ N) : BtI w T M v L := ⟨h.ow, fun r hr => Nat.le_trans hM (h.nw r hr), fun t ht => ⟨(h.el t ht).1, fun r hr => Nat.le_trans hM ((h.el t ht).2.1 r hr), (h.el t ht).2.2⟩⟩
theorem BtS.nil (w : World) (T : TypeId) (N : Nat) : BtS w T N (.slice none 0 0) [] := ⟨[], rfl, BtI.nil w T N⟩
theorem BtS.step (h : BtS w T N v l) (k : Stp X w w') (hX : ∀ x, X x → x < N ∨ w.heap.size ≤ x) : BtS w' T N v l := by obtain ⟨L, e, h⟩ := h; exact ⟨L, e, h.step k hX⟩
theorem BtS.later (h : BtS w T N v l) (k : Below w.heap.size w w') : BtS w' T N v l := by obtain ⟨L, e, h⟩ := h; exact ⟨L, e, h.later k⟩
theorem BtS.mono (h : BtS w T N v l) {M : Nat} (hM : M ≤ N) : BtS w T M v l := by obtain ⟨L, e, h⟩ := h; exact ⟨L, e, h.mono hM⟩
theorem BtS.shape (h : BtS w T N v l) : ∃ a c, v = .slice a l.length c := by
  obtain ⟨L, e, h⟩ := h
  obtain ⟨a, c, h1, _⟩ := h.shape
  exact ⟨a, c, by rw [h1, ← e, List.length_map]⟩
end
/-- One of them. -/
theorem BtI.el' {w : World} {T : TypeId} {N : Nat} {a : Option Addr} {c n : Nat} {L : List Be} (h : BtI w T N (.slice a n c) L) (k : Nat) (hk : k < L.length) : ∃ b, a = some ⟨b, 0, none⟩ ∧ w.rangeAt b (k * 2) (L[k]).cs := by
  rcases h.ow.2 with ⟨h1, h2⟩ | ⟨g, cap, cur, h1, _, h3, h4, h5, h6, h7⟩
  · omega
  · injection h1 with e1 e2 e3
    refine ⟨g, e1, fun j v hv => ?_⟩
    have hj := (List.getElem?_eq_some_iff.1 hv).1
    rw [Be.cs_len] at hj
    rw [← fb_get L k j L[k] (List.getElem?_eq_getElem hk) hj] at hv
    rw [cell_of_row w g _ _ _ (0, 0) h3]
    have hj2 := (List.getElem?_eq_some_iff.1 hv).1
    rw [fb_len] at hj2
    rw [← h7, List.getElem?_take, if_pos hj2] at hv
    simpa using hv
/-- One more. -/
theorem BtI.app {w w' : World} {T : TypeId} {N : Nat} {v v' : Value} {L : List Be} {t : Be} (h : BtI w T N v L) (hne : T ≠ 3) (hA : Apd w N T 2 v L.length 1 (fb L ++ t.cs) v' w') (h1 : OwV w t.s.v t.l) (h2 : New N t.s.v) (h3 : ∀ x ∈ t.l, wfi x) : BtI w' T N v' (L ++ [t]) := by
  obtain ⟨a1, a2, a3, a4, a5⟩ := hA
  refine ⟨?_, a2, fun t' ht' => ?_⟩
  · rw [fb_append, fb_cons, fb_nil, List.append_nil]
    simpa using a1
  · have : OwV w t'.s.v t'.l ∧ New N t'.s.v ∧ ∀ x ∈ t'.l, wfi x := by
      rcases List.mem_append.1 ht' with hq | hq
      · exact h.el t' hq
      · rw [List.mem_singleton.1 hq]; exact ⟨h1, h2, h3⟩
    refine ⟨this.1.step a4 (fun r hr hv => ?_), this.2⟩
    obtain ⟨c1, e1⟩ := ro_ty (show w.ownsRow 0 3 1 t'.s.v t'.l.length _ from this.1) hr
    obtain ⟨c2, e2⟩ := ro_ty h.ow hv
    rw [e1] at e2
    injection e2 with e2
    injection e2 with _ e3
    exact hne e3.symm
end Go.Proofs.YtdfifneikmlmoaaGreat
namespace Go.Proofs.YtdfifneikmlmoaaGreat
open Go.ChangeShapes Go.WideShapes Go.ChangeAt Go.RowKit Go.Shelf
set_option linter.unusedVariables false
set_option linter.unusedSimpArgs false

set_option maxRecDepth 100000 in
set_option maxHeartbeats 2000000 in
theorem clone_own {w : World} {v : Value} {l : List Int} (h : OwV w v l) (hne : l ≠ []) (hwf : ∀ x ∈ l, wfi x) (hl : l.length ≤ 100000) :
    Calls Tryz.prog 54 #[v] w fun e w' => ∃ v', e = .returned v' ∧ OwV w' v' l ∧ New w.heap.size v' ∧ Below w.heap.size w w' := by
  obtain ⟨g, cap, cur, rfl, hr⟩ := h.row1 hne
  have qnI : ∀ (w : World) (a : Option Addr) (n c n' c' : Nat), (binOp .eql 23 (.slice a n c) (.slice none n' c')).run Tryz.prog w = .ok (.bool a.isNone) w := fun w a n c n' c' => Lib.run_eql_slice_nil w _ _ a n c n' c' elI.und
  have q0 : (w.alloc (.cells #[] 3)).ownsRow 0 3 1 (.slice (some ⟨w.heap.size, 0, none⟩) 0 0) 0 [] := World.ownsRow_made w #[] 0 (Nat.zero_le _) (Nat.zero_le _) rfl
  have hcs' : ∀ ad, some (⟨g, 0, none⟩ : Addr) = some ad → ∀ j u, (l.map (Value.int .i64))[j]? = some u → (w.alloc (.cells #[] 3)).cell? (ad.add j) = some u := fun ad e j u hu => by
    injection e with e; subst e
    have := hr.cells j u hu
    rw [Addr.add_lit]
    rw [((Below.refl _ w).alloc (Nat.le_refl _) (.cells #[] 3)).cell (World.block_lt_of_cell? w _ this)]; exact this
  go_enter Tryz.func54, Tryz.ntmps54
  go_wp2_with (first
    | (refine at_appR elI w.heap.size rfl _ _ (by rfl) (by rfl) q0 (made_nw w) (some ⟨g, 0, none⟩) cap (l.map (Value.int .i64)) (by rfl) (by simp) (fun e => by cases e) hcs' (fun u hu => by obtain ⟨x, _, rfl⟩ := List.mem_map.1 hu; rfl) (by omega) (by simp) ?_; intro v' w' hA))
  go_returns
  obtain ⟨h1, h2, h3, h4, h5⟩ := hA
  rw [Nat.zero_add, List.nil_append] at h1
  have k0 : Stp (fun _ => False) w (w.alloc (.cells #[] 3)) := Stp.of_alloc _ _ _
  exact ⟨v', rfl, h1, h2, (k0.next h4 (F' := fun x => some w.heap.size = some x) (fun x e => .inr (by injection e with e; omega))).below (Nat.le_refl _) (fun x e => e.elim)⟩
theorem cloneM_any {w : World} {b : Nat} {f : Int → Option Value} (h : MpI Tryz.prog 3 w b f) :
    Calls Tryz.prog 53 #[.map (some b)] w fun e w' => ∃ b', e = .returned (.map (some b')) ∧ w.heap.size ≤ b' ∧ MpI Tryz.prog 3 w' b' f ∧ Below w.heap.size w w' := by
  obtain ⟨D, h1, h2⟩ := h
  have := AnyW.maps_Clone_owns cloneM 3 heldElem b 4096 D w h1
  refine Calls.mono this ?_
  rintro e w' ⟨rfl, k1, k2, k3⟩
  exact ⟨_, rfl, Nat.le_refl _, ⟨D, k1, h2⟩, k3⟩
section
variable {ops : Array Oper} {o : Oper} {a : Act} {w : World} {K : Act → World → Prop} {Q : Exit → Act → World → Prop} {R : Prop} {S : World → Prop}
theorem step_mkM (T : Nat) (hgd : o.guard = none) (ho : o.op = .makeMap T none)
    (h : ∀ b w', w.heap.size ≤ b → MpI Tryz.prog 3 w' b (fun _ => none) → Below w.heap.size w w' → K (a.put o.dst (.map (some b))) w') : if Region.wanted o (yielded ops a.tmps) = true then Oper.wp Tryz.prog o a w K Q else R := by
  have hw : Region.wanted o (yielded ops a.tmps) = true := by simp [Region.wanted, hgd]
  rw [if_pos hw]
  have h0 : (Instr.makeMap T none).run Tryz.prog w = .ok (.map (some w.heap.size)) (w.alloc (.map #[] 0)) := rfl
  have hr : (execOp a.eval o).run Tryz.prog w = .ok (.value (.map (some w.heap.size))) (w.alloc (.map #[] 0)) := by simp [execOp, ho, h0]
  unfold Oper.wp
  rw [hr]
  exact h w.heap.size _ (Nat.le_refl _) (MpI.made w _ _) ((Below.refl _ _).alloc (Nat.le_refl _) _)
theorem step_boxC (T : Nat) (hgd : o.guard = none) (x : Operand) (ho : o.op = .box T x) (cs : List Value) (hx : a.eval x = .agg cs.toArray) (h1 : ∀ v ∈ cs, v.oneCell' = true)
    (h : ∀ g w', w.heap.size ≤ g → g < w'.heap.size → Cs w' g cs → Below w.heap.size w w' → K (a.put o.dst (.pointer (some ⟨g, 0, none⟩))) w') : if Region.wanted o (yielded ops a.tmps) = true then Oper.wp Tryz.prog o a w K Q else R := by
  have hw : Region.wanted o (yielded ops a.tmps) = true := by simp [Region.wanted, hgd]
  rw [if_pos hw]
  have h0 : (Instr.box T (.agg cs.toArray)).run Tryz.prog w = .ok (.pointer (some ⟨w.heap.size, 0, none⟩)) (w.alloc (.cells cs.toArray T)) := by
    simp [Instr.box, newVar, Value.cells, go_sem]
  have hr : (execOp a.eval o).run Tryz.prog w = .ok (.value (.pointer (some ⟨w.heap.size, 0, none⟩))) (w.alloc (.cells cs.toArray T)) := by simp [execOp, ho, hx, h0]
  unfold Oper.wp
  rw [hr]
  exact h w.heap.size _ (Nat.le_refl _) (by simp) (Cs.made w cs T h1) ((Below.refl _ _).alloc (Nat.le_refl _) _)
theorem buildG3 (x : Int) (a b : Nat) (w : World) : (Instr.build 77 #[(0, .int .i64 x), (1, .map (some a)), (2, .map (some b))]).run Tryz.prog w = .ok (.agg [Value.int .i64 x, .map (some a), .map (some b)].toArray) w := by kernel_rfl
theorem yields_bG (hw : Region.wanted o (yielded ops a.tmps) = true) (x y z : Operand) (ho : o.op = .build 77 #[(0, x), (1, y), (2, z)]) (l : Int) (c d : Nat) (hx : a.eval x = .int .i64 l) (hy : a.eval y = .map (some c)) (hz : a.eval z = .map (some d)) :
    YieldsIf Tryz.prog ops S o (.agg [Value.int .i64 l, .map (some c), .map (some d)].toArray) a := by
  refine Or.inl ⟨hw, fun w _ => ?_⟩
  simp [execOp, ho, hx, hy, hz, buildG3]
end
/-- A copy that is being made. -/
structure CpI (w W wr : World) (mw r mq mv gq : Nat) (Z : GZ) (f fw : Int → Option Value) (left : Int → Bool) (cnt : Nat) (fv : Int → Option Value) : Prop where
  rg : RgI Tryz.prog 3 wr mw r fw left cnt
  mm : MpI Tryz.prog 3 wr mv fv
  pm : MpI Tryz.prog 3 wr mq f
  c : Cs wr gq [.int .i64 Z.last, .map (some mq), .map (some mv)]
  yes : ∀ s, (fw s).isSome = true → left s = false → ∃ v', fv s = some v' ∧ OwV wr v' (wts Z.l s) ∧ ∀ x, v'.ownBlock = some x → W.heap.size ≤ x
  no : ∀ s, ((fw s).isSome = false ∨ left s = true) → fv s = none
  ap : ∀ s s' v v' x, fv s = some v → fv s' = some v' → v.ownBlock = some x → v'.ownBlock = some x → s = s'
  b : Below w.heap.size w wr
  sz : W.heap.size ≤ wr.heap.size
theorem CpI.some {w W wr : World} {mw r mq mv gq : Nat} {Z : GZ} {f fw : Int → Option Value} {left : Int → Bool} {cnt : Nat} {fv : Int → Option Value} (h : CpI w W wr mw r mq mv gq Z f fw left cnt fv) {s : Int} {v : Value} (hv : fv s = Option.some v) : (fw s).isSome = true ∧ OwV wr v (wts Z.l s) ∧ ∀ x, v.ownBlock = Option.some x → W.heap.size ≤ x := by
  cases h1 : (fw s).isSome with
  | false => rw [h.no s (.inl h1)] at hv; cases hv
  | true =>
    cases h2 : left s with
    | true => rw [h.no s (.inr h2)] at hv; cases hv
    | false =>
      obtain ⟨v', e, k1, k2⟩ := h.yes s h1 h2
      rw [hv] at e; injection e with e; subst e
      exact ⟨rfl, k1, k2⟩
set_option maxRecDepth 100000 in
set_option maxHeartbeats 4000000 in
theorem copy_any {w : World} {g mp mw : Nat} {f fw : Int → Option Value} {Z : GZ} {E F : Nat → Prop} (H : Gr w g mp mw f fw Z E F) :
    Calls Tryz.prog 28 #[.pointer (some ⟨g, 0, none⟩)] w fun e w' => ∃ gq F', e = .returned (.pointer (some ⟨gq, 0, none⟩)) ∧ Gh w' gq Z E F' ∧ (∀ x, F' x → w.heap.size ≤ x) ∧ Below w.heap.size w w' := by
  obtain ⟨z0, z1, z2⟩ := H.cells
  go_enter Tryz.func28, Tryz.ntmps28
  go_upto_region 3 with fail
  go_cut [3] (fun u wx => ∃ gq mq mv, u = .pointer (some ⟨gq, 0, none⟩) ∧ Cs wx gq [.int .i64 Z.last, .map (some mq), .map (some mv)] ∧ MpI Tryz.prog 3 wx mq f ∧ MpI Tryz.prog 3 wx mv (fun _ => none) ∧ w.heap.size ≤ gq ∧ w.heap.size ≤ mq ∧ w.heap.size ≤ mv ∧ mq ≠ mv ∧ Below w.heap.size w wx)
  case first =>
    refine wp_region_held_drew (S := fun u => Below w.heap.size w u) (by kernel_rfl) (Below.refl _ _).drew (fun hHeld => ?_)
    refine wpAnyH_take (i := 0) (oi := { dst := some 8, op := Op.move (Operand.tmp 0), type := 24, pos := _, after := #[], guard := none }) (v := .pointer (some ⟨g, 0, none⟩)) rfl (by kernel_rfl) (by kernel_rfl) (by kernel_rfl) (fun _ _ _ h => h) (Or.inl ⟨by rfl, ?_⟩) hHeld ?_
    · intro u hu
      go_simp
    try simp only [Act.put, List.setIfInBounds_toArray, List.set_cons_zero, List.set_cons_succ]
    refine wpAnyH_take (i := 1) (oi := { dst := some 9, op := Op.nilCheck (Operand.tmp 8), type := 0, pos := _, after := #[{ on := 0, ground := Ground.data }], guard := none }) (v := .pointer (some ⟨g, 0, none⟩)) rfl (by kernel_rfl) (by kernel_rfl) (by kernel_rfl) (fun _ _ _ h => h) (Or.inl ⟨by rfl, ?_⟩) hHeld ?_
    · intro u hu
      go_simp
    try simp only [Act.put, List.setIfInBounds_toArray, List.set_cons_zero, List.set_cons_succ]
    refine wpAnyH_take (i := 2) (oi := { dst := some 10, op := Op.fieldAddr 77 (Operand.tmp 9) 0, type := 0, pos := _, after := #[{ on := 1, ground := Ground.data }], guard := none }) (v := .pointer (some ⟨g, 0, none⟩)) rfl (by kernel_rfl) (by kernel_rfl) (by kernel_rfl) (fun _ _ _ h => h) (Or.inl ⟨by rfl, ?_⟩) hHeld ?_
    · intro u hu
      go_simp
    try simp only [Act.put, List.setIfInBounds_toArray, List.set_cons_zero, List.set_cons_succ]
    refine wpAnyH_take (i := 3) (oi := { dst := some 11, op := Op.load 3 (Operand.tmp 10), type := 3, pos := _, after := #[{ on := 2, ground := Ground.data }], guard := none }) (v := .int .i64 Z.last) rfl (by kernel_rfl) (by kernel_rfl) (by kernel_rfl) (fun _ _ _ h => h) (Or.inl ⟨by rfl, ?_⟩) hHeld ?_
    · intro u hu
      have x1 := (H.later hu).cells.1; go_simp
    try simp only [Act.put, List.setIfInBounds_toArray, List.set_cons_zero, List.set_cons_succ]
    refine wpAnyH_take (i := 4) (oi := { dst := some 12, op := Op.move (Operand.tmp 0), type := 24, pos := _, after := #[], guard := none }) (v := .pointer (some ⟨g, 0, none⟩)) rfl (by kernel_rfl) (by kernel_rfl) (by kernel_rfl) (fun _ _ _ h => h) (Or.inl ⟨by rfl, ?_⟩) hHeld ?_
    · intro u hu
      go_simp
    try simp only [Act.put, List.setIfInBounds_toArray, List.set_cons_zero, List.set_cons_succ]
    refine wpAnyH_take (i := 5) (oi := { dst := some 13, op := Op.nilCheck (Operand.tmp 12), type := 0, pos := _, after := #[{ on := 4, ground := Ground.data }], guard := none }) (v := .pointer (some ⟨g, 0, none⟩)) rfl (by kernel_rfl) (by kernel_rfl) (by kernel_rfl) (fun _ _ _ h => h) (Or.inl ⟨by rfl, ?_⟩) hHeld ?_
    · intro u hu
      go_simp
    try simp only [Act.put, List.setIfInBounds_toArray, List.set_cons_zero, List.set_cons_succ]
    refine wpAnyH_take (i := 6) (oi := { dst := some 14, op := Op.fieldAddr 77 (Operand.tmp 13) 1, type := 0, pos := _, after := #[{ on := 5, ground := Ground.data }], guard := none }) (v := .pointer (some ⟨g, 1, none⟩)) rfl (by kernel_rfl) (by kernel_rfl) (by kernel_rfl) (fun _ _ _ h => h) (Or.inl ⟨by rfl, ?_⟩) hHeld ?_
    · intro u hu
      go_simp
    try simp only [Act.put, List.setIfInBounds_toArray, List.set_cons_zero, List.set_cons_succ]
    refine wpAnyH_take (i := 7) (oi := { dst := some 15, op := Op.load 74 (Operand.tmp 14), type := 74, pos := _, after := #[{ on := 6, ground := Ground.data }], guard := none }) (v := .map (some mp)) rfl (by kernel_rfl) (by kernel_rfl) (by kernel_rfl) (fun _ _ _ h => h) (Or.inl ⟨by rfl, ?_⟩) hHeld ?_
    · intro u hu
      have x1 := (H.later hu).cells.2.1; go_simp
    try simp only [Act.put, List.setIfInBounds_toArray, List.set_cons_zero, List.set_cons_succ]
    refine wpAnyH_ready (rs := [8, 9]) (by kernel_rfl) (by simp) ?_
    refine (AllReadyH.cons (o := { dst := some 16, op := Op.call { callee := Callee.value (Operand.func 53), args := #[Operand.tmp 15], argTypes := #[74] }, type := 74, pos := _, after := #[{ on := 7, ground := Ground.data }], guard := none }) rfl (fun K hK => ?_) (AllReadyH.cons (o := { dst := some 17, op := Op.makeMap 75 none, type := 75, pos := _, after := #[], guard := none }) rfl (fun K hK => ?_) AllReadyH.nil))
    · skip
      go_simp
      refine (cloneM_any (H.later hHeld).pm).mono ?_
      rintro e w8 ⟨mq, rfl, e8, p8, b8⟩
      try go_wp2_with fail
      have l8 := p8.lt
      have zH8 := hHeld.size
      refine hK.out _ _ (bnext hHeld b8 (Nat.le_refl _)) (fun hHeld => ?_)
      clear hK K
      have zz8 := b8.size
      try (replace p9 := p9.later b8)
      try simp only [Act.put, List.setIfInBounds_toArray, List.set_cons_zero, List.set_cons_succ]
      refine wpAnyH_ready (rs := [9]) (by kernel_rfl) (by simp) ?_
      refine (AllReadyH.cons (o := { dst := some 17, op := Op.makeMap 75 none, type := 75, pos := _, after := #[], guard := none }) rfl (fun K hK => ?_) AllReadyH.nil)
      have zH9 := hHeld.size
      refine step_mkM 75 rfl (by rfl) ?_
      intro mv w9 e9 p9 b9
      have l9 := p9.lt
      refine hK.out _ _ (bnext hHeld b9 (Nat.le_refl _)) (fun hHeld => ?_)
      clear hK K
      have zz9 := b9.size
      try (replace p8 := p8.later b9)
      try simp only [Act.put, List.setIfInBounds_toArray, List.set_cons_zero, List.set_cons_succ]
      refine wpAnyH_take (i := 10) (oi := { dst := some 18, op := Op.build 77 #[(0, Operand.tmp 11), (1, Operand.tmp 16), (2, Operand.tmp 17)], type := 77, pos := _, after := #[{ on := 3, ground := Ground.data }, { on := 8, ground := Ground.data }, { on := 9, ground := Ground.data }], guard := none }) (v := .agg [Value.int .i64 Z.last, .map (some mq), .map (some mv)].toArray) rfl (by kernel_rfl) (by kernel_rfl) (by kernel_rfl) (fun _ _ _ h => h)
        (yields_bG (by rfl) _ _ _ (by rfl) Z.last mq mv (by rfl) (by rfl) (by rfl)) hHeld ?_
      try simp only [Act.put, List.setIfInBounds_toArray, List.set_cons_zero, List.set_cons_succ]
      refine wpAnyH_ready (rs := [11]) (by kernel_rfl) (by simp) ?_
      refine (AllReadyH.cons (o := { dst := some 19, op := Op.box 77 (Operand.tmp 18), type := 24, pos := _, after := #[{ on := 10, ground := Ground.data }], guard := none }) rfl (fun K hK => ?_) AllReadyH.nil)
      have zH11 := hHeld.size
      refine step_boxC 77 rfl _ (by rfl) [Value.int .i64 Z.last, .map (some mq), .map (some mv)] (by rfl) (by simp [Value.oneCell']) ?_
      intro gq w11 e11 l11 c11 b11
      refine hK.out _ _ (bnext hHeld b11 (Nat.le_refl _)) (fun hHeld => ?_)
      clear hK K
      replace p8 := p8.later b11
      replace p9 := p9.later b11
      try simp only [Act.put, List.setIfInBounds_toArray, List.set_cons_zero, List.set_cons_succ]
      refine wpAnyH_take (i := 12) (oi := { dst := some 3, op := Op.assign (Operand.tmp 19), type := 24, pos := _, after := #[{ on := 11, ground := Ground.data }, { on := 8, ground := Ground.chain }, { on := 0, ground := Ground.phase }, { on := 1, ground := Ground.phase }, { on := 2, ground := Ground.phase }, { on := 3, ground := Ground.phase }, { on := 4, ground := Ground.phase }, { on := 5, ground := Ground.phase }, { on := 6, ground := Ground.phase }, { on := 7, ground := Ground.phase }, { on := 8, ground := Ground.phase }, { on := 9, ground := Ground.phase }, { on := 10, ground := Ground.phase }, { on := 11, ground := Ground.phase }], guard := none }) (v := .pointer (some ⟨gq, 0, none⟩)) rfl (by kernel_rfl) (by kernel_rfl) (by kernel_rfl) (fun _ _ _ h => h) (Or.inl ⟨by rfl, ?_⟩) hHeld ?_
      · intro u hu
        go_simp
      try simp only [Act.put, List.setIfInBounds_toArray, List.set_cons_zero, List.set_cons_succ]
      refine wpAnyH_done (by kernel_rfl) ?_ _
      go_wp2_with fail
      go_meet
      exact ⟨gq, mq, mv, rfl, c11, p8, p9, by omega, by omega, by omega, by omega, hHeld⟩
    · skip
      have zH9 := hHeld.size
      refine step_mkM 75 rfl (by rfl) ?_
      intro mv w9 e9 p9 b9
      have l9 := p9.lt
      refine hK.out _ _ (bnext hHeld b9 (Nat.le_refl _)) (fun hHeld => ?_)
      clear hK K
      have zz9 := b9.size
      try (replace p8 := p8.later b9)
      try simp only [Act.put, List.setIfInBounds_toArray, List.set_cons_zero, List.set_cons_succ]
      refine wpAnyH_ready (rs := [8]) (by kernel_rfl) (by simp) ?_
      refine (AllReadyH.cons (o := { dst := some 16, op := Op.call { callee := Callee.value (Operand.func 53), args := #[Operand.tmp 15], argTypes := #[74] }, type := 74, pos := _, after := #[{ on := 7, ground := Ground.data }], guard := none }) rfl (fun K hK => ?_) AllReadyH.nil)
      go_simp
      refine (cloneM_any (H.later hHeld).pm).mono ?_
      rintro e w8 ⟨mq, rfl, e8, p8, b8⟩
      try go_wp2_with fail
      have l8 := p8.lt
      have zH8 := hHeld.size
      refine hK.out _ _ (bnext hHeld b8 (Nat.le_refl _)) (fun hHeld => ?_)
      clear hK K
      have zz8 := b8.size
      try (replace p9 := p9.later b8)
      try simp only [Act.put, List.setIfInBounds_toArray, List.set_cons_zero, List.set_cons_succ]
      refine wpAnyH_take (i := 10) (oi := { dst := some 18, op := Op.build 77 #[(0, Operand.tmp 11), (1, Operand.tmp 16), (2, Operand.tmp 17)], type := 77, pos := _, after := #[{ on := 3, ground := Ground.data }, { on := 8, ground := Ground.data }, { on := 9, ground := Ground.data }], guard := none }) (v := .agg [Value.int .i64 Z.last, .map (some mq), .map (some mv)].toArray) rfl (by kernel_rfl) (by kernel_rfl) (by kernel_rfl) (fun _ _ _ h => h)
        (yields_bG (by rfl) _ _ _ (by rfl) Z.last mq mv (by rfl) (by rfl) (by rfl)) hHeld ?_
      try simp only [Act.put, List.setIfInBounds_toArray, List.set_cons_zero, List.set_cons_succ]
      refine wpAnyH_ready (rs := [11]) (by kernel_rfl) (by simp) ?_
      refine (AllReadyH.cons (o := { dst := some 19, op := Op.box 77 (Operand.tmp 18), type := 24, pos := _, after := #[{ on := 10, ground := Ground.data }], guard := none }) rfl (fun K hK => ?_) AllReadyH.nil)
      have zH11 := hHeld.size
      refine step_boxC 77 rfl _ (by rfl) [Value.int .i64 Z.last, .map (some mq), .map (some mv)] (by rfl) (by simp [Value.oneCell']) ?_
      intro gq w11 e11 l11 c11 b11
      refine hK.out _ _ (bnext hHeld b11 (Nat.le_refl _)) (fun hHeld => ?_)
      clear hK K
      replace p8 := p8.later b11
      replace p9 := p9.later b11
      try simp only [Act.put, List.setIfInBounds_toArray, List.set_cons_zero, List.set_cons_succ]
      refine wpAnyH_take (i := 12) (oi := { dst := some 3, op := Op.assign (Operand.tmp 19), type := 24, pos := _, after := #[{ on := 11, ground := Ground.data }, { on := 8, ground := Ground.chain }, { on := 0, ground := Ground.phase }, { on := 1, ground := Ground.phase }, { on := 2, ground := Ground.phase }, { on := 3, ground := Ground.phase }, { on := 4, ground := Ground.phase }, { on := 5, ground := Ground.phase }, { on := 6, ground := Ground.phase }, { on := 7, ground := Ground.phase }, { on := 8, ground := Ground.phase }, { on := 9, ground := Ground.phase }, { on := 10, ground := Ground.phase }, { on := 11, ground := Ground.phase }], guard := none }) (v := .pointer (some ⟨gq, 0, none⟩)) rfl (by kernel_rfl) (by kernel_rfl) (by kernel_rfl) (fun _ _ _ h => h) (Or.inl ⟨by rfl, ?_⟩) hHeld ?_
      · intro u hu
        go_simp
      try simp only [Act.put, List.setIfInBounds_toArray, List.set_cons_zero, List.set_cons_succ]
      refine wpAnyH_done (by kernel_rfl) ?_ _
      go_wp2_with fail
      go_meet
      exact ⟨gq, mq, mv, rfl, c11, p8, p9, by omega, by omega, by omega, by omega, hHeld⟩
  case rest =>
    obtain ⟨gq, mq, mv, rfl, cq, pq, vq, lg, lq, lv, nqv, B1⟩ := hcut
    have H1 := H.later B1
    have y2 := H1.cells.2.2
    have tok : True := trivial
    clear z0 z1 z2
    go_wp2_with (first
      | (clear tok; refine at_range' (by rfl) _ (by rfl) (by rfl) (mp_range H1.wm uWm) ?_; rintro w2 ⟨cnt, hrg, hk2, hz2⟩))
    go_frame
    obtain ⟨r, hr⟩ : ∃ r, r = wc.heap.size := ⟨_, rfl⟩
    rw [← hr] at hrg ⊢
    have b2 : Below wc.heap.size wc w2 := hk2.below (Nat.le_refl _) (fun _ e => e.elim)
    have lgq := cq.lt
    have lmq := pq.lt
    have lmv := vq.lt
    have B2 := bnext B1 b2 (Nat.le_refl _)
    have start : CpI w w2 w2 mw r mq mv gq Z f fw (fun k => (fw k).isSome) cnt (fun _ => none) :=
      ⟨hrg, vq.later b2, pq.later b2, cq.later b2, (fun s h1 h2 => by rw [h1] at h2; cases h2), fun _ _ => rfl, (fun s s' v v' x h => by cases h), B2, Nat.le_refl _⟩
    have hr2 : r < w2.heap.size := by omega
    have hwr : w.heap.size ≤ r := by have := B1.size; omega
    have hrn : r ≠ gq ∧ r ≠ mq ∧ r ≠ mv := ⟨by omega, by omega, by omega⟩
    have hl2 : gq < w2.heap.size ∧ mq < w2.heap.size ∧ mv < w2.heap.size := ⟨by omega, by omega, by omega⟩
    clear hrg hz2 hk2 hr y2 b2 cq pq vq lgq lmq lmv
    go_loopw [4, 5] (fun _ _ wr => ∃ left cnt fv, CpI w w2 wr mw r mq mv gq Z f fw left cnt fv) (fun _ _ wr => wr.rangeLeft mw r)
    case atStart => exact ⟨_, _, _, start⟩
    case round =>
      clear start
      obtain ⟨left, cnt, fv, I⟩ := hrel
      have hmwlt : mw < w.heap.size := H.wm.lt
      have t1 : True := trivial
      go_wp2_with (first
        | (clear t1; refine at_next' (by rfl) _ (by rfl) (by rfl) I.rg (fun hl => ?_) (fun k v w3 cnt3 hwf hlk hfk3 hrg3 hc3 hs3 hz3 hen => ?_)
           rotate_left
           have hzz : Hid (w3.heap.size = wr.heap.size) := hz3
           have hne : wts Z.l k ≠ [] := fun e => by rw [H.wn k e] at hfk3; cases hfk3
           have B3 : Below w.heap.size w w3 := ((Stp.of_below I.b (fun _ => False)).next hs3 (fun x e => .inr (by omega))).below (Nat.le_refl _) (fun x e => e.elim)
           obtain ⟨v1, e1, o1, _⟩ := H.ws k hne
           have ev : v1 = v := by rw [hfk3] at e1; injection e1 with e1; exact e1.symm
           subst ev
           have o3 := o1.later B3
           obtain ⟨va, vn, vc, rfl⟩ := o3.shape
           clear hz3))
      · have c3 := I.c.step hs3 (fun e => hrn.1 e.symm)
        have mm3 := I.mm.step hs3 (fun e => hrn.2.2 e.symm)
        have pm3 := I.pm.step hs3 (fun e => hrn.2.1 e.symm)
        have hfew := H.ok.fewW k
        have hwl := wts_len Z.l k
        have hwfs : ∀ x ∈ wts Z.l k, wfi x := fun x hx => by
          obtain ⟨p, q1, q2, _⟩ := wts_mem.1 hx
          rw [← q2]; exact (H.ok.wfp q1).i
        have hkv : ∀ s, (fv s).isSome → 0 ≤ s ∧ s < 2048 := fun s hs => by
          cases hv : fv s with
          | none => rw [hv] at hs; cases hs
          | some v => exact H.keysW s (I.some hv).1
        have hkw : wfi k := hwf
        have hk0 : fv k = none := I.no k (.inr hlk)
        have oth : ∀ s v', fv s = some v' → OwV w3 v' (wts Z.l s) ∧ ∀ x, v'.ownBlock = some x → w2.heap.size ≤ x ∧ x < wr.heap.size := fun s v' hv => by
          obtain ⟨_, k2, k3⟩ := I.some hv
          exact ⟨k2.step hs3 (fun x hx e => by have := k3 x hx; omega), fun x hx => ⟨k3 x hx, k2.lt hx⟩⟩
        have zz := hzz.out
        have zz' : Hid (w3.heap.size = wr.heap.size) := zz
        have hsz := I.sz
        have hnl : (wts Z.l k).length ≤ 100000 := by rw [hwl]; omega
        clear zz hwl hzz o1 e1 hfk3
        refine wp_region_last (S := fun u => Below w3.heap.size w3 u) _ _ (by simp only [List.pop_toArray, List.dropLast_cons_cons, List.dropLast_singleton]; rfl) (by simp only [List.back?_toArray, List.getLast?_cons_cons, List.getLast?_singleton]; rfl) (by kernel_rfl) (by kernel_rfl) (Below.refl _ _).drew (fun hHeld => ?_)
        refine wpAnyH_take (i := 0) (oi := { dst := some 30, op := Op.move (Operand.tmp 3), type := 24, pos := _, after := #[], guard := none }) (v := .pointer (some ⟨gq, 0, none⟩)) rfl (by kernel_rfl) (by kernel_rfl) (by kernel_rfl) (fun _ _ _ h => h) (Or.inl ⟨by rfl, ?_⟩) hHeld ?_
        · intro u hu
          go_simp
        try simp only [Act.put, List.setIfInBounds_toArray, List.set_cons_zero, List.set_cons_succ]
        refine wpAnyH_take (i := 1) (oi := { dst := some 31, op := Op.nilCheck (Operand.tmp 30), type := 0, pos := _, after := #[{ on := 0, ground := Ground.data }], guard := none }) (v := .pointer (some ⟨gq, 0, none⟩)) rfl (by kernel_rfl) (by kernel_rfl) (by kernel_rfl) (fun _ _ _ h => h) (Or.inl ⟨by rfl, ?_⟩) hHeld ?_
        · intro u hu
          go_simp
        try simp only [Act.put, List.setIfInBounds_toArray, List.set_cons_zero, List.set_cons_succ]
        refine wpAnyH_take (i := 2) (oi := { dst := some 32, op := Op.fieldAddr 77 (Operand.tmp 31) 2, type := 0, pos := _, after := #[{ on := 1, ground := Ground.data }], guard := none }) (v := .pointer (some ⟨gq, 2, none⟩)) rfl (by kernel_rfl) (by kernel_rfl) (by kernel_rfl) (fun _ _ _ h => h) (Or.inl ⟨by rfl, ?_⟩) hHeld ?_
        · intro u hu
          go_simp
        try simp only [Act.put, List.setIfInBounds_toArray, List.set_cons_zero, List.set_cons_succ]
        refine wpAnyH_take (i := 3) (oi := { dst := some 33, op := Op.load 75 (Operand.tmp 32), type := 75, pos := _, after := #[{ on := 2, ground := Ground.data }], guard := none }) (v := .map (some mv)) rfl (by kernel_rfl) (by kernel_rfl) (by kernel_rfl) (fun _ _ _ h => h) (Or.inl ⟨by rfl, ?_⟩) hHeld ?_
        · intro u hu
          have x1 := (c3.later hu).cell 2 _ rfl; go_simp
        try simp only [Act.put, List.setIfInBounds_toArray, List.set_cons_zero, List.set_cons_succ]
        refine wpAnyH_take (i := 4) (oi := { dst := some 34, op := Op.move (Operand.tmp 4), type := 3, pos := _, after := #[], guard := none }) (v := .int .i64 k) rfl (by kernel_rfl) (by kernel_rfl) (by kernel_rfl) (fun _ _ _ h => h) (Or.inl ⟨by rfl, ?_⟩) hHeld ?_
        · intro u hu
          go_simp
        try simp only [Act.put, List.setIfInBounds_toArray, List.set_cons_zero, List.set_cons_succ]
        refine wpAnyH_take (i := 5) (oi := { dst := some 35, op := Op.move (Operand.tmp 5), type := 23, pos := _, after := #[], guard := none }) (v := .slice va vn vc) rfl (by kernel_rfl) (by kernel_rfl) (by kernel_rfl) (fun _ _ _ h => h) (Or.inl ⟨by rfl, ?_⟩) hHeld ?_
        · intro u hu
          go_simp
        try simp only [Act.put, List.setIfInBounds_toArray, List.set_cons_zero, List.set_cons_succ]
        refine wpAnyH_ready (rs := [6]) (by kernel_rfl) (by simp) ?_
        refine (AllReadyH.cons (o := { dst := some 36, op := Op.call { callee := Callee.value (Operand.func 54), args := #[Operand.tmp 35], argTypes := #[23] }, type := 23, pos := _, after := #[{ on := 5, ground := Ground.data }], guard := none }) rfl (fun K hK => ?_) AllReadyH.nil)
        go_simp
        refine (clone_own (o3.later hHeld) hne hwfs hnl).mono ?_
        rintro e w8 ⟨v8, rfl, o8, n8, b8⟩
        try go_wp2_with fail
        have zH := hHeld.size
        refine hK.out _ _ (bnext hHeld b8 (Nat.le_refl _)) (fun hHeld => ?_)
        clear hK K
        try simp only [Act.put, List.setIfInBounds_toArray, List.set_cons_zero, List.set_cons_succ]
        refine wpAnyH_done (by kernel_rfl) ?_ _
        show wpList _ _ _ [_] _ _
        have B8 : Below w3.heap.size w3 w8 := hHeld
        refine at_updM 75 23 uWm (by rfl) _ _ _ (by rfl) mv fv (by rfl) k (by rfl) v8 (by rfl) (mm3.later B8) hkv hkw ?_
        intro w10 m10 s10
        have zz := zz'.out
        have zB8 := B8.size
        have z10 := s10.size
        have lmv : mv < w2.heap.size := hl2.2.2
        have hmv8 : v8.ownBlock ≠ some mv := fun e => by have := n8 mv e; omega
        have B10 : Below w.heap.size w w10 := ((Stp.of_below (bnext B3 B8 (Nat.le_refl _)) (fun _ => False)).next s10 (fun x e => .inr (by omega))).below (Nat.le_refl _) (fun x e => e.elim)
        have rg10 := (hrg3.step (Stp.of_below B8 (fun _ => False)) id id).step s10 (fun e => by omega) (fun e => hrn.2.2 e)
        have I10 : CpI w w2 w10 mw r mq mv gq Z f fw (fun x => left x && !decide (x = k)) cnt3 (upd fv k (some v8)) := by
          refine ⟨rg10, m10, (pm3.later B8).step s10 nqv, (c3.later B8).step s10 (fun e => (c3.later B8).notMap (mm3.later B8) e), fun s h1 h2 => ?_, fun s h1 => ?_, fun s s' v v' x h1 h2 h3 h4 => ?_, B10, by omega⟩
          · by_cases e : s = k
            · subst e
              refine ⟨v8, by simp [upd], o8.step s10 (fun x hx e => by have := n8 x hx; omega), fun x hx => by have := n8 x hx; omega⟩
            · have h3 : left s = false := by simpa [e] using h2
              obtain ⟨v', k1, _, _⟩ := I.yes s h1 h3
              obtain ⟨k2, k3⟩ := oth s v' k1
              exact ⟨v', by simp [upd, e, k1], (k2.later B8).step s10 (fun x hx e => by have := (k3 x hx).1; omega), fun x hx => (k3 x hx).1⟩
          · have e : s ≠ k := fun e => by
              subst e
              rcases h1 with h1 | h1
              · have hk2 := H.wm
                obtain ⟨v1, e1, _⟩ := H.ws s hne
                rw [e1] at h1; cases h1
              · simp at h1
            have h2 : (fw s).isSome = false ∨ left s = true := h1.imp id (fun h => by simpa [e] using h)
            simp [upd, e, I.no s h2]
          · have key : ∀ s v, upd fv k (some v8) s = some v → s = k ∧ v = v8 ∨ s ≠ k ∧ fv s = some v := fun s v h => by
              by_cases e : s = k
              · left; refine ⟨e, ?_⟩; subst e; simp [upd] at h; exact h.symm
              · right; exact ⟨e, by simpa [upd, e] using h⟩
            rcases key s v h1 with ⟨e1, e2⟩ | ⟨e1, e2⟩ <;> rcases key s' v' h2 with ⟨e3, e4⟩ | ⟨e3, e4⟩
            · rw [e1, e3]
            · subst e2; have := n8 x h3; have := ((oth s' v' e4).2 x h4).2; omega
            · subst e4; have := n8 x h4; have := ((oth s v e2).2 x h3).2; omega
            · exact I.ap s s' v v' x e2 e4 h3 h4
        clear hHeld
        simp only [Act.put]
        go_wp2_with fail
        go_roundw
        case rel => exact ⟨_, _, _, I10⟩
        case measure => rw [rg10.left_eq, I.rg.left_eq]; exact hc3
      · go_returns
        have hfv : ∀ s, (fw s).isSome = true → ∃ v', fv s = some v' ∧ OwV wr v' (wts Z.l s) ∧ ∀ x, v'.ownBlock = some x → w2.heap.size ≤ x := fun s hs => I.yes s hs (hl s)
        refine ⟨gq, (fun x => x = gq ∨ x = mq ∨ x = mv ∨ ∃ s v, fv s = some v ∧ v.ownBlock = some x), rfl, ⟨mq, mv, f, fv, ⟨I.c, I.pm, I.mm, fun i p hp => ?_, H.pn, fun s hs => ?_, fun s hs => ?_, I.ap, .inl rfl, .inr (.inl rfl), .inr (.inr (.inl rfl)), nqv, fun x hx => ?_, fun x hx => ?_, fun x hx hf => ?_, H.ok⟩⟩, fun x hx => ?_, I.b⟩
        · obtain ⟨d, n, h1, h2⟩ := (H.later I.b).ps i p hp
          exact ⟨d, n, h1, h2⟩
        · obtain ⟨v1, e1, _⟩ := H.ws s hs
          obtain ⟨v', k1, k2, k3⟩ := hfv s (by rw [e1]; rfl)
          exact ⟨v', k1, k2, fun x hx => ⟨.inr (.inr (.inr ⟨s, v', k1, hx⟩)), by have := k3 x hx; omega⟩⟩
        · exact I.no s (.inl (by rw [H.wn s hs]; rfl))
        · rcases hx with rfl | rfl | rfl | ⟨s, v, h1, h2⟩
          · exact I.c.lt
          · exact I.pm.lt
          · exact I.mm.lt
          · exact (I.some h1).2.1.lt h2
        · exact Nat.lt_of_lt_of_le (H.el x hx) I.b.size
        · have := H.el x hx
          rcases hf with rfl | rfl | rfl | ⟨s, v, h1, h2⟩
          · omega
          · omega
          · omega
          · have := (I.some h1).2.2 x h2; have := B2.size; omega
        · rcases hx with rfl | rfl | rfl | ⟨s, v, h1, h2⟩
          · exact lg
          · exact lq
          · exact lv
          · have := (I.some h1).2.2 x h2; have := B2.size; omega
end Go.Proofs.YtdfifneikmlmoaaGreat
namespace Go.Proofs.YtdfifneikmlmoaaGreat
open Go.ChangeShapes Go.WideShapes Go.ChangeAt Go.RowKit
set_option linter.unusedVariables false
set_option linter.unusedSimpArgs false

def lenV : Value → Nat
  | .slice _ n _ => n
  | _ => 0
theorem btL_succ (is : List Int) (Z : GZ) (k : Nat) : btL is Z (k + 1) = btL is Z k ++ [nxB is (Z.aft is k).l] := by
  unfold btL
  rw [List.range_succ, List.map_append]; rfl
theorem btL_len (is : List Int) (Z : GZ) (k : Nat) : (btL is Z k).length = k := by unfold btL; simp
theorem Ends.more {is : List Int} {Z : GZ} {n k : Nat} (h : Ends is Z n) (hk : k ≤ n) : mor is (Z.aft is k).l = decide (k < n) := by
  by_cases e : k < n
  · rw [mor_yes (h.2 k e)]; simp [e]
  · have : k = n := by omega
    subst this
    rw [(mor_no h.1).1]; simp
theorem aft_len {Z : GZ} {t : Int} (h : Z.ok t) (is : List Int) : ∀ k, (Z.aft is k).l.length ≤ Z.l.length
  | 0 => Nat.le_refl _
  | k + 1 => Nat.le_trans (car_len (aft_ok h is k).srt _) (aft_len h is k)
theorem Gh.stp {w w' : World} {g : Nat} {Z : GZ} {E F X : Nat → Prop} (h : Gh w g Z E F) (k : Stp X w w') (hF : ∀ x, F x → ¬ X x) (hE : ∀ x, E x → ¬ X x) : Gh w' g Z E F := by
  obtain ⟨_, _, _, _, h⟩ := h
  exact ⟨_, _, _, _, h.step k hF hE⟩
/-- On the way. -/
structure BaI (w w1 wr : World) (gc : Nat) (Z : GZ) (is : List Int) (E F : Nat → Prop) (k gb : Nat) (v vl : Value) (L : List Be) : Prop where
  gh : Gh wr gc (Z.aft is k) E F
  cb : Cs wr gb (btc v (frS (bsS is (Z.aft is k).l) (Z.aft is k).l))
  gN : w1.heap.size ≤ gb
  ov : OwV wr v (bsS is (Z.aft is k).l)
  nv : New w1.heap.size v
  bt : BtI wr 35 w1.heap.size vl L
  eL : L.map Be.bt = btL is Z k
  b : Below w.heap.size w wr
  sz : w1.heap.size ≤ wr.heap.size
  ne : ∀ r, vl.ownBlock = some r → r ≠ gb
set_option maxRecDepth 100000 in
set_option maxHeartbeats 4000000 in
theorem batches_any {w : World} {g mp mw : Nat} {f fw : Int → Option Value} {Z : GZ} {E F : Nat → Prop} (H : Gr w g mp mw f fw Z E F) {s : Sv} {is : List Int} (hs : InsS w s is) (hl : is.length ≤ 1000) (hzl : Z.l.length ≤ 100) (hn6 : ∀ p ∈ Z.l, p.needs.length ≤ 6) {n : Nat} (hn : Ends is Z n) (hn1 : n ≤ 100) :
    Calls Tryz.prog 6 #[.pointer (some ⟨g, 0, none⟩), .slice s.a s.n s.c] w fun e w' => ∃ v, e = .returned v ∧ BtS w' 35 w.heap.size v (btL is Z n) ∧ Below w.heap.size w w' := by
  have hok := H.ok
  have hCp := copy_any H
  have hNx := fun (u : World) (gc : Nat) (E F : Nat → Prop) (k : Nat) (hg : Gh u gc (Z.aft is k) E F) (hb : Below w.heap.size w u) => show Calls Tryz.prog 9 #[.pointer (some ⟨gc, 0, none⟩), .slice s.a s.n s.c] u fun e w' => ∃ v, e = .returned (.tuple #[.agg (btc v (frS (bsS is (Z.aft is k).l) (Z.aft is k).l)).toArray, .bool (mor is (Z.aft is k).l)]) ∧ OwV w' v (bsS is (Z.aft is k).l) ∧ New u.heap.size v ∧ Below u.heap.size u w' from by
    obtain ⟨_, _, _, _, hg⟩ := hg
    exact next_any hg (hs.later hb) hl (Nat.le_trans (aft_len hok is k) hzl) (fun p hp => hn6 p (aft_sub hok is k hp))
  have hNx' : Hid (∀ (u : World) (gc : Nat) (E F : Nat → Prop) (k : Nat), Gh u gc (Z.aft is k) E F → Below w.heap.size w u → Calls Tryz.prog 9 #[.pointer (some ⟨gc, 0, none⟩), .slice s.a s.n s.c] u fun e w' => ∃ v, e = .returned (.tuple #[.agg (btc v (frS (bsS is (Z.aft is k).l) (Z.aft is k).l)).toArray, .bool (mor is (Z.aft is k).l)]) ∧ OwV w' v (bsS is (Z.aft is k).l) ∧ New u.heap.size v ∧ Below u.heap.size u w') := hNx
  clear hNx
  have t1 : True := trivial
  have t2 : True := trivial
  go_enter Tryz.func6, Tryz.ntmps6
  go_wp2_with (first
    | (go_at_call 28; refine hCp.mono ?_; rintro e w1 ⟨gc, F', rfl, gh1, hF1, b1⟩; clear hCp)
    | (go_at_call 9; refine (hNx'.out _ gc E F' 0 gh1 b1).mono ?_; rintro e w2 ⟨v2, rfl, o2, n2, b2⟩
       have o2' : OwV w2 v2 (bsS is (Z.aft is 0).l) := o2
       have hv1 := o2.one)
    | (clear t1; refine at_newBt (by rfl) (by rfl) ?_; intro g3 w3 a3 a4 r3 b3)
    | (clear t2; refine at_putBt (by rfl) _ _ (by rfl) g3 (by rfl) v2 hv1 _ (by rfl) _ r3 rfl ?_; intro w4 r4 s4))
  have hFlt : ∀ x, F' x → w.heap.size ≤ x ∧ x < w1.heap.size := fun x hx => ⟨hF1 x hx, by obtain ⟨_, _, _, _, hg⟩ := gh1; exact hg.lt x hx⟩
  have hElt : ∀ x, E x → x < w1.heap.size := by obtain ⟨_, _, _, _, hg⟩ := gh1; exact hg.el
  have hw1 : w.heap.size ≤ w1.heap.size := b1.size
  have B24 : Below w2.heap.size w2 w4 := ((Stp.of_below b3 (fun _ => False)).next s4 (fun x e => .inr (by omega))).below (Nat.le_refl _) (fun x e => e.elim)
  have B14 := bnext b2 B24 (Nat.le_refl _)
  have start : BaI w w1 w4 gc Z is E F' 0 g3 v2 (.slice none 0 0) [] := ⟨Gh.later gh1 B14, r4, by have := b2.size; omega, o2.later B24, n2, BtI.nil _ _ _, rfl, bnext b1 B14 (Nat.le_refl _), B14.size, (fun r e => by cases e)⟩
  have hm0 : mor is (Z.aft is 0).l = decide (0 < n) := hn.more (Nat.zero_le _)
  have hm0' : Hid (mor is (Z.aft is 0).l = decide (0 < n)) := hm0
  clear hm0 b2 b3 s4 r3 r4 o2 o2' n2 B24 B14 gh1 hF1 a3 a4
  go_loopw [6, 7, 8] (fun vl u m wr => ∃ k gb v L, k ≤ n ∧ u = .pointer (some ⟨gb, 0, none⟩) ∧ m = .bool (decide (k < n)) ∧ BaI w w1 wr gc Z is E F' k gb v vl L) (fun vl _ _ _ => n - lenV vl)
  case atStart => exact ⟨0, g3, v2, [], Nat.zero_le _, rfl, by rw [hm0'.out], start⟩
  case round =>
    clear start
    obtain ⟨k, gb, v, L, hk, rfl, rfl, I⟩ := hrel
    have hLk : L.length = k := by have := congrArg List.length I.eL; rw [List.length_map, btL_len] at this; exact this
    obtain ⟨la, lc, hlv, -⟩ := I.bt.shape
    subst hlv
    by_cases hlt : k < n
    · have hd : decide (k < n) = true := by simpa using hlt
      rw [hd]
      have hokk := aft_ok hok is k
      have hwfb := bsS_wfi hokk is
      have hlb := bsS_len hokk is
      obtain ⟨⟨va, vn, vc⟩, e4, -, iv, ev⟩ := I.ov.ins hwfb I.nv
      subst e4
      have hbt := I.bt
      have hcb := I.cb
      have hgh := I.gh
      have hov := I.ov
      have hnv := I.nv
      have hnl : ∀ p ∈ (Z.aft is k).l, p.needs.length ≤ 100000 := fun p hp => by have := hn6 p (aft_sub hok is k hp); omega
      have hlb2 : (bsS is (Z.aft is k).l).length ≤ 400 := by
        have h3 := aft_len hok is k
        have h4 := bsS_few hokk is
        omega
      have e1 : Hid (Z.aft is (k + 1) = (Z.aft is k).car (bsS is (Z.aft is k).l)) := by show _ = _; rfl
      have e2 : Hid (btL is Z (k + 1) = btL is Z k ++ [⟨bsS is (Z.aft is k).l, frS (bsS is (Z.aft is k).l) (Z.aft is k).l⟩]) := btL_succ is Z k
      have hmk : Hid (mor is (Z.aft is (k + 1)).l = decide (k + 1 < n)) := hn.more (by omega)
      have heL := I.eL
      have hb := I.b
      have hsz := I.sz
      have hgN := I.gN
      have hgl := I.cb.lt
      have hIne := I.ne
      have hrne : ∀ r, (Value.slice la L.length lc).ownBlock = some r → r ≠ gb ∧ (∀ r', (Value.slice va vn vc).ownBlock = some r' → r' ≠ r) := fun r hr => by
        obtain ⟨c1, h1⟩ := ro_ty hbt.ow hr
        refine ⟨fun e => ?_, fun r' hr' e => ?_⟩
        · exact hIne r hr e
        · subst e
          obtain ⟨c2, h2⟩ := ro_ty (show wr.ownsRow 0 3 1 _ _ _ from hov) hr'
          rw [h1] at h2; injection h2 with h2; injection h2 with _ h3; cases h3
      generalize bsS is (Z.aft is k).l = S at *
      generalize hZk : Z.aft is k = Zk at *
      generalize frS S Zk.l = fr at *
      have hN1 := hNx'.out
      have t1 : Hid True := trivial
      have t2 : Hid True := trivial
      have t3 : Hid True := trivial
      have t4 : Hid True := trivial
      have t5 : Hid True := trivial
      have t6 : Hid True := trivial
      have t7 : Hid True := trivial
      have hbL : L.length + 1 ≤ 1000000 := by omega
      have hbL' : Hid (L.length + 1 ≤ 1000000) := hbL
      have hLk' : Hid (L.length = k) := hLk
      have hN1' : Hid (∀ (u : World) (gc : Nat) (E F : Nat → Prop), Gh u gc (Z.aft is (k + 1)) E F → Below w.heap.size w u → Calls Tryz.prog 9 #[.pointer (some ⟨gc, 0, none⟩), .slice s.a s.n s.c] u fun e w' => ∃ v, e = .returned (.tuple #[.agg (btc v (frS (bsS is (Z.aft is (k + 1)).l) (Z.aft is (k + 1)).l)).toArray, .bool (mor is (Z.aft is (k + 1)).l)]) ∧ OwV w' v (bsS is (Z.aft is (k + 1)).l) ∧ New u.heap.size v ∧ Below u.heap.size u w') := fun u gc E F => hN1 u gc E F (k + 1)
      have hZk1 : Hid (Z.aft is (k + 1) = Zk.car S) := e1.out
      clear hbL hLk hN1 I hd e1 hZk
      generalize hZ1 : Z.aft is (k + 1) = Z1 at *
      have hZ1' : Hid (Z.aft is (k + 1) = Z1) := hZ1
      clear hZ1
      generalize hS1 : bsS is Z1.l = S1 at *
      generalize hf1 : frS S1 Z1.l = fr1 at *
      generalize hm1 : mor is Z1.l = m1 at *
      have hS1' : Hid (bsS is Z1.l = S1) := hS1
      have hf1' : Hid (frS S1 Z1.l = fr1) := hf1
      clear hS1 hf1 hm1
      go_wp2_with (first
        | (clear t1; refine at_getBt (by rfl) _ (by rfl) gb (by rfl) (.slice va vn vc) fr hcb ?_)
        | (clear t2; refine at_bsB btP _ (by rfl) (by rfl) ⟨⟨va, vn, vc⟩, S, fr⟩ (by rfl) ?_
           have b2 : Below wr.heap.size wr (wr.alloc (.cells (Be.cs ⟨⟨va, vn, vc⟩, S, fr⟩).toArray 35)) := (Below.refl _ wr).alloc (Nat.le_refl _) _)
        | (at_builtin; refine at_appR btP.el w1.heap.size rfl _ _ (by rfl) (by rfl) (hbt.later b2).ow hbt.nw (some ⟨wr.heap.size, 0, none⟩) 1 (Be.cs ⟨⟨va, vn, vc⟩, S, fr⟩) (by rfl) rfl (fun e => by cases e) (fun ad e => by injection e with e; subst e; exact cell_newB _ _ _) (Be.cs_one _) hbL'.out (Nat.le_trans hsz b2.size) ?_
           intro v3 w3 hA
           have bt3 := (hbt.later b2).app (t := ⟨⟨va, vn, vc⟩, S, fr⟩) (by decide) hA (hov.later b2) hnv hwfb
           have sA := (hA.2.2.2.1)
           have hA3 := hA.2.2.1
           have s3 : Stp (fun x => (Value.slice la L.length lc).ownBlock = some x) wr w3 := (Stp.of_below b2 _).trans sA
           have hcb3 := hcb.step s3 (fun e => (hrne gb e).1 rfl)
           have iv3 := iv.step (E := fun x => (Value.slice va vn vc).ownBlock = some x) s3 (fun ad e hn => by have e' : va = some ad := e; subst e'; rfl) (fun x hx e => (hrne x e).2 x hx rfl)
           have gh3 : Gh w3 gc Zk E F' := hgh.stp s3 (fun x hx e => by have := (hFlt x hx).2; have := hbt.nw x e; omega) (fun x hx e => by have := hElt x hx; have := hbt.nw x e; omega)
           have hCa := carry_any gh3 hnl iv3 ev (fun x hx hf => by have := (hFlt x hf).2; have := hx.1; omega) hlb2 fr
           have B3 : Below w.heap.size w w3 := hb.trans (s3.below hb.size (fun x e => by have := hbt.nw x e; have := hw1; omega))
           clear hA sA)
        | (clear t3; refine at_getBt (by rfl) _ (by rfl) gb (by rfl) (.slice va vn vc) fr hcb3 ?_)
        | (go_at_call 16; refine hCa.mono ?_; rintro e w5 ⟨v5, rfl, -, -, g5, s5⟩; clear hCa
           have hcb5 := hcb3.step s5 (fun e => by have := (hFlt gb e).2; omega)
           have bt5 := bt3.step s5 (fun x e => .inl (hFlt x e).2)
           have B5 : Below w.heap.size w w5 := B3.trans (s5.below B3.size (fun x e => (hFlt x e).1)))
        | (clear t4; refine at_getBt (by rfl) _ (by rfl) gb (by rfl) (.slice va vn vc) fr hcb5 ?_)
        | (clear t5; refine at_newBt (by rfl) (by rfl) ?_; intro g6 w6 a6 a6' r6 b6)
        | (clear t6; refine at_putBt (by rfl) _ _ (by rfl) g6 (by rfl) (.slice va vn vc) rfl fr (by rfl) _ r6 rfl ?_; intro w7 r7 s7
           have B57 : Below w5.heap.size w5 w7 := ((Stp.of_below b6 (fun _ => False)).next s7 (fun x e => .inr (by omega))).below (Nat.le_refl _) (fun x e => e.elim)
           have B7 := bnext B5 B57 (Nat.le_refl _)
           have gh7 : Gh w7 gc Z1 E F' := by rw [hZk1.out]; exact Gh.later g5 B57
           have hN7 := hN1'.out _ gc E F' gh7 B7)
        | (go_at_call 9; refine hN7.mono ?_; rintro e w8 ⟨v8, rfl, o8, n8, b8⟩; clear hN7
           have hv8 := o8.one
           have r8 := r7.later b8)
        | (clear t7; refine at_putBt (by rfl) _ _ (by rfl) g6 (by rfl) v8 hv8 fr1 (by rfl) _ r8 rfl ?_; intro w9 r9 s9))
      have z3 := s3.size
      have z5 := s5.size
      have z57 := B57.size
      have z8 := b8.size
      have l7 := r7.lt
      have B59 : Below w5.heap.size w5 w9 := ((Stp.of_below (bnext B57 b8 (Nat.le_refl _)) (fun _ => False)).next s9 (fun x e => .inr (by omega))).below (Nat.le_refl _) (fun x e => e.elim)
      have J : BaI w w1 w9 gc Z is E F' (k + 1) g6 v8 v3 (L ++ [⟨⟨va, vn, vc⟩, S, fr⟩]) := by
        refine ⟨?_, ?_, by omega, ?_, fun r hr => by have := n8 r hr; omega, bt5.later B59, ?_, bnext B5 B59 (Nat.le_refl _), by have := B59.size; omega, fun r hr e => by have := (bt5.ow.lt r hr).2; omega⟩
        · rw [hZ1'.out, hZk1.out]; exact Gh.later g5 B59
        · rw [hZ1'.out, hS1'.out, hf1'.out]; exact r9
        · rw [hZ1'.out, hS1'.out]; exact o8.step s9 (fun r hr e => by have := n8 r hr; omega)
        · rw [List.map_append, heL, e2.out]; rfl
      obtain ⟨xa, xc, hx3, -⟩ := bt3.shape
      subst hx3
      go_wp2_with fail
      go_roundw
      case rel => exact ⟨k + 1, g6, v8, _, by omega, rfl, by rw [hmk.out], J⟩
      case measure => simp [lenV]; have := hLk'.out; omega
    · have hk' : k = n := by omega
      subst hk'
      have hd : decide (k < k) = false := by simp
      rw [hd]
      have J := I.bt.mono (Nat.le_trans (Nat.le_refl _) hw1)
      have heL := I.eL
      have hb := I.b
      clear I hd
      go_wp2_with fail
      go_returns
      exact ⟨_, rfl, ⟨L, heL, J⟩, hb⟩
end Go.Proofs.YtdfifneikmlmoaaGreat
namespace Go.Proofs.YtdfifneikmlmoaaGreat
open Go.ChangeShapes Go.WideShapes Go.ChangeAt Go.RowKit
set_option linter.unusedVariables false
set_option linter.unusedSimpArgs false

theorem two_ends : Ends [2] zB 2 := by
  refine ⟨List.isEmpty_iff.1 (by decide), fun k hk e => ?_⟩
  have h0 : k = 0 ∨ k = 1 := by omega
  have h1 := List.isEmpty_iff.2 e
  rcases h0 with rfl | rfl
  · have : (nd [2] (zB.aft [2] 0).l).isEmpty = false := by decide
    rw [this] at h1; cases h1
  · have : (nd [2] (zB.aft [2] 1).l).isEmpty = false := by decide
    rw [this] at h1; cases h1
theorem two_list : btL [2] zB 2 = [⟨[3], true⟩, ⟨[4], true⟩] := by
  have h0 : bsS [2] (zB.aft [2] 0).l = [3] := by decide
  have h1 : bsS [2] (zB.aft [2] 1).l = [4] := by decide
  have h2 : frS [3] (zB.aft [2] 0).l = true := by decide
  have h3 : frS [4] (zB.aft [2] 1).l = true := by decide
  rw [show (2 : Nat) = 1 + 1 from rfl, btL_succ, show (1 : Nat) = 0 + 1 from rfl, btL_succ]
  unfold nxB
  rw [h0, h1, h2, h3]; rfl
theorem bts_two {w : World} {T : TypeId} {N : Nat} {v : Value} {A B : List Int} {x y : Bool} (h : BtS w T N v [⟨A, x⟩, ⟨B, y⟩]) : ∃ (b c : Nat) (s0 s1 : Sv), v = .slice (some ⟨b, 0, none⟩) 2 c ∧ w.cell? ⟨b, 0, none⟩ = some (.slice s0.a s0.n s0.c) ∧ w.cell? ⟨b, 1, none⟩ = some (.bool x) ∧ w.cell? ⟨b, 2, none⟩ = some (.slice s1.a s1.n s1.c) ∧ w.cell? ⟨b, 3, none⟩ = some (.bool y) ∧ InsS w s0 A ∧ InsS w s1 B := by
  obtain ⟨L, e, I⟩ := h
  match L, e with
  | [t0, t1], e =>
    simp only [List.map_cons, List.map_nil] at e
    injection e with e0 e
    injection e with e1 _
    injection e0 with e2 e3
    injection e1 with e4 e5
    subst e2; subst e3; subst e4; subst e5
    obtain ⟨a, c, rfl, _⟩ := I.shape
    obtain ⟨b, rfl, r0⟩ := I.el' 0 (by simp)
    obtain ⟨b', e', r1⟩ := I.el' 1 (by simp)
    injection e' with e'; injection e' with e'
    subst e'
    have h0 := I.el t0 (by simp)
    have h1 := I.el t1 (by simp)
    refine ⟨b, c, t0.s, t1.s, rfl, r0 0 _ rfl, r0 1 _ rfl, r1 0 _ rfl, r1 1 _ rfl, ?_, ?_⟩
    · obtain ⟨s, k1, _, k3, _⟩ := h0.1.ins h0.2.2 h0.2.1
      obtain ⟨s1, s2, s3⟩ := s
      injection k1 with k1 k2 k4
      simp only at k1 k2 k4
      subst k1; subst k2; subst k4
      exact k3
    · obtain ⟨s, k1, _, k3, _⟩ := h1.1.ins h1.2.2 h1.2.1
      obtain ⟨s1, s2, s3⟩ := s
      injection k1 with k1 k2 k4
      simp only at k1 k2 k4
      subst k1; subst k2; subst k4
      exact k3
set_option maxRecDepth 100000 in
set_option maxHeartbeats 4000000 in
theorem works16_any (w : World) : Calls Tryz.prog 19 #[] w fun e w' => e = .returned (.bool true) ∧ Below w.heap.size w w' := by
  have t1 : Hid True := trivial
  have t2 : Hid True := trivial
  have t3 : Hid True := trivial
  have t4 : Hid True := trivial
  have t5 : Hid True := trivial
  have t6 : Hid True := trivial
  have t7 : Hid True := trivial
  have f1 : GZ.new.addN pA = 1 := by decide
  have f2 : GZ.new.addE pA = 0 := by decide
  have f3 : zA.addN pB = 2 := by decide
  have f4 : zA.addE pB = 0 := by decide
  have f9 : ids zB.l = [1, 2] := by decide
  have f5 : zB.l.length ≤ 100 := by decide
  have f6 : ∀ p ∈ zB.l, p.needs.length ≤ 6 := by
    have : (zB.l.all fun p => decide (p.needs.length ≤ 6)) = true := by decide
    intro p hp
    simpa using List.all_eq_true.1 this p hp
  have wf4 : wfi 4 := wfi_of (by decide)
  have wf3 : wfi 3 := wfi_of (by decide)
  have wf2 : wfi 2 := wfi_of (by decide)
  have wf1 : wfi 1 := wfi_of (by decide)
  go_enter Tryz.func19, Tryz.ntmps19
  go_wp2_with (first
    | (go_at_call 20; refine (new_1 _).mono ?_; rintro e w1 ⟨g, rfl, G, b1⟩
       have bd1 := one_b w1 1 (by decide)
       have ba1 : Below w1.heap.size w1 (w1.alloc (.cells #[.int .u8 1] 5)) := (Below.refl _ w1).alloc (Nat.le_refl _) _)
    | (clear t1; refine at_bldPA (by rfl) _ _ (by rfl) ⟨some ⟨w1.heap.size, 0, none⟩, 1, 1⟩ (by rfl) (by rfl) ?_)
    | (go_at_call 24; clear t2; refine (add_1 G ba1 pA ⟨some ⟨w1.heap.size, 0, none⟩, 1, 1⟩ Sv.nil wfA ⟨bd1, InsS.nil _, inE_at (Nat.le_refl _), InE.nil _⟩ (by decide) (by decide) (by decide) (Nat.le_trans b1.size ba1.size)).mono ?_; rw [f1, f2]; rintro e w2 ⟨rfl, G2, b2⟩
       replace b2 : Below w.heap.size w w2 := (bnext b1 ba1 (Nat.le_refl _)).trans b2
       have G2' : G1 w.heap.size w2 g zA := G2
       have bd2 := one_b w2 1 (by decide)
       have bi2 := one_i (w2.alloc (.cells #[.int .u8 1] 5)) 1 wf1
       have ba2 : Below w2.heap.size w2 (w2.alloc (.cells #[.int .u8 1] 5)) := (Below.refl _ w2).alloc (Nat.le_refl _) _
       have bb2 : Below w2.heap.size w2 ((w2.alloc (.cells #[.int .u8 1] 5)).alloc (.cells #[.int .i64 1] 3)) := ba2.alloc ba2.size _
       have bc2 : Below (w2.alloc (.cells #[.int .u8 1] 5)).heap.size (w2.alloc (.cells #[.int .u8 1] 5)) ((w2.alloc (.cells #[.int .u8 1] 5)).alloc (.cells #[.int .i64 1] 3)) := (Below.refl _ _).alloc (Nat.le_refl _) _
       replace bd2 := bd2.later bc2
       have eh : (w2.alloc (.cells #[.int .u8 1] 5)).heap.size = w2.heap.size + 1 := by simp
       rw [eh] at bi2
       clear G2 G f1 f2 bd1 ba1 eh)
    | (clear t3; refine at_bldPB (by rfl) _ _ _ (by rfl) ⟨some ⟨w2.heap.size, 0, none⟩, 1, 1⟩ ⟨some ⟨w2.heap.size + 1, 0, none⟩, 1, 1⟩ (by rfl) (by rfl) (by rfl) ?_)
    | (go_at_call 24; clear t4; refine (add_1 G2' bb2 pB ⟨some ⟨w2.heap.size, 0, none⟩, 1, 1⟩ ⟨some ⟨w2.heap.size + 1, 0, none⟩, 1, 1⟩ wfB ⟨bd2, bi2, inE_at (Nat.le_refl _), inE_at (Nat.le_succ _)⟩ (by decide) (by decide) (by decide) (Nat.le_trans b2.size bb2.size)).mono ?_; rw [f3, f4]; rintro e w3 ⟨rfl, G3, b3⟩
       replace b3 : Below w.heap.size w w3 := (bnext b2 bb2 (Nat.le_refl _)).trans b3
       have G3' : G1 w.heap.size w3 g zB := G3
       have bi3 := one_i w3 2 wf2
       have ba3 : Below w3.heap.size w3 (w3.alloc (.cells #[.int .i64 2] 3)) := (Below.refl _ w3).alloc (Nat.le_refl _) _
       have G3'' := G3'.later ba3
       have hBa : Calls Tryz.prog 6 #[.pointer (some ⟨g, 0, none⟩), .slice (some ⟨w3.heap.size, 0, none⟩) 1 1] (w3.alloc (.cells #[.int .i64 2] 3)) fun e w' => ∃ v, e = .returned v ∧ BtS w' 35 (w3.alloc (.cells #[.int .i64 2] 3)).heap.size v (btL [2] zB 2) ∧ Below (w3.alloc (.cells #[.int .i64 2] 3)).heap.size (w3.alloc (.cells #[.int .i64 2] 3)) w' := by
         obtain ⟨⟨E, F, ⟨mp, mw, f, fw, H⟩, _, _⟩, _⟩ := G3''
         exact batches_any H bi3 (by decide) f5 f6 two_ends (by decide)
       rw [two_list] at hBa
       clear G3 G2' f3 f4 bd2 bi2 ba2 bb2 bc2 bi3 G3'')
    | (go_at_call 6; refine hBa.mono ?_; rintro e w5 ⟨v5, rfl, L5, b5⟩; clear hBa
       obtain ⟨b, c, s0, s1, rfl, c0, c1, c2, c3, i0, i1⟩ := bts_two L5
       have b35 := bnext ba3 b5 (Nat.le_refl _)
       have B5 := bnext b3 b35 (Nat.le_refl _)
       have G5 := G3'.later b35
       have bi5 := one_i w5 3 wf3
       have ba5 : Below w5.heap.size w5 (w5.alloc (.cells #[.int .i64 3] 3)) := (Below.refl _ w5).alloc (Nat.le_refl _) _
       clear L5 b5 G3' ba3 b35)
    | (go_at_call 12; clear t7; refine (same_any (a := s0) (b := ⟨some ⟨w5.heap.size, 0, none⟩, 1, 1⟩) (i0.later ba5) bi5 (by decide)).mono ?_; rintro e w6 ⟨rfl, b6⟩
       have b56 := bnext ba5 b6 (Nat.le_refl _)
       have S56 := Stp.of_below b56 (fun _ => False)
       have d1 := S56.cell c1 id
       have d2 := S56.cell c2 id
       have d3 := S56.cell c3 id
       have i1' := i1.later b56
       have G6 := G5.later b56
       have B6 := bnext B5 b56 (Nat.le_refl _)
       have bi6 := one_i w6 4 wf4
       have ba6 : Below w6.heap.size w6 (w6.alloc (.cells #[.int .i64 4] 3)) := (Below.refl _ w6).alloc (Nat.le_refl _) _
       clear G5 i0 bi5 ba5 b6 b56 S56)
    | (go_at_call 12; clear t6; refine (same_any (a := s1) (b := ⟨some ⟨w6.heap.size, 0, none⟩, 1, 1⟩) (i1'.later ba6) bi6 (by decide)).mono ?_; rintro e w7 ⟨rfl, b7⟩
       have b67 := bnext ba6 b7 (Nat.le_refl _)
       have S67 := Stp.of_below b67 (fun _ => False)
       have h3 := S67.cell d3 id
       have G7 := G6.later b67
       have B7 := bnext B6 b67 (Nat.le_refl _)
       clear G6 i1' bi6 ba6 b7 b67 S67)
    | (go_at_call 13; refine (all_1 G7).mono ?_; rw [f9]; rintro e w9 ⟨⟨va, vn, vc⟩, rfl, i9, _, b9⟩
       have hvn : vn = 2 := i9.i.len.symm
       subst hvn
       have B9 := bnext B7 b9 (Nat.le_refl _)
       clear f9 b9 i9))
  go_returns
  exact ⟨rfl, B9⟩
end Go.Proofs.YtdfifneikmlmoaaGreat

namespace Go.Proofs.YtdfifneikmlmoaaGreat
open Go.ChangeShapes Go.WideShapes Go.ChangeAt Go.RowKit
set_option linter.unusedVariables false
set_option linter.unusedSimpArgs false

theorem GZ.ok.bump {Z : GZ} (h : Z.ok 2000) (hlt : Z.last < 2000) : (⟨Z.last + 1, Z.l⟩ : GZ).ok 2000 :=
  ⟨h.srt, fun p hp => by have := h.rng p hp; exact ⟨this.1, by simp only; omega⟩, h.ft, h.nds, h.wf, by have := h.l0; simp only; omega, by simp only; omega⟩
theorem GZ.ok.snoc {Z : GZ} (h : Z.ok 2000) (hlt : Z.last < 2000) {p : Pt} (hf : fit p = true) (hg : givn Z.last p.needs = true) (hw : wfi p.own ∧ wfi p.child) : (⟨Z.last + 1, Z.l ++ [{ p with id := Z.last + 1, wr := false }]⟩ : GZ).ok 2000 := by
  have l0 := h.l0
  refine ⟨?_, fun q hq => ?_, fun q hq => ?_, fun q hq => ?_, fun q hq => ?_, by simp only; omega, by simp only; omega⟩
  · simp only
    rw [List.pairwise_append]
    refine ⟨h.srt, List.pairwise_singleton _ _, fun a ha b hb => ?_⟩
    rw [List.mem_singleton.1 hb]
    have := h.rng a ha
    simp only; omega
  · simp only at hq
    rcases List.mem_append.1 hq with hq | hq
    · have := h.rng q hq; simp only; omega
    · rw [List.mem_singleton.1 hq]; simp only; omega
  · simp only at hq
    rcases List.mem_append.1 hq with hq | hq
    · exact h.ft q hq
    · rw [List.mem_singleton.1 hq]; exact hf
  · simp only at hq
    rcases List.mem_append.1 hq with hq | hq
    · exact h.nds q hq
    · rw [List.mem_singleton.1 hq]
      intro x hx
      unfold givn at hg
      have := List.all_eq_true.1 hg x hx
      simp at this
      simp only; omega
  · simp only at hq
    rcases List.mem_append.1 hq with hq | hq
    · exact h.wf q hq
    · rw [List.mem_singleton.1 hq]; exact hw
theorem Rf.bump {w : World} {g : Nat} {Z : GZ} {a : Option Addr} {c : Nat} {L : List Pe} {R : Nat → Prop} (H : Rf w g Z a c L R) (hlt : Z.last < 2000) : Rf (w.setCell ⟨g, 0, none⟩ (.int .i64 (Z.last + 1))) g ⟨Z.last + 1, Z.l⟩ a c L R := by
  have s : Stp (fun x => x = g) w (w.setCell ⟨g, 0, none⟩ (.int .i64 (Z.last + 1))) := (Stp.refl (fun x => x = g) w).setCell (p := ⟨g, 0, none⟩) (.inl rfl) _
  have hR : ∀ x, R x → ¬ x = g := fun x hx e => H.rg (e ▸ hx)
  exact ⟨H.cc.set 0 (.int .i64 (Z.last + 1)) rfl, H.row.step s (fun r hr => hR r (H.rv r hr)), fun t ht => (H.ms t ht).step s hR, H.rv, H.rg, fun x hx => Nat.lt_of_lt_of_le (H.lt x hx) s.size, H.eq, H.ok.bump hlt, H.nl⟩
/-- The graph with one more. -/
theorem Rf.added {w W w' : World} {g : Nat} {Z : GZ} {a : Option Addr} {c : Nat} {L : List Pe} {R : Nat → Prop} (H : Rf W g ⟨Z.last + 1, Z.l⟩ a c L R) (hw : w.heap.size ≤ W.heap.size) (ok : Z.ok 2000) (hlt : Z.last < 2000) {p : Pt} {d n : Sv} {xa : Option Addr} {xn xc : Nat} (hf : fit p = true) (hg : givn Z.last p.needs = true) (hwf : p.wfp) (hn : p.needs.length ≤ 100000)
    (ho : OwP w' (.slice xa xn xc) (L ++ [⟨{ p with id := Z.last + 1, wr := false }, d, n⟩])) (hv : ∀ r, (Value.slice xa xn xc).ownBlock = some r → Made w w' r ∧ r ≠ g) (hc : Cs w' g [.int .i64 (Z.last + 1), .slice xa xn xc]) (hs : Stp (fun x => x = g ∨ W.heap.size ≤ x) W w') (m : PtM w' (fun x => Made w w' x ∧ x ≠ g) p d n) :
    Rh w' g ⟨Z.last + 1, Z.l ++ [{ p with id := Z.last + 1, wr := false }]⟩ (fun x => (R x ∨ Made w w' x) ∧ x ≠ g) := by
  obtain ⟨ya, yc, e, _⟩ := ho.shape
  injection e with e1 e2 e3
  subst e2
  have key : ∀ x, R x → ¬ (x = g ∨ W.heap.size ≤ x) := fun x hx e => by
    rcases e with e | e
    · exact H.rg (e ▸ hx)
    · have := H.lt x hx; omega
  refine ⟨xa, xc, _, hc, ho, fun u hu => ?_, fun r hr => ⟨.inr (hv r hr).1, (hv r hr).2⟩, fun e => e.2 rfl, fun x hx => ?_, ?_, ok.snoc hlt hf hg ⟨hwf.w, hwf.c⟩, fun q hq => ?_⟩
  · rcases List.mem_append.1 hu with hu | hu
    · exact ((H.ms u hu).step hs key).mono (fun x hx => ⟨.inl hx, fun e => H.rg (e ▸ hx)⟩)
    · rw [List.mem_singleton.1 hu]
      exact (PtM.mono m (fun x hx => ⟨.inr hx.1, hx.2⟩)).other rfl rfl
  · rcases hx.1 with e | e
    · have := H.lt x e; have := hs.size; omega
    · exact e.2
  · have := H.eq
    simp only at this
    rw [List.map_append, this]; rfl
  · simp only at hq
    rcases List.mem_append.1 hq with hq | hq
    · exact H.nl q hq
    · rw [List.mem_singleton.1 hq]; exact hn
theorem ob_eq {b n c r : Nat} (h : (Value.slice (some ⟨b, 0, none⟩) n c).ownBlock = some r) : b = r := by simpa [Value.ownBlock] using h
theorem ow_11 {w w' : World} {B : Nat} {v v' : Value} {L : List Pe} (hA : Apd w B 54 9 v ([] : List Pe).length L.length (fl [] ++ fl L) v' w') : OwP w' v' L := by
  have := hA.1
  rw [List.length_nil, Nat.zero_add, fl_nil, List.nil_append] at this
  exact this
theorem ow_12 {w w' : World} {B : Nat} {v v' : Value} {L : List Pe} {t : Pe} (hA : Apd w B 54 9 v L.length 1 (fl L ++ t.cs) v' w') : OwP w' v' (L ++ [t]) := by
  unfold OwP
  rw [fl_append, fl_cons, fl_nil, List.append_nil]
  simpa using hA.1
theorem step_bs0P {ops : Array Oper} {o : Oper} {a : Act} {w : World} {K : Act → World → Prop} {Q : Exit → Act → World → Prop} {R : Prop} (hgd : o.guard = none) (ho : o.op = .buildSlice 22 0 #[])
    (h : ∀ g w', w.heap.size ≤ g → OwP w' (.slice (some ⟨g, 0, none⟩) 0 0) [] → Below w.heap.size w w' → K (a.put o.dst (.slice (some ⟨g, 0, none⟩) 0 0)) w') : if Region.wanted o (yielded ops a.tmps) = true then Oper.wp Tryz.prog o a w K Q else R := by
  have hw : Region.wanted o (yielded ops a.tmps) = true := by simp [Region.wanted, hgd]
  rw [if_pos hw]
  have h0 : (Instr.buildSlice 22 0 #[]).run Tryz.prog w = .ok (.slice (some ⟨w.heap.size, 0, none⟩) 0 0) (w.alloc (.cells #[] 54)) := by kernel_rfl
  have hr : (execOp a.eval o).run Tryz.prog w = .ok (.value (.slice (some ⟨w.heap.size, 0, none⟩) 0 0)) (w.alloc (.cells #[] 54)) := by simp [execOp, ho, h0]
  unfold Oper.wp
  rw [hr]
  exact h w.heap.size _ (Nat.le_refl _) (World.ownsRow_made w #[] 0 (Nat.zero_le _) (Nat.zero_le _) rfl) ((Below.refl _ w).alloc (Nat.le_refl _) _)
theorem step_bs1P {ops : Array Oper} {o : Oper} {a : Act} {w : World} {K : Act → World → Prop} {Q : Exit → Act → World → Prop} {R : Prop} (hgd : o.guard = none) (x : Operand) (ho : o.op = .buildSlice 22 1 #[(0, x)]) (t : Pe) (hx : a.eval x = .agg t.cs.toArray)
    (h : ∀ g w', w.heap.size ≤ g → Cs w' g t.cs → Below w.heap.size w w' → K (a.put o.dst (.slice (some ⟨g, 0, none⟩) 1 1)) w') : if Region.wanted o (yielded ops a.tmps) = true then Oper.wp Tryz.prog o a w K Q else R := by
  have hw : Region.wanted o (yielded ops a.tmps) = true := by simp [Region.wanted, hgd]
  rw [if_pos hw]
  have hr : (execOp a.eval o).run Tryz.prog w = .ok (.value (.slice (some ⟨w.heap.size, 0, none⟩) 1 1)) (w.alloc (.cells t.cs.toArray 54)) := by simp [execOp, ho, hx, bslice_p]
  unfold Oper.wp
  rw [hr]
  exact h w.heap.size _ (Nat.le_refl _) (Cs.made w t.cs _ t.cs_one) ((Below.refl _ w).alloc (Nat.le_refl _) _)
set_option maxRecDepth 100000 in
set_option maxHeartbeats 4000000 in
theorem radd_any {w : World} {g : Nat} {Z : GZ} {a : Option Addr} {c : Nat} {L : List Pe} {R E : Nat → Prop} (H : Rf w g Z a c L R) (p : Pt) (d n : Sv) (hp : p.wfp) (hpm : PtM w E p d n) (hE : ∀ x, E x → x ≠ g) (hlt : Z.last < 2000) (hd : p.data.length ≤ 100000) (hn : p.needs.length ≤ 100000) :
    Calls Tryz.prog 25 #[.pointer (some ⟨g, 0, none⟩), .agg (p.cs d n).toArray] w fun e w' => e = .returned (.tuple #[.int .i64 (Z.addN p), .int .i64 (Z.addE p)]) ∧ Rh w' g (Z.add p) (fun x => (R x ∨ Made w w' x) ∧ x ≠ g) ∧ Stp (fun x => x = g) w w' := by
  have t1 : True := trivial
  have h1 := wfi_to hp.s
  have h2 := wfi_to hp.o
  have h3 := wfi_to hp.k
  have hdl := hpm.bs.len
  have hnl := hpm.is.i.len
  obtain ⟨da, dn, dc⟩ := d
  obtain ⟨na, nn, nc⟩ := n
  simp only at hdl hnl
  subst hdl
  subst hnl
  have hdm : p.data.length ≤ maxLen := Nat.le_trans hpm.bs.le hpm.bs.cap
  have hnm : p.needs.length ≤ maxLen := Nat.le_trans hpm.is.i.le hpm.is.i.cap
  have hl2 : (p.data.length : Int) ≤ 100000 := by omega
  have hl1 : (0 : Int) ≤ (p.data.length : Int) := by omega
  obtain ⟨most, hmost⟩ : ∃ m : Int, Hid (m = if p.kind = 0 then 64 else 54) := ⟨_, rfl⟩
  have hm1 : most = 64 ∨ most = 54 := by rw [hmost.out]; split; exact .inl rfl; exact .inr rfl
  have hFit : Hid ((!fit p) = (decide (p.at' < 0) || decide (2047 < p.at') || decide (p.kind < 0) || decide (6 < p.kind) || decide ((p.data.length : Int) = 0) || decide (most < (p.data.length : Int)) || decide (p.off < 0) || decide (most - (p.data.length : Int) < p.off))) := by
    show _ = _
    unfold fit
    rw [← hmost.out, Bool.eq_iff_iff]
    simp only [Bool.not_eq_true', Bool.and_eq_false_iff, Bool.or_eq_true, decide_eq_true_eq, decide_eq_false_iff_not]
    omega
  go_enter Tryz.func25, Tryz.ntmps25
  go_upto_if 11 with (first
    | (clear t1; refine at_boxP (by rfl) _ (by rfl) p ⟨da, p.data.length, dc⟩ ⟨na, p.needs.length, nc⟩ (by rfl) ?_; intro g1 w1 a1 a2 r1 b1; obtain ⟨c0, c1, c2, c3, c4, c5, c6, c7, c8⟩ := Pt.cells r1))
  generalize (p.cs ⟨da, p.data.length, dc⟩ ⟨na, p.needs.length, nc⟩).toArray = AV
  go_cut [6] (fun u wx => u = .int .i64 most ∧ wx = w1)
  case first =>
    by_cases hk : p.kind = 0
    · have e : most = 64 := by rw [hmost.out, if_pos hk]
      go_wp2_with fail
      go_meet
      exact ⟨by rw [e], rfl⟩
    · have e : most = 54 := by rw [hmost.out, if_neg hk]
      go_wp2_with fail
      go_meet
      exact ⟨by rw [e], rfl⟩
  case rest =>
    obtain ⟨rfl, e0⟩ := hcut
    subst wc
    go_upto_region 4 with fail
    go_cut [57] (fun u wx => u = .bool (!fit p) ∧ wx = w1)
    case first =>
      go_wp2_with fail
      all_goals
        go_meet
        refine ⟨?_, rfl⟩
        rw [hFit.out]
        first
          | rfl
          | (refine congrArg Value.bool (Eq.symm ?_); simp only [Bool.or_eq_true, decide_eq_true_eq]; omega)
          | (refine congrArg Value.bool (Eq.symm ?_); simp only [Bool.or_eq_true, decide_eq_true_eq]; have h0 : p.data.length = 0 := by (rename_i h0; rw [h0]; rfl)
             omega)
    case rest =>
      obtain ⟨rfl, e0⟩ := hcut
      subst wc
      have z0' := H.cells.1
      have bad : ∀ {w'}, Below w.heap.size w w' → Z.addOk p = false → Hid (Z.addN p = 0) ∧ Hid (Z.addE p = 2) ∧ Rh w' g (Z.add p) (fun x => (R x ∨ Made w w' x) ∧ x ≠ g) ∧ Stp (fun x => x = g) w w' := fun {w'} hb hk => by
        have e : Z.add p = Z := by unfold GZ.add; rw [hk]; rfl
        refine ⟨?_, ?_, ?_, Stp.of_below hb _⟩
        · show _ = _; unfold GZ.addN; rw [hk]; rfl
        · show _ = _; unfold GZ.addE; rw [hk]; rfl
        · rw [e]
          exact ⟨a, c, L, (H.later hb).mono (fun x hx => ⟨.inl hx, fun e => H.rg (e ▸ hx)⟩) (fun e => e.2 rfl) (fun x hx => hx.1.elim ((H.later hb).lt x) (fun e => e.2))⟩
      clear hFit hmost
      obtain ⟨ft, hft⟩ : ∃ f, Hid (fit p = f) := ⟨_, rfl⟩
      rw [hft.out]
      cases ft with
      | false =>
        have hbd : Hid (Z.addOk p = false) := (by unfold GZ.addOk; rw [hft.out]; rfl : Z.addOk p = false)
        go_wp2_with fail
        go_returns
        have hb2 := bad b1 hbd.out
        exact ⟨by rw [hb2.1.out, hb2.2.1.out]; rfl, hb2.2.2⟩
      | true =>
        go_wp2_with fail
        go_loopw [7] (fun v wr => ∃ i : Nat, i ≤ p.needs.length ∧ v = .int .i64 (i : Int) ∧ givn Z.last (p.needs.take i) = true ∧ Below w1.heap.size w1 wr) (fun v _ => p.needs.length - (intOf v).toNat)
        case atStart => exact ⟨0, Nat.zero_le _, rfl, rfl, Below.refl _ _⟩
        case round =>
          clear c0 c1 c2 c3 c4 c5 c6 c7 c8
          obtain ⟨i, hi, rfl, hgv, B⟩ := hrel
          have rB := r1.later B
          have k5 := (Pt.cells rB).2.2.2.2.2.1
          have HB := H.later (bnext b1 B (Nat.le_refl _))
          obtain ⟨z0, z1⟩ := HB.cells
          have a8 : (0 : Int) ≤ (i : Int) := by omega
          by_cases hil : i < p.needs.length
          · have a9 : (i : Int) < (p.needs.length : Int) := by omega
            have mB := hpm.later (bnext b1 B (Nat.le_refl _))
            obtain ⟨nb, no, en, hnc⟩ := mB.is.i.cell (by show 0 < p.needs.length; omega)
            simp only at en
            subst en
            have cn := hnc i hil
            have hst := givn_take Z.last p.needs i hil hgv
            have hno := fun h => givn_no Z.last p.needs (i + 1) h
            generalize p.needs.getD i 0 = x at *
            clear hnc
            go_wp2_with fail
            refine wp_region_held_drew (S := fun u => Below wr.heap.size wr u) (by kernel_rfl) (Below.refl _ _).drew (fun hHeld => ?_)
            by_cases hx1 : x < 1
            · have hbd : Hid (Z.addOk p = false) := (by unfold GZ.addOk; rw [hno (by rw [hst]; simp; omega)]; simp : Z.addOk p = false)
              refine wpAnyH_take (i := 0) (oi := { dst := some 65, op := Op.fieldAddr 54 (Operand.tmp 3) 5, type := 0, pos := _, after := #[], guard := none }) (v := .pointer (some ⟨g1, 5, none⟩)) rfl (by kernel_rfl) (by kernel_rfl) (by kernel_rfl) (fun _ _ _ h => h) (Or.inl ⟨by rfl, ?_⟩) hHeld ?_
              · intro u hu
                go_simp
              try simp only [Act.put, List.setIfInBounds_toArray, List.set_cons_zero, List.set_cons_succ]
              refine wpAnyH_take (i := 1) (oi := { dst := some 66, op := Op.load 23 (Operand.tmp 65), type := 23, pos := _, after := #[{ on := 0, ground := Ground.data }], guard := none }) (v := .slice (some ⟨nb, no, none⟩) p.needs.length nc) rfl (by kernel_rfl) (by kernel_rfl) (by kernel_rfl) (fun _ _ _ h => h) (Or.inl ⟨by rfl, ?_⟩) hHeld ?_
              · intro u hu
                have x1 := (Stp.of_below hu (fun _ => False)).cell k5 id; go_simp
              try simp only [Act.put, List.setIfInBounds_toArray, List.set_cons_zero, List.set_cons_succ]
              refine wpAnyH_take (i := 2) (oi := { dst := some 67, op := Op.move (Operand.tmp 7), type := 3, pos := _, after := #[], guard := none }) (v := .int .i64 (i : Int)) rfl (by kernel_rfl) (by kernel_rfl) (by kernel_rfl) (fun _ _ _ h => h) (Or.inl ⟨by rfl, ?_⟩) hHeld ?_
              · intro u hu
                go_simp
              try simp only [Act.put, List.setIfInBounds_toArray, List.set_cons_zero, List.set_cons_succ]
              refine wpAnyH_take (i := 3) (oi := { dst := some 68, op := Op.indexAddr 23 (Operand.tmp 66) (Operand.tmp 67), type := 0, pos := _, after := #[{ on := 1, ground := Ground.data }, { on := 2, ground := Ground.data }], guard := none }) (v := .pointer (some ⟨nb, no + i, none⟩)) rfl (by kernel_rfl) (by kernel_rfl) (by kernel_rfl) (fun _ _ _ h => h) (Or.inl ⟨by rfl, ?_⟩) hHeld ?_
              · intro u hu
                go_simp
              try simp only [Act.put, List.setIfInBounds_toArray, List.set_cons_zero, List.set_cons_succ]
              refine wpAnyH_take (i := 4) (oi := { dst := some 69, op := Op.load 3 (Operand.tmp 68), type := 3, pos := _, after := #[{ on := 3, ground := Ground.data }], guard := none }) (v := .int .i64 x) rfl (by kernel_rfl) (by kernel_rfl) (by kernel_rfl) (fun _ _ _ h => h) (Or.inl ⟨by rfl, ?_⟩) hHeld ?_
              · intro u hu
                have x1 := (Stp.of_below hu (fun _ => False)).cell cn id; go_simp
              try simp only [Act.put, List.setIfInBounds_toArray, List.set_cons_zero, List.set_cons_succ]
              refine wpAnyH_take (i := 5) (oi := { dst := some 70, op := Op.binOp BinOp.lss 3 (Operand.tmp 69) (Operand.const (Value.int IntKind.i64 1)) 3, type := 4, pos := _, after := #[{ on := 4, ground := Ground.data }], guard := none }) (v := .bool true) rfl (by kernel_rfl) (by kernel_rfl) (by kernel_rfl) (fun _ _ _ h => h) (Or.inl ⟨by rfl, ?_⟩) hHeld ?_
              · intro u hu
                go_simp
              try simp only [Act.put, List.setIfInBounds_toArray, List.set_cons_zero, List.set_cons_succ]
              refine wpAnyH_take (i := 6) (oi := { dst := some 71, op := Op.move (Operand.tmp 70), type := 4, pos := _, after := #[{ on := 5, ground := Ground.data }], guard := none }) (v := .bool true) rfl (by kernel_rfl) (by kernel_rfl) (by kernel_rfl) (fun _ _ _ h => h) (Or.inl ⟨by rfl, ?_⟩) hHeld ?_
              · intro u hu
                go_simp
              try simp only [Act.put, List.setIfInBounds_toArray, List.set_cons_zero, List.set_cons_succ]
              refine wpAnyH_take (i := 7) (oi := { dst := some 72, op := Op.fieldAddr 54 (Operand.tmp 3) 5, type := 0, pos := _, after := #[{ on := 6, ground := Ground.guard }], guard := some (6, false) }) (v := undef) rfl (by kernel_rfl) (by kernel_rfl) (by kernel_rfl) (fun _ _ _ h => h)
                (Or.inr ⟨by rfl, rfl⟩) hHeld ?_
              try simp only [Act.put, List.setIfInBounds_toArray, List.set_cons_zero, List.set_cons_succ]
              refine wpAnyH_take (i := 8) (oi := { dst := some 73, op := Op.load 23 (Operand.tmp 72), type := 23, pos := _, after := #[{ on := 7, ground := Ground.data }, { on := 6, ground := Ground.guard }], guard := some (6, false) }) (v := undef) rfl (by kernel_rfl) (by kernel_rfl) (by kernel_rfl) (fun _ _ _ h => h)
                (Or.inr ⟨by rfl, rfl⟩) hHeld ?_
              try simp only [Act.put, List.setIfInBounds_toArray, List.set_cons_zero, List.set_cons_succ]
              refine wpAnyH_take (i := 9) (oi := { dst := some 74, op := Op.move (Operand.tmp 7), type := 3, pos := _, after := #[{ on := 6, ground := Ground.guard }], guard := some (6, false) }) (v := undef) rfl (by kernel_rfl) (by kernel_rfl) (by kernel_rfl) (fun _ _ _ h => h)
                (Or.inr ⟨by rfl, rfl⟩) hHeld ?_
              try simp only [Act.put, List.setIfInBounds_toArray, List.set_cons_zero, List.set_cons_succ]
              refine wpAnyH_take (i := 10) (oi := { dst := some 75, op := Op.indexAddr 23 (Operand.tmp 73) (Operand.tmp 74), type := 0, pos := _, after := #[{ on := 8, ground := Ground.data }, { on := 9, ground := Ground.data }, { on := 6, ground := Ground.guard }], guard := some (6, false) }) (v := undef) rfl (by kernel_rfl) (by kernel_rfl) (by kernel_rfl) (fun _ _ _ h => h)
                (Or.inr ⟨by rfl, rfl⟩) hHeld ?_
              try simp only [Act.put, List.setIfInBounds_toArray, List.set_cons_zero, List.set_cons_succ]
              refine wpAnyH_take (i := 11) (oi := { dst := some 76, op := Op.load 3 (Operand.tmp 75), type := 3, pos := _, after := #[{ on := 10, ground := Ground.data }, { on := 6, ground := Ground.guard }], guard := some (6, false) }) (v := undef) rfl (by kernel_rfl) (by kernel_rfl) (by kernel_rfl) (fun _ _ _ h => h)
                (Or.inr ⟨by rfl, rfl⟩) hHeld ?_
              try simp only [Act.put, List.setIfInBounds_toArray, List.set_cons_zero, List.set_cons_succ]
              refine wpAnyH_take (i := 12) (oi := { dst := some 77, op := Op.move (Operand.tmp 0), type := 25, pos := _, after := #[{ on := 6, ground := Ground.guard }], guard := some (6, false) }) (v := undef) rfl (by kernel_rfl) (by kernel_rfl) (by kernel_rfl) (fun _ _ _ h => h)
                (Or.inr ⟨by rfl, rfl⟩) hHeld ?_
              try simp only [Act.put, List.setIfInBounds_toArray, List.set_cons_zero, List.set_cons_succ]
              refine wpAnyH_take (i := 13) (oi := { dst := some 78, op := Op.nilCheck (Operand.tmp 77), type := 0, pos := _, after := #[{ on := 12, ground := Ground.data }, { on := 6, ground := Ground.guard }], guard := some (6, false) }) (v := undef) rfl (by kernel_rfl) (by kernel_rfl) (by kernel_rfl) (fun _ _ _ h => h)
                (Or.inr ⟨by rfl, rfl⟩) hHeld ?_
              try simp only [Act.put, List.setIfInBounds_toArray, List.set_cons_zero, List.set_cons_succ]
              refine wpAnyH_take (i := 14) (oi := { dst := some 79, op := Op.fieldAddr 57 (Operand.tmp 78) 0, type := 0, pos := _, after := #[{ on := 13, ground := Ground.data }, { on := 6, ground := Ground.guard }], guard := some (6, false) }) (v := undef) rfl (by kernel_rfl) (by kernel_rfl) (by kernel_rfl) (fun _ _ _ h => h)
                (Or.inr ⟨by rfl, rfl⟩) hHeld ?_
              try simp only [Act.put, List.setIfInBounds_toArray, List.set_cons_zero, List.set_cons_succ]
              refine wpAnyH_take (i := 15) (oi := { dst := some 80, op := Op.load 3 (Operand.tmp 79), type := 3, pos := _, after := #[{ on := 14, ground := Ground.data }, { on := 6, ground := Ground.guard }], guard := some (6, false) }) (v := undef) rfl (by kernel_rfl) (by kernel_rfl) (by kernel_rfl) (fun _ _ _ h => h)
                (Or.inr ⟨by rfl, rfl⟩) hHeld ?_
              try simp only [Act.put, List.setIfInBounds_toArray, List.set_cons_zero, List.set_cons_succ]
              refine wpAnyH_take (i := 16) (oi := { dst := some 81, op := Op.binOp BinOp.gtr 3 (Operand.tmp 76) (Operand.tmp 80) 3, type := 4, pos := _, after := #[{ on := 11, ground := Ground.data }, { on := 15, ground := Ground.data }, { on := 6, ground := Ground.guard }], guard := some (6, false) }) (v := undef) rfl (by kernel_rfl) (by kernel_rfl) (by kernel_rfl) (fun _ _ _ h => h)
                (Or.inr ⟨by rfl, rfl⟩) hHeld ?_
              try simp only [Act.put, List.setIfInBounds_toArray, List.set_cons_zero, List.set_cons_succ]
              refine wpAnyH_take (i := 17) (oi := { dst := some 82, op := Op.pick (Operand.tmp 71) (Operand.const (Value.bool true)) (Operand.tmp 81), type := 4, pos := _, after := #[{ on := 6, ground := Ground.data }, { on := 16, ground := Ground.data }], guard := none }) (v := .bool true) rfl (by kernel_rfl) (by kernel_rfl) (by kernel_rfl) (fun _ _ _ h => h) (Or.inl ⟨by rfl, ?_⟩) hHeld ?_
              · intro u hu
                go_simp
              try simp only [Act.put, List.setIfInBounds_toArray, List.set_cons_zero, List.set_cons_succ]
              refine wpAnyH_done (by kernel_rfl) ?_ _
              have B9 := bnext (bnext b1 B (Nat.le_refl _)) hHeld (Nat.le_refl _)
              go_wp2_with fail
              go_returns
              have hb2 := bad B9 hbd.out
              exact ⟨by rw [hb2.1.out, hb2.2.1.out]; rfl, hb2.2.2⟩
            · by_cases hx2 : Z.last < x
              · have hbd : Hid (Z.addOk p = false) := (by unfold GZ.addOk; rw [hno (by rw [hst]; simp; omega)]; simp : Z.addOk p = false)
                refine wpAnyH_take (i := 0) (oi := { dst := some 65, op := Op.fieldAddr 54 (Operand.tmp 3) 5, type := 0, pos := _, after := #[], guard := none }) (v := .pointer (some ⟨g1, 5, none⟩)) rfl (by kernel_rfl) (by kernel_rfl) (by kernel_rfl) (fun _ _ _ h => h) (Or.inl ⟨by rfl, ?_⟩) hHeld ?_
                · intro u hu
                  go_simp
                try simp only [Act.put, List.setIfInBounds_toArray, List.set_cons_zero, List.set_cons_succ]
                refine wpAnyH_take (i := 1) (oi := { dst := some 66, op := Op.load 23 (Operand.tmp 65), type := 23, pos := _, after := #[{ on := 0, ground := Ground.data }], guard := none }) (v := .slice (some ⟨nb, no, none⟩) p.needs.length nc) rfl (by kernel_rfl) (by kernel_rfl) (by kernel_rfl) (fun _ _ _ h => h) (Or.inl ⟨by rfl, ?_⟩) hHeld ?_
                · intro u hu
                  have x1 := (Stp.of_below hu (fun _ => False)).cell k5 id; go_simp
                try simp only [Act.put, List.setIfInBounds_toArray, List.set_cons_zero, List.set_cons_succ]
                refine wpAnyH_take (i := 2) (oi := { dst := some 67, op := Op.move (Operand.tmp 7), type := 3, pos := _, after := #[], guard := none }) (v := .int .i64 (i : Int)) rfl (by kernel_rfl) (by kernel_rfl) (by kernel_rfl) (fun _ _ _ h => h) (Or.inl ⟨by rfl, ?_⟩) hHeld ?_
                · intro u hu
                  go_simp
                try simp only [Act.put, List.setIfInBounds_toArray, List.set_cons_zero, List.set_cons_succ]
                refine wpAnyH_take (i := 3) (oi := { dst := some 68, op := Op.indexAddr 23 (Operand.tmp 66) (Operand.tmp 67), type := 0, pos := _, after := #[{ on := 1, ground := Ground.data }, { on := 2, ground := Ground.data }], guard := none }) (v := .pointer (some ⟨nb, no + i, none⟩)) rfl (by kernel_rfl) (by kernel_rfl) (by kernel_rfl) (fun _ _ _ h => h) (Or.inl ⟨by rfl, ?_⟩) hHeld ?_
                · intro u hu
                  go_simp
                try simp only [Act.put, List.setIfInBounds_toArray, List.set_cons_zero, List.set_cons_succ]
                refine wpAnyH_take (i := 4) (oi := { dst := some 69, op := Op.load 3 (Operand.tmp 68), type := 3, pos := _, after := #[{ on := 3, ground := Ground.data }], guard := none }) (v := .int .i64 x) rfl (by kernel_rfl) (by kernel_rfl) (by kernel_rfl) (fun _ _ _ h => h) (Or.inl ⟨by rfl, ?_⟩) hHeld ?_
                · intro u hu
                  have x1 := (Stp.of_below hu (fun _ => False)).cell cn id; go_simp
                try simp only [Act.put, List.setIfInBounds_toArray, List.set_cons_zero, List.set_cons_succ]
                refine wpAnyH_take (i := 5) (oi := { dst := some 70, op := Op.binOp BinOp.lss 3 (Operand.tmp 69) (Operand.const (Value.int IntKind.i64 1)) 3, type := 4, pos := _, after := #[{ on := 4, ground := Ground.data }], guard := none }) (v := .bool false) rfl (by kernel_rfl) (by kernel_rfl) (by kernel_rfl) (fun _ _ _ h => h) (Or.inl ⟨by rfl, ?_⟩) hHeld ?_
                · intro u hu
                  go_simp
                try simp only [Act.put, List.setIfInBounds_toArray, List.set_cons_zero, List.set_cons_succ]
                refine wpAnyH_take (i := 6) (oi := { dst := some 71, op := Op.move (Operand.tmp 70), type := 4, pos := _, after := #[{ on := 5, ground := Ground.data }], guard := none }) (v := .bool false) rfl (by kernel_rfl) (by kernel_rfl) (by kernel_rfl) (fun _ _ _ h => h) (Or.inl ⟨by rfl, ?_⟩) hHeld ?_
                · intro u hu
                  go_simp
                try simp only [Act.put, List.setIfInBounds_toArray, List.set_cons_zero, List.set_cons_succ]
                refine wpAnyH_take (i := 7) (oi := { dst := some 72, op := Op.fieldAddr 54 (Operand.tmp 3) 5, type := 0, pos := _, after := #[{ on := 6, ground := Ground.guard }], guard := some (6, false) }) (v := .pointer (some ⟨g1, 5, none⟩)) rfl (by kernel_rfl) (by kernel_rfl) (by kernel_rfl) (fun _ _ _ h => h) (Or.inl ⟨by rfl, ?_⟩) hHeld ?_
                · intro u hu
                  go_simp
                try simp only [Act.put, List.setIfInBounds_toArray, List.set_cons_zero, List.set_cons_succ]
                refine wpAnyH_take (i := 8) (oi := { dst := some 73, op := Op.load 23 (Operand.tmp 72), type := 23, pos := _, after := #[{ on := 7, ground := Ground.data }, { on := 6, ground := Ground.guard }], guard := some (6, false) }) (v := .slice (some ⟨nb, no, none⟩) p.needs.length nc) rfl (by kernel_rfl) (by kernel_rfl) (by kernel_rfl) (fun _ _ _ h => h) (Or.inl ⟨by rfl, ?_⟩) hHeld ?_
                · intro u hu
                  have x1 := (Stp.of_below hu (fun _ => False)).cell k5 id; go_simp
                try simp only [Act.put, List.setIfInBounds_toArray, List.set_cons_zero, List.set_cons_succ]
                refine wpAnyH_take (i := 9) (oi := { dst := some 74, op := Op.move (Operand.tmp 7), type := 3, pos := _, after := #[{ on := 6, ground := Ground.guard }], guard := some (6, false) }) (v := .int .i64 (i : Int)) rfl (by kernel_rfl) (by kernel_rfl) (by kernel_rfl) (fun _ _ _ h => h) (Or.inl ⟨by rfl, ?_⟩) hHeld ?_
                · intro u hu
                  go_simp
                try simp only [Act.put, List.setIfInBounds_toArray, List.set_cons_zero, List.set_cons_succ]
                refine wpAnyH_take (i := 10) (oi := { dst := some 75, op := Op.indexAddr 23 (Operand.tmp 73) (Operand.tmp 74), type := 0, pos := _, after := #[{ on := 8, ground := Ground.data }, { on := 9, ground := Ground.data }, { on := 6, ground := Ground.guard }], guard := some (6, false) }) (v := .pointer (some ⟨nb, no + i, none⟩)) rfl (by kernel_rfl) (by kernel_rfl) (by kernel_rfl) (fun _ _ _ h => h) (Or.inl ⟨by rfl, ?_⟩) hHeld ?_
                · intro u hu
                  go_simp
                try simp only [Act.put, List.setIfInBounds_toArray, List.set_cons_zero, List.set_cons_succ]
                refine wpAnyH_take (i := 11) (oi := { dst := some 76, op := Op.load 3 (Operand.tmp 75), type := 3, pos := _, after := #[{ on := 10, ground := Ground.data }, { on := 6, ground := Ground.guard }], guard := some (6, false) }) (v := .int .i64 x) rfl (by kernel_rfl) (by kernel_rfl) (by kernel_rfl) (fun _ _ _ h => h) (Or.inl ⟨by rfl, ?_⟩) hHeld ?_
                · intro u hu
                  have x1 := (Stp.of_below hu (fun _ => False)).cell cn id; go_simp
                try simp only [Act.put, List.setIfInBounds_toArray, List.set_cons_zero, List.set_cons_succ]
                refine wpAnyH_take (i := 12) (oi := { dst := some 77, op := Op.move (Operand.tmp 0), type := 25, pos := _, after := #[{ on := 6, ground := Ground.guard }], guard := some (6, false) }) (v := .pointer (some ⟨g, 0, none⟩)) rfl (by kernel_rfl) (by kernel_rfl) (by kernel_rfl) (fun _ _ _ h => h) (Or.inl ⟨by rfl, ?_⟩) hHeld ?_
                · intro u hu
                  go_simp
                try simp only [Act.put, List.setIfInBounds_toArray, List.set_cons_zero, List.set_cons_succ]
                refine wpAnyH_take (i := 13) (oi := { dst := some 78, op := Op.nilCheck (Operand.tmp 77), type := 0, pos := _, after := #[{ on := 12, ground := Ground.data }, { on := 6, ground := Ground.guard }], guard := some (6, false) }) (v := .pointer (some ⟨g, 0, none⟩)) rfl (by kernel_rfl) (by kernel_rfl) (by kernel_rfl) (fun _ _ _ h => h) (Or.inl ⟨by rfl, ?_⟩) hHeld ?_
                · intro u hu
                  go_simp
                try simp only [Act.put, List.setIfInBounds_toArray, List.set_cons_zero, List.set_cons_succ]
                refine wpAnyH_take (i := 14) (oi := { dst := some 79, op := Op.fieldAddr 57 (Operand.tmp 78) 0, type := 0, pos := _, after := #[{ on := 13, ground := Ground.data }, { on := 6, ground := Ground.guard }], guard := some (6, false) }) (v := .pointer (some ⟨g, 0, none⟩)) rfl (by kernel_rfl) (by kernel_rfl) (by kernel_rfl) (fun _ _ _ h => h) (Or.inl ⟨by rfl, ?_⟩) hHeld ?_
                · intro u hu
                  go_simp
                try simp only [Act.put, List.setIfInBounds_toArray, List.set_cons_zero, List.set_cons_succ]
                refine wpAnyH_take (i := 15) (oi := { dst := some 80, op := Op.load 3 (Operand.tmp 79), type := 3, pos := _, after := #[{ on := 14, ground := Ground.data }, { on := 6, ground := Ground.guard }], guard := some (6, false) }) (v := .int .i64 Z.last) rfl (by kernel_rfl) (by kernel_rfl) (by kernel_rfl) (fun _ _ _ h => h) (Or.inl ⟨by rfl, ?_⟩) hHeld ?_
                · intro u hu
                  have x1 := (Stp.of_below hu (fun _ => False)).cell z0 id; go_simp
                try simp only [Act.put, List.setIfInBounds_toArray, List.set_cons_zero, List.set_cons_succ]
                refine wpAnyH_take (i := 16) (oi := { dst := some 81, op := Op.binOp BinOp.gtr 3 (Operand.tmp 76) (Operand.tmp 80) 3, type := 4, pos := _, after := #[{ on := 11, ground := Ground.data }, { on := 15, ground := Ground.data }, { on := 6, ground := Ground.guard }], guard := some (6, false) }) (v := .bool true) rfl (by kernel_rfl) (by kernel_rfl) (by kernel_rfl) (fun _ _ _ h => h) (Or.inl ⟨by rfl, ?_⟩) hHeld ?_
                · intro u hu
                  go_simp
                try simp only [Act.put, List.setIfInBounds_toArray, List.set_cons_zero, List.set_cons_succ]
                refine wpAnyH_take (i := 17) (oi := { dst := some 82, op := Op.pick (Operand.tmp 71) (Operand.const (Value.bool true)) (Operand.tmp 81), type := 4, pos := _, after := #[{ on := 6, ground := Ground.data }, { on := 16, ground := Ground.data }], guard := none }) (v := .bool true) rfl (by kernel_rfl) (by kernel_rfl) (by kernel_rfl) (fun _ _ _ h => h) (Or.inl ⟨by rfl, ?_⟩) hHeld ?_
                · intro u hu
                  go_simp
                try simp only [Act.put, List.setIfInBounds_toArray, List.set_cons_zero, List.set_cons_succ]
                refine wpAnyH_done (by kernel_rfl) ?_ _
                have B9 := bnext (bnext b1 B (Nat.le_refl _)) hHeld (Nat.le_refl _)
                go_wp2_with fail
                go_returns
                have hb2 := bad B9 hbd.out
                exact ⟨by rw [hb2.1.out, hb2.2.1.out]; rfl, hb2.2.2⟩
              · have hst2 : givn Z.last (p.needs.take (i + 1)) = true := by rw [hst]; simp; omega
                refine wpAnyH_take (i := 0) (oi := { dst := some 65, op := Op.fieldAddr 54 (Operand.tmp 3) 5, type := 0, pos := _, after := #[], guard := none }) (v := .pointer (some ⟨g1, 5, none⟩)) rfl (by kernel_rfl) (by kernel_rfl) (by kernel_rfl) (fun _ _ _ h => h) (Or.inl ⟨by rfl, ?_⟩) hHeld ?_
                · intro u hu
                  go_simp
                try simp only [Act.put, List.setIfInBounds_toArray, List.set_cons_zero, List.set_cons_succ]
                refine wpAnyH_take (i := 1) (oi := { dst := some 66, op := Op.load 23 (Operand.tmp 65), type := 23, pos := _, after := #[{ on := 0, ground := Ground.data }], guard := none }) (v := .slice (some ⟨nb, no, none⟩) p.needs.length nc) rfl (by kernel_rfl) (by kernel_rfl) (by kernel_rfl) (fun _ _ _ h => h) (Or.inl ⟨by rfl, ?_⟩) hHeld ?_
                · intro u hu
                  have x1 := (Stp.of_below hu (fun _ => False)).cell k5 id; go_simp
                try simp only [Act.put, List.setIfInBounds_toArray, List.set_cons_zero, List.set_cons_succ]
                refine wpAnyH_take (i := 2) (oi := { dst := some 67, op := Op.move (Operand.tmp 7), type := 3, pos := _, after := #[], guard := none }) (v := .int .i64 (i : Int)) rfl (by kernel_rfl) (by kernel_rfl) (by kernel_rfl) (fun _ _ _ h => h) (Or.inl ⟨by rfl, ?_⟩) hHeld ?_
                · intro u hu
                  go_simp
                try simp only [Act.put, List.setIfInBounds_toArray, List.set_cons_zero, List.set_cons_succ]
                refine wpAnyH_take (i := 3) (oi := { dst := some 68, op := Op.indexAddr 23 (Operand.tmp 66) (Operand.tmp 67), type := 0, pos := _, after := #[{ on := 1, ground := Ground.data }, { on := 2, ground := Ground.data }], guard := none }) (v := .pointer (some ⟨nb, no + i, none⟩)) rfl (by kernel_rfl) (by kernel_rfl) (by kernel_rfl) (fun _ _ _ h => h) (Or.inl ⟨by rfl, ?_⟩) hHeld ?_
                · intro u hu
                  go_simp
                try simp only [Act.put, List.setIfInBounds_toArray, List.set_cons_zero, List.set_cons_succ]
                refine wpAnyH_take (i := 4) (oi := { dst := some 69, op := Op.load 3 (Operand.tmp 68), type := 3, pos := _, after := #[{ on := 3, ground := Ground.data }], guard := none }) (v := .int .i64 x) rfl (by kernel_rfl) (by kernel_rfl) (by kernel_rfl) (fun _ _ _ h => h) (Or.inl ⟨by rfl, ?_⟩) hHeld ?_
                · intro u hu
                  have x1 := (Stp.of_below hu (fun _ => False)).cell cn id; go_simp
                try simp only [Act.put, List.setIfInBounds_toArray, List.set_cons_zero, List.set_cons_succ]
                refine wpAnyH_take (i := 5) (oi := { dst := some 70, op := Op.binOp BinOp.lss 3 (Operand.tmp 69) (Operand.const (Value.int IntKind.i64 1)) 3, type := 4, pos := _, after := #[{ on := 4, ground := Ground.data }], guard := none }) (v := .bool false) rfl (by kernel_rfl) (by kernel_rfl) (by kernel_rfl) (fun _ _ _ h => h) (Or.inl ⟨by rfl, ?_⟩) hHeld ?_
                · intro u hu
                  go_simp
                try simp only [Act.put, List.setIfInBounds_toArray, List.set_cons_zero, List.set_cons_succ]
                refine wpAnyH_take (i := 6) (oi := { dst := some 71, op := Op.move (Operand.tmp 70), type := 4, pos := _, after := #[{ on := 5, ground := Ground.data }], guard := none }) (v := .bool false) rfl (by kernel_rfl) (by kernel_rfl) (by kernel_rfl) (fun _ _ _ h => h) (Or.inl ⟨by rfl, ?_⟩) hHeld ?_
                · intro u hu
                  go_simp
                try simp only [Act.put, List.setIfInBounds_toArray, List.set_cons_zero, List.set_cons_succ]
                refine wpAnyH_take (i := 7) (oi := { dst := some 72, op := Op.fieldAddr 54 (Operand.tmp 3) 5, type := 0, pos := _, after := #[{ on := 6, ground := Ground.guard }], guard := some (6, false) }) (v := .pointer (some ⟨g1, 5, none⟩)) rfl (by kernel_rfl) (by kernel_rfl) (by kernel_rfl) (fun _ _ _ h => h) (Or.inl ⟨by rfl, ?_⟩) hHeld ?_
                · intro u hu
                  go_simp
                try simp only [Act.put, List.setIfInBounds_toArray, List.set_cons_zero, List.set_cons_succ]
                refine wpAnyH_take (i := 8) (oi := { dst := some 73, op := Op.load 23 (Operand.tmp 72), type := 23, pos := _, after := #[{ on := 7, ground := Ground.data }, { on := 6, ground := Ground.guard }], guard := some (6, false) }) (v := .slice (some ⟨nb, no, none⟩) p.needs.length nc) rfl (by kernel_rfl) (by kernel_rfl) (by kernel_rfl) (fun _ _ _ h => h) (Or.inl ⟨by rfl, ?_⟩) hHeld ?_
                · intro u hu
                  have x1 := (Stp.of_below hu (fun _ => False)).cell k5 id; go_simp
                try simp only [Act.put, List.setIfInBounds_toArray, List.set_cons_zero, List.set_cons_succ]
                refine wpAnyH_take (i := 9) (oi := { dst := some 74, op := Op.move (Operand.tmp 7), type := 3, pos := _, after := #[{ on := 6, ground := Ground.guard }], guard := some (6, false) }) (v := .int .i64 (i : Int)) rfl (by kernel_rfl) (by kernel_rfl) (by kernel_rfl) (fun _ _ _ h => h) (Or.inl ⟨by rfl, ?_⟩) hHeld ?_
                · intro u hu
                  go_simp
                try simp only [Act.put, List.setIfInBounds_toArray, List.set_cons_zero, List.set_cons_succ]
                refine wpAnyH_take (i := 10) (oi := { dst := some 75, op := Op.indexAddr 23 (Operand.tmp 73) (Operand.tmp 74), type := 0, pos := _, after := #[{ on := 8, ground := Ground.data }, { on := 9, ground := Ground.data }, { on := 6, ground := Ground.guard }], guard := some (6, false) }) (v := .pointer (some ⟨nb, no + i, none⟩)) rfl (by kernel_rfl) (by kernel_rfl) (by kernel_rfl) (fun _ _ _ h => h) (Or.inl ⟨by rfl, ?_⟩) hHeld ?_
                · intro u hu
                  go_simp
                try simp only [Act.put, List.setIfInBounds_toArray, List.set_cons_zero, List.set_cons_succ]
                refine wpAnyH_take (i := 11) (oi := { dst := some 76, op := Op.load 3 (Operand.tmp 75), type := 3, pos := _, after := #[{ on := 10, ground := Ground.data }, { on := 6, ground := Ground.guard }], guard := some (6, false) }) (v := .int .i64 x) rfl (by kernel_rfl) (by kernel_rfl) (by kernel_rfl) (fun _ _ _ h => h) (Or.inl ⟨by rfl, ?_⟩) hHeld ?_
                · intro u hu
                  have x1 := (Stp.of_below hu (fun _ => False)).cell cn id; go_simp
                try simp only [Act.put, List.setIfInBounds_toArray, List.set_cons_zero, List.set_cons_succ]
                refine wpAnyH_take (i := 12) (oi := { dst := some 77, op := Op.move (Operand.tmp 0), type := 25, pos := _, after := #[{ on := 6, ground := Ground.guard }], guard := some (6, false) }) (v := .pointer (some ⟨g, 0, none⟩)) rfl (by kernel_rfl) (by kernel_rfl) (by kernel_rfl) (fun _ _ _ h => h) (Or.inl ⟨by rfl, ?_⟩) hHeld ?_
                · intro u hu
                  go_simp
                try simp only [Act.put, List.setIfInBounds_toArray, List.set_cons_zero, List.set_cons_succ]
                refine wpAnyH_take (i := 13) (oi := { dst := some 78, op := Op.nilCheck (Operand.tmp 77), type := 0, pos := _, after := #[{ on := 12, ground := Ground.data }, { on := 6, ground := Ground.guard }], guard := some (6, false) }) (v := .pointer (some ⟨g, 0, none⟩)) rfl (by kernel_rfl) (by kernel_rfl) (by kernel_rfl) (fun _ _ _ h => h) (Or.inl ⟨by rfl, ?_⟩) hHeld ?_
                · intro u hu
                  go_simp
                try simp only [Act.put, List.setIfInBounds_toArray, List.set_cons_zero, List.set_cons_succ]
                refine wpAnyH_take (i := 14) (oi := { dst := some 79, op := Op.fieldAddr 57 (Operand.tmp 78) 0, type := 0, pos := _, after := #[{ on := 13, ground := Ground.data }, { on := 6, ground := Ground.guard }], guard := some (6, false) }) (v := .pointer (some ⟨g, 0, none⟩)) rfl (by kernel_rfl) (by kernel_rfl) (by kernel_rfl) (fun _ _ _ h => h) (Or.inl ⟨by rfl, ?_⟩) hHeld ?_
                · intro u hu
                  go_simp
                try simp only [Act.put, List.setIfInBounds_toArray, List.set_cons_zero, List.set_cons_succ]
                refine wpAnyH_take (i := 15) (oi := { dst := some 80, op := Op.load 3 (Operand.tmp 79), type := 3, pos := _, after := #[{ on := 14, ground := Ground.data }, { on := 6, ground := Ground.guard }], guard := some (6, false) }) (v := .int .i64 Z.last) rfl (by kernel_rfl) (by kernel_rfl) (by kernel_rfl) (fun _ _ _ h => h) (Or.inl ⟨by rfl, ?_⟩) hHeld ?_
                · intro u hu
                  have x1 := (Stp.of_below hu (fun _ => False)).cell z0 id; go_simp
                try simp only [Act.put, List.setIfInBounds_toArray, List.set_cons_zero, List.set_cons_succ]
                refine wpAnyH_take (i := 16) (oi := { dst := some 81, op := Op.binOp BinOp.gtr 3 (Operand.tmp 76) (Operand.tmp 80) 3, type := 4, pos := _, after := #[{ on := 11, ground := Ground.data }, { on := 15, ground := Ground.data }, { on := 6, ground := Ground.guard }], guard := some (6, false) }) (v := .bool false) rfl (by kernel_rfl) (by kernel_rfl) (by kernel_rfl) (fun _ _ _ h => h) (Or.inl ⟨by rfl, ?_⟩) hHeld ?_
                · intro u hu
                  go_simp
                try simp only [Act.put, List.setIfInBounds_toArray, List.set_cons_zero, List.set_cons_succ]
                refine wpAnyH_take (i := 17) (oi := { dst := some 82, op := Op.pick (Operand.tmp 71) (Operand.const (Value.bool true)) (Operand.tmp 81), type := 4, pos := _, after := #[{ on := 6, ground := Ground.data }, { on := 16, ground := Ground.data }], guard := none }) (v := .bool false) rfl (by kernel_rfl) (by kernel_rfl) (by kernel_rfl) (fun _ _ _ h => h) (Or.inl ⟨by rfl, ?_⟩) hHeld ?_
                · intro u hu
                  go_simp
                try simp only [Act.put, List.setIfInBounds_toArray, List.set_cons_zero, List.set_cons_succ]
                refine wpAnyH_done (by kernel_rfl) ?_ _
                have B9 := bnext B hHeld (Nat.le_refl _)
                go_wp2_with fail
                go_roundw
                case rel => exact ⟨i + 1, by omega, by go_num, hst2, B9⟩
                case measure => simp [intOf]; omega
          · have a9 : ¬ (i : Int) < (p.needs.length : Int) := by omega
            rw [List.take_of_length_le (by omega)] at hgv
            have hl0 := H.ok.l0
            have fz := HB.cc.frozen 0
            have s3 : Stp (fun x => x = g) wr (wr.setCell ⟨g, 0, none⟩ (.int .i64 (Z.last + 1))) := (Stp.refl (fun x => x = g) wr).setCell (p := ⟨g, 0, none⟩) (.inl rfl) _
            have H3 := HB.bump hlt
            have hgg : g < w.heap.size := H.cc.lt
            have r3 := rB.step s3 (by omega)
            have m3 := (hpm.later (bnext b1 B (Nat.le_refl _))).step s3 (fun x hx e => hE x hx e)
            have S3 : Stp (fun x => x = g) w (wr.setCell ⟨g, 0, none⟩ (.int .i64 (Z.last + 1))) := (Stp.of_below (bnext b1 B (Nat.le_refl _)) (fun x => x = g)).next s3 (fun x hx => .inl hx)
            have hok : Z.addOk p = true := by unfold GZ.addOk; rw [hft.out, hgv]; rfl
            have eN : Hid (Z.addN p = Z.last + 1) := by show _ = _; unfold GZ.addN; rw [if_pos hok]
            have eE : Hid (Z.addE p = 0) := by show _ = _; unfold GZ.addE; rw [if_pos hok]
            have eZ : Hid (Z.add p = ⟨Z.last + 1, Z.l ++ [{ p with id := Z.last + 1, wr := false }]⟩) := by show _ = _; unfold GZ.add; rw [if_pos hok]
            have u1 : True := trivial
            have u2 : True := trivial
            have u3 : True := trivial
            clear hok bad
            go_upto_region 14 with (first
              | (clear u1; refine at_getP0 (by rfl) _ (by rfl) g1 (by rfl) p ⟨da, p.data.length, dc⟩ ⟨na, p.needs.length, nc⟩ r3 ?_)
              | (go_at_call 48; refine (rown_any m3 hd hn).mono ?_; rintro e w4 ⟨d', n', rfl, m4, b4⟩; have H4 := H3.later b4)
              | (clear u2; refine at_newP (by rfl) (by rfl) ?_; intro g8 w5 a3 a4 r5 b5; have H5 := H4.later b5)
              | (clear u3; refine at_putP (by rfl) _ _ (by rfl) g8 (by rfl) p d' n' (by rfl) _ r5 rfl ?_; intro w6 r6 s6
                 have g8l : w4.heap.size ≤ g8 := a3
                 have hg8 : g8 ≠ g := by have := H4.cc.lt; omega
                 have H6 := H5.step s6 (fun e => hg8 e.symm) (fun x hx e => by have := H4.lt x hx; omega)
                 obtain ⟨y0, y1⟩ := H6.cells
                 simp only at y0
                 have y3 := (Pt.cells r6).1
                 have y4 := r6.frozen 0
                 have y5 := (Pt.cells r6).2.2.2.2.2.2.2.2
                 have y6 := r6.frozen 8))
            have r7 : Cs ((w6.setCell ⟨g8, 0, none⟩ (.int .i64 (Z.last + 1))).setCell ⟨g8, 8, none⟩ (.bool false)) g8 (({ p with id := Z.last + 1, wr := false } : Pt).cs d' n') := (r6.set 0 (.int .i64 (Z.last + 1)) rfl).set 8 (.bool false) rfl
            have s7 : Stp (fun x => x = g8) w6 ((w6.setCell ⟨g8, 0, none⟩ (.int .i64 (Z.last + 1))).setCell ⟨g8, 8, none⟩ (.bool false)) := ((Stp.refl (fun x => x = g8) w6).setCell (p := ⟨g8, 0, none⟩) (.inl rfl) _).setCell (p := ⟨g8, 8, none⟩) (.inl rfl) _
            have H7 := H6.step s7 (fun e => hg8 e.symm) (fun x hx e => by have := H4.lt x hx; omega)
            have z3 : (wr.setCell ⟨g, 0, none⟩ (.int .i64 (Z.last + 1))).heap.size = wr.heap.size := by simp
            have hM : ∀ x, Made (wr.setCell ⟨g, 0, none⟩ (.int .i64 (Z.last + 1))) w4 x → x ≠ g8 := fun x hx e => by have := hx.2; omega
            have m7 := ((m4.later b5).step s6 hM).step s7 hM
            have S7 : Stp (fun x => x = g) w ((w6.setCell ⟨g8, 0, none⟩ (.int .i64 (Z.last + 1))).setCell ⟨g8, 8, none⟩ (.bool false)) := (((S3.next (Stp.of_below (bnext b4 b5 (Nat.le_refl _)) (fun x => x = g)) (fun x hx => .inl hx)).next s6 (fun x hx => .inr (by have := S3.size; have := b4.size; omega))).next s7 (fun x hx => .inr (by have := S3.size; have := b4.size; omega)))
            have hszB := (bnext b1 B (Nat.le_refl _)).size
            have hM2 : ∀ x, Made (wr.setCell ⟨g, 0, none⟩ (.int .i64 (Z.last + 1))) w4 x → w.heap.size ≤ x ∧ x < w6.heap.size := fun x hx => ⟨by have := hx.1; omega, by have := hx.2; have := b5.size; have := s6.size; omega⟩
            have hnil : a = none → L.length = 0 ∧ c = 0 := by
              obtain ⟨a', c', e, _, h⟩ := H.row.shape
              injection e with e1 e2 e3
              subst e1; subst e3; exact h
            have hfew := H.few
            have z7 := s7.size
            have l8 := r7.lt
            clear y0 y1 y3 y4 y5 y6 r6 s6 s7 H6 H5 H4 H3 m4 m3 r5 b5 b4 r3 s3 S3 z3 hM fz z0 z1 k5 rB HB
            generalize (w6.setCell ⟨g8, 0, none⟩ (.int .i64 (Z.last + 1))).setCell ⟨g8, 8, none⟩ (.bool false) = W at *
            have zW := S7.size
            have HS : ∀ u, Stp (fun x => W.heap.size ≤ x) W u → Rf u g ⟨Z.last + 1, Z.l⟩ a c L R := fun u hu => H7.step hu (fun e => by have := H7.cc.lt; omega) (fun x hx e => by have := H7.lt x hx; omega)
            have RS : ∀ u, Stp (fun x => W.heap.size ≤ x) W u → Cs u g8 (({ p with id := Z.last + 1, wr := false } : Pt).cs d' n') := fun u hu => r7.step hu (fun e => by omega)
            have FIN : ∀ w12 xa xn xc, Stp (fun x => W.heap.size ≤ x) W w12 → OwP w12 (.slice xa xn xc) (L ++ [⟨{ p with id := Z.last + 1, wr := false }, d', n'⟩]) → New W.heap.size (.slice xa xn xc) → Rh (w12.setCell ⟨g, 1, none⟩ (.slice xa xn xc)) g (Z.add p) (fun x => (R x ∨ Made w (w12.setCell ⟨g, 1, none⟩ (.slice xa xn xc)) x) ∧ x ≠ g) ∧ Stp (fun x => x = g) w (w12.setCell ⟨g, 1, none⟩ (.slice xa xn xc)) ∧ (w12.setCell ⟨g, 1, none⟩ (.slice xa xn xc)).cell? ⟨g8, 0, none⟩ = some (.int .i64 (Z.last + 1)) := fun w12 xa xn xc hs ho hn12 => by
              have s8 : Stp (fun x => x = g) w12 (w12.setCell ⟨g, 1, none⟩ (.slice xa xn xc)) := (Stp.refl (fun x => x = g) w12).setCell (p := ⟨g, 1, none⟩) (.inl rfl) _
              have z8 : (w12.setCell ⟨g, 1, none⟩ (.slice xa xn xc)).heap.size = w12.heap.size := by simp
              have zs := hs.size
              have hgW : g < W.heap.size := H7.cc.lt
              have hc : Cs (w12.setCell ⟨g, 1, none⟩ (.slice xa xn xc)) g [.int .i64 (Z.last + 1), .slice xa xn xc] := (HS _ hs).cc.set 1 _ rfl
              have hM3 : ∀ x, Made (wr.setCell ⟨g, 0, none⟩ (.int .i64 (Z.last + 1))) w4 x → Made w (w12.setCell ⟨g, 1, none⟩ (.slice xa xn xc)) x ∧ x ≠ g := fun x hx => ⟨⟨(hM2 x hx).1, by have := (hM2 x hx).2; omega⟩, fun e => by have := (hM2 x hx).1; omega⟩
              have m12 : PtM (w12.setCell ⟨g, 1, none⟩ (.slice xa xn xc)) (fun x => Made w (w12.setCell ⟨g, 1, none⟩ (.slice xa xn xc)) x ∧ x ≠ g) p d' n' := ((m7.step hs (fun x hx e => by have := (hM2 x hx).2; omega)).step s8 (fun x hx e => (hM3 x hx).2 e)).mono hM3
              refine ⟨?_, (S7.next hs (fun x hx => .inr (by omega))).next s8 (fun x hx => .inl hx), ?_⟩
              · rw [eZ.out]
                exact H7.added zW H.ok hlt hft.out hgv hp hn (ho.step s8 (fun r hr e => by have := hn12 r hr; omega)) (fun r hr => ⟨⟨by have := hn12 r hr; omega, by have := ho.lt hr; omega⟩, fun e => by have := hn12 r hr; omega⟩) hc ((hs.mono (fun x hx => .inl (.inr hx))).next s8 (fun x hx => .inl (.inl hx))) m12
              · exact ((RS _ hs).step s8 (fun e => hg8 e)).cell 0 _ rfl
            clear hM2 m7 S7 H7 r7
            go_cut [98] (fun _ wx => Rh wx g (Z.add p) (fun x => (R x ∨ Made w wx x) ∧ x ≠ g) ∧ Stp (fun x => x = g) w wx ∧ wx.cell? ⟨g8, 0, none⟩ = some (.int .i64 (Z.last + 1)))
            case first =>
              refine wp_region_last (S := fun u => Stp (fun x => W.heap.size ≤ x) W u) _ _ (by simp only [List.pop_toArray, List.dropLast_cons_cons, List.dropLast_singleton]; rfl) (by simp only [List.back?_toArray, List.getLast?_cons_cons, List.getLast?_singleton]; rfl) (by kernel_rfl) (by kernel_rfl) (Stp.refl _ _).drew (fun hHeld => ?_)
              refine wpAnyH_take (i := 0) (oi := { dst := some 98, op := Op.move (Operand.tmp 0), type := 25, pos := _, after := #[], guard := none }) (v := .pointer (some ⟨g, 0, none⟩)) rfl (by kernel_rfl) (by kernel_rfl) (by kernel_rfl) (fun _ _ _ h => h) (Or.inl ⟨by rfl, ?_⟩) hHeld ?_
              · intro u hu
                go_simp
              try simp only [Act.put, List.setIfInBounds_toArray, List.set_cons_zero, List.set_cons_succ]
              refine wpAnyH_take (i := 2) (oi := { dst := some 100, op := Op.move (Operand.tmp 0), type := 25, pos := _, after := #[], guard := none }) (v := .pointer (some ⟨g, 0, none⟩)) rfl (by kernel_rfl) (by kernel_rfl) (by kernel_rfl) (fun _ _ _ h => h) (Or.inl ⟨by rfl, ?_⟩) hHeld ?_
              · intro u hu
                go_simp
              try simp only [Act.put, List.setIfInBounds_toArray, List.set_cons_zero, List.set_cons_succ]
              refine wpAnyH_take (i := 3) (oi := { dst := some 101, op := Op.nilCheck (Operand.tmp 100), type := 0, pos := _, after := #[{ on := 2, ground := Ground.data }], guard := none }) (v := .pointer (some ⟨g, 0, none⟩)) rfl (by kernel_rfl) (by kernel_rfl) (by kernel_rfl) (fun _ _ _ h => h) (Or.inl ⟨by rfl, ?_⟩) hHeld ?_
              · intro u hu
                go_simp
              try simp only [Act.put, List.setIfInBounds_toArray, List.set_cons_zero, List.set_cons_succ]
              refine wpAnyH_take (i := 4) (oi := { dst := some 102, op := Op.fieldAddr 57 (Operand.tmp 101) 1, type := 0, pos := _, after := #[{ on := 3, ground := Ground.data }], guard := none }) (v := .pointer (some ⟨g, 1, none⟩)) rfl (by kernel_rfl) (by kernel_rfl) (by kernel_rfl) (fun _ _ _ h => h) (Or.inl ⟨by rfl, ?_⟩) hHeld ?_
              · intro u hu
                go_simp
              try simp only [Act.put, List.setIfInBounds_toArray, List.set_cons_zero, List.set_cons_succ]
              refine wpAnyH_take (i := 5) (oi := { dst := some 103, op := Op.load 22 (Operand.tmp 102), type := 22, pos := _, after := #[{ on := 4, ground := Ground.data }], guard := none }) (v := .slice a L.length c) rfl (by kernel_rfl) (by kernel_rfl) (by kernel_rfl) (fun _ _ _ h => h) (Or.inl ⟨by rfl, ?_⟩) hHeld ?_
              · intro u hu
                have x1 := (HS _ hu).cells.2; go_simp
              try simp only [Act.put, List.setIfInBounds_toArray, List.set_cons_zero, List.set_cons_succ]
              refine wpAnyH_take (i := 7) (oi := { dst := some 105, op := Op.load 54 (Operand.tmp 8), type := 54, pos := _, after := #[], guard := none }) (v := .agg (({ p with id := Z.last + 1, wr := false } : Pt).cs d' n').toArray) rfl (by kernel_rfl) (by kernel_rfl) (by kernel_rfl) (fun _ _ _ h => h)
                (yields_P (by rfl) _ (by rfl) g8 (by rfl) { p with id := Z.last + 1, wr := false } d' n' (fun u hu => RS u hu)) hHeld ?_
              try simp only [Act.put, List.setIfInBounds_toArray, List.set_cons_zero, List.set_cons_succ]
              refine wpAnyH_ready (rs := [1, 8]) (by kernel_rfl) (by simp) ?_
              refine (AllReadyH.cons (o := { dst := some 99, op := Op.buildSlice 22 0 #[], type := 22, pos := _, after := #[], guard := none }) rfl (fun K hK => ?_) (AllReadyH.cons (o := { dst := some 106, op := Op.buildSlice 22 1 #[(0, Operand.tmp 105)], type := 22, pos := _, after := #[{ on := 7, ground := Ground.data }], guard := none }) rfl (fun K hK => ?_) AllReadyH.nil))
              · skip
                have zH1 := hHeld.size
                refine step_bs0P rfl (by rfl) ?_
                intro g9 w9 e9 o9 b9
                have l9 : g9 < w9.heap.size := o9.lt rfl
                have W9 : W.heap.size ≤ g9 := Nat.le_trans zH1 e9
                refine hK.out _ _ (hHeld.next (Stp.of_below b9 (fun _ => False)) (fun x e => e.elim)) (fun hHeld => ?_)
                clear hK K
                have zz9 := b9.size
                try (replace q10 := q10.later b9)
                try simp only [Act.put, List.setIfInBounds_toArray, List.set_cons_zero, List.set_cons_succ]
                refine wpAnyH_ready (rs := [6, 8]) (by kernel_rfl) (by simp) ?_
                refine (AllReadyH.cons (o := { dst := some 104, op := Op.call { callee := Callee.builtin Builtin.append, args := #[Operand.tmp 99, Operand.tmp 103], argTypes := #[22, 22] }, type := 22, pos := _, after := #[{ on := 1, ground := Ground.data }, { on := 5, ground := Ground.data }], guard := none }) rfl (fun K hK => ?_) (AllReadyH.cons (o := { dst := some 106, op := Op.buildSlice 22 1 #[(0, Operand.tmp 105)], type := 22, pos := _, after := #[{ on := 7, ground := Ground.data }], guard := none }) rfl (fun K hK => ?_) AllReadyH.nil))
                · skip
                  refine step_appR elP W.heap.size rfl _ _ (by rfl) (by rfl) o9 (fun r e => (ob_eq e) ▸ W9) a c (fl L) (by rfl) (fl_len L) hnil (HS _ hHeld).row.news (fl_one L) (by simp only [List.length_nil]; omega) hHeld.size ?_
                  intro v6 w11 hA
                  have o11 : OwP w11 v6 L := ow_11 hA
                  have n11 := hA.2.1
                  have s11 := hA.2.2.2.1
                  refine hK.out _ _ (hHeld.next s11 (fun x e => .inl ((ob_eq e) ▸ W9))) (fun hHeld => ?_)
                  clear hK K
                  have zz11 := s11.size
                  try (replace q10 := q10.step s11 (fun e => by have := ob_eq e; omega))
                  try simp only [Act.put, List.setIfInBounds_toArray, List.set_cons_zero, List.set_cons_succ]
                  refine wpAnyH_ready (rs := [8]) (by kernel_rfl) (by simp) ?_
                  refine (AllReadyH.cons (o := { dst := some 106, op := Op.buildSlice 22 1 #[(0, Operand.tmp 105)], type := 22, pos := _, after := #[{ on := 7, ground := Ground.data }], guard := none }) rfl (fun K hK => ?_) AllReadyH.nil)
                  refine step_bs1P rfl _ (by rfl) ⟨{ p with id := Z.last + 1, wr := false }, d', n'⟩ (by rfl) ?_
                  intro g10 w10 e10 q10 b10
                  have l10 := q10.lt
                  refine hK.out _ _ (hHeld.next (Stp.of_below b10 (fun _ => False)) (fun x e => e.elim)) (fun hHeld => ?_)
                  clear hK K
                  have zz10 := b10.size
                  try (replace o9 := o9.later b10)
                  try (replace o11 := o11.later b10)
                  try simp only [Act.put, List.setIfInBounds_toArray, List.set_cons_zero, List.set_cons_succ]
                  refine wpAnyH_ready (rs := [9]) (by kernel_rfl) (by simp) ?_
                  refine (AllReadyH.cons (o := { dst := some 107, op := Op.call { callee := Callee.builtin Builtin.append, args := #[Operand.tmp 104, Operand.tmp 106], argTypes := #[22, 22] }, type := 22, pos := _, after := #[{ on := 6, ground := Ground.data }, { on := 8, ground := Ground.data }, { on := 6, ground := Ground.chain }], guard := none }) rfl (fun K hK => ?_) AllReadyH.nil)
                  refine step_appR elP W.heap.size rfl _ _ (by rfl) (by rfl) o11 n11 (some ⟨g10, 0, none⟩) 1 (Pe.cs ⟨{ p with id := Z.last + 1, wr := false }, d', n'⟩) (by rfl) (by rfl) (fun e => by cases e) (fun ad e j u hu => by injection e with e; subst e; rw [Addr.add_lit, Nat.zero_add]; exact q10.cell j u hu) (Pe.cs_one _) (by omega) hHeld.size ?_
                  intro v12 w12 hA2
                  have o12 : OwP w12 v12 (L ++ [⟨{ p with id := Z.last + 1, wr := false }, d', n'⟩]) := ow_12 hA2
                  have n12 := hA2.2.1
                  refine hK.out _ _ (hHeld.next hA2.2.2.2.1 (fun x e => .inl (n11 x e))) (fun hHeld => ?_)
                  clear hK K
                  try simp only [Act.put, List.setIfInBounds_toArray, List.set_cons_zero, List.set_cons_succ]
                  refine wpAnyH_take (i := 10) (oi := { dst := some 108, op := Op.nilCheck (Operand.tmp 98), type := 0, pos := _, after := #[{ on := 0, ground := Ground.data }, { on := 0, ground := Ground.phase }, { on := 1, ground := Ground.phase }, { on := 2, ground := Ground.phase }, { on := 3, ground := Ground.phase }, { on := 4, ground := Ground.phase }, { on := 5, ground := Ground.phase }, { on := 6, ground := Ground.phase }, { on := 7, ground := Ground.phase }, { on := 8, ground := Ground.phase }, { on := 9, ground := Ground.phase }], guard := none }) (v := .pointer (some ⟨g, 0, none⟩)) rfl (by kernel_rfl) (by kernel_rfl) (by kernel_rfl) (fun _ _ _ h => h) (Or.inl ⟨by rfl, ?_⟩) hHeld ?_
                  · intro u hu
                    go_simp
                  try simp only [Act.put, List.setIfInBounds_toArray, List.set_cons_zero, List.set_cons_succ]
                  refine wpAnyH_take (i := 11) (oi := { dst := some 109, op := Op.fieldAddr 57 (Operand.tmp 108) 1, type := 0, pos := _, after := #[{ on := 10, ground := Ground.data }, { on := 0, ground := Ground.phase }, { on := 1, ground := Ground.phase }, { on := 2, ground := Ground.phase }, { on := 3, ground := Ground.phase }, { on := 4, ground := Ground.phase }, { on := 5, ground := Ground.phase }, { on := 6, ground := Ground.phase }, { on := 7, ground := Ground.phase }, { on := 8, ground := Ground.phase }, { on := 9, ground := Ground.phase }], guard := none }) (v := .pointer (some ⟨g, 1, none⟩)) rfl (by kernel_rfl) (by kernel_rfl) (by kernel_rfl) (fun _ _ _ h => h) (Or.inl ⟨by rfl, ?_⟩) hHeld ?_
                  · intro u hu
                    go_simp
                  try simp only [Act.put, List.setIfInBounds_toArray, List.set_cons_zero, List.set_cons_succ]
                  refine wpAnyH_done (by kernel_rfl) ?_ _
                  show wpList _ _ _ [_] _ _
                  obtain ⟨xa, xn, xc, rfl⟩ := o12.shape'
                  have fin := FIN w12 xa xn xc hHeld o12 n12
                  have x1 := (HS _ hHeld).cells.2
                  have x2 := (HS _ hHeld).cc.frozen 1
                  refine op_unit (by rfl) (w12.setCell ⟨g, 1, none⟩ (.slice xa xn xc)) (by simp [execOp, Instr.storeAt, Instr.sureAddr]; go_simp) ?_
                  clear x1 x2
                  go_wp2_with fail
                  go_meet
                  exact fin
                · skip
                  refine step_bs1P rfl _ (by rfl) ⟨{ p with id := Z.last + 1, wr := false }, d', n'⟩ (by rfl) ?_
                  intro g10 w10 e10 q10 b10
                  have l10 := q10.lt
                  refine hK.out _ _ (hHeld.next (Stp.of_below b10 (fun _ => False)) (fun x e => e.elim)) (fun hHeld => ?_)
                  clear hK K
                  have zz10 := b10.size
                  try (replace o9 := o9.later b10)
                  try (replace o11 := o11.later b10)
                  try simp only [Act.put, List.setIfInBounds_toArray, List.set_cons_zero, List.set_cons_succ]
                  refine wpAnyH_ready (rs := [6]) (by kernel_rfl) (by simp) ?_
                  refine (AllReadyH.cons (o := { dst := some 104, op := Op.call { callee := Callee.builtin Builtin.append, args := #[Operand.tmp 99, Operand.tmp 103], argTypes := #[22, 22] }, type := 22, pos := _, after := #[{ on := 1, ground := Ground.data }, { on := 5, ground := Ground.data }], guard := none }) rfl (fun K hK => ?_) AllReadyH.nil)
                  refine step_appR elP W.heap.size rfl _ _ (by rfl) (by rfl) o9 (fun r e => (ob_eq e) ▸ W9) a c (fl L) (by rfl) (fl_len L) hnil (HS _ hHeld).row.news (fl_one L) (by simp only [List.length_nil]; omega) hHeld.size ?_
                  intro v6 w11 hA
                  have o11 : OwP w11 v6 L := ow_11 hA
                  have n11 := hA.2.1
                  have s11 := hA.2.2.2.1
                  refine hK.out _ _ (hHeld.next s11 (fun x e => .inl ((ob_eq e) ▸ W9))) (fun hHeld => ?_)
                  clear hK K
                  have zz11 := s11.size
                  try (replace q10 := q10.step s11 (fun e => by have := ob_eq e; omega))
                  try simp only [Act.put, List.setIfInBounds_toArray, List.set_cons_zero, List.set_cons_succ]
                  refine wpAnyH_ready (rs := [9]) (by kernel_rfl) (by simp) ?_
                  refine (AllReadyH.cons (o := { dst := some 107, op := Op.call { callee := Callee.builtin Builtin.append, args := #[Operand.tmp 104, Operand.tmp 106], argTypes := #[22, 22] }, type := 22, pos := _, after := #[{ on := 6, ground := Ground.data }, { on := 8, ground := Ground.data }, { on := 6, ground := Ground.chain }], guard := none }) rfl (fun K hK => ?_) AllReadyH.nil)
                  refine step_appR elP W.heap.size rfl _ _ (by rfl) (by rfl) o11 n11 (some ⟨g10, 0, none⟩) 1 (Pe.cs ⟨{ p with id := Z.last + 1, wr := false }, d', n'⟩) (by rfl) (by rfl) (fun e => by cases e) (fun ad e j u hu => by injection e with e; subst e; rw [Addr.add_lit, Nat.zero_add]; exact q10.cell j u hu) (Pe.cs_one _) (by omega) hHeld.size ?_
                  intro v12 w12 hA2
                  have o12 : OwP w12 v12 (L ++ [⟨{ p with id := Z.last + 1, wr := false }, d', n'⟩]) := ow_12 hA2
                  have n12 := hA2.2.1
                  refine hK.out _ _ (hHeld.next hA2.2.2.2.1 (fun x e => .inl (n11 x e))) (fun hHeld => ?_)
                  clear hK K
                  try simp only [Act.put, List.setIfInBounds_toArray, List.set_cons_zero, List.set_cons_succ]
                  refine wpAnyH_take (i := 10) (oi := { dst := some 108, op := Op.nilCheck (Operand.tmp 98), type := 0, pos := _, after := #[{ on := 0, ground := Ground.data }, { on := 0, ground := Ground.phase }, { on := 1, ground := Ground.phase }, { on := 2, ground := Ground.phase }, { on := 3, ground := Ground.phase }, { on := 4, ground := Ground.phase }, { on := 5, ground := Ground.phase }, { on := 6, ground := Ground.phase }, { on := 7, ground := Ground.phase }, { on := 8, ground := Ground.phase }, { on := 9, ground := Ground.phase }], guard := none }) (v := .pointer (some ⟨g, 0, none⟩)) rfl (by kernel_rfl) (by kernel_rfl) (by kernel_rfl) (fun _ _ _ h => h) (Or.inl ⟨by rfl, ?_⟩) hHeld ?_
                  · intro u hu
                    go_simp
                  try simp only [Act.put, List.setIfInBounds_toArray, List.set_cons_zero, List.set_cons_succ]
                  refine wpAnyH_take (i := 11) (oi := { dst := some 109, op := Op.fieldAddr 57 (Operand.tmp 108) 1, type := 0, pos := _, after := #[{ on := 10, ground := Ground.data }, { on := 0, ground := Ground.phase }, { on := 1, ground := Ground.phase }, { on := 2, ground := Ground.phase }, { on := 3, ground := Ground.phase }, { on := 4, ground := Ground.phase }, { on := 5, ground := Ground.phase }, { on := 6, ground := Ground.phase }, { on := 7, ground := Ground.phase }, { on := 8, ground := Ground.phase }, { on := 9, ground := Ground.phase }], guard := none }) (v := .pointer (some ⟨g, 1, none⟩)) rfl (by kernel_rfl) (by kernel_rfl) (by kernel_rfl) (fun _ _ _ h => h) (Or.inl ⟨by rfl, ?_⟩) hHeld ?_
                  · intro u hu
                    go_simp
                  try simp only [Act.put, List.setIfInBounds_toArray, List.set_cons_zero, List.set_cons_succ]
                  refine wpAnyH_done (by kernel_rfl) ?_ _
                  show wpList _ _ _ [_] _ _
                  obtain ⟨xa, xn, xc, rfl⟩ := o12.shape'
                  have fin := FIN w12 xa xn xc hHeld o12 n12
                  have x1 := (HS _ hHeld).cells.2
                  have x2 := (HS _ hHeld).cc.frozen 1
                  refine op_unit (by rfl) (w12.setCell ⟨g, 1, none⟩ (.slice xa xn xc)) (by simp [execOp, Instr.storeAt, Instr.sureAddr]; go_simp) ?_
                  clear x1 x2
                  go_wp2_with fail
                  go_meet
                  exact fin
              · skip
                refine step_bs1P rfl _ (by rfl) ⟨{ p with id := Z.last + 1, wr := false }, d', n'⟩ (by rfl) ?_
                intro g10 w10 e10 q10 b10
                have l10 := q10.lt
                refine hK.out _ _ (hHeld.next (Stp.of_below b10 (fun _ => False)) (fun x e => e.elim)) (fun hHeld => ?_)
                clear hK K
                have zz10 := b10.size
                try (replace o9 := o9.later b10)
                try (replace o11 := o11.later b10)
                try simp only [Act.put, List.setIfInBounds_toArray, List.set_cons_zero, List.set_cons_succ]
                refine wpAnyH_ready (rs := [1]) (by kernel_rfl) (by simp) ?_
                refine (AllReadyH.cons (o := { dst := some 99, op := Op.buildSlice 22 0 #[], type := 22, pos := _, after := #[], guard := none }) rfl (fun K hK => ?_) AllReadyH.nil)
                have zH1 := hHeld.size
                refine step_bs0P rfl (by rfl) ?_
                intro g9 w9 e9 o9 b9
                have l9 : g9 < w9.heap.size := o9.lt rfl
                have W9 : W.heap.size ≤ g9 := Nat.le_trans zH1 e9
                refine hK.out _ _ (hHeld.next (Stp.of_below b9 (fun _ => False)) (fun x e => e.elim)) (fun hHeld => ?_)
                clear hK K
                have zz9 := b9.size
                try (replace q10 := q10.later b9)
                try simp only [Act.put, List.setIfInBounds_toArray, List.set_cons_zero, List.set_cons_succ]
                refine wpAnyH_ready (rs := [6]) (by kernel_rfl) (by simp) ?_
                refine (AllReadyH.cons (o := { dst := some 104, op := Op.call { callee := Callee.builtin Builtin.append, args := #[Operand.tmp 99, Operand.tmp 103], argTypes := #[22, 22] }, type := 22, pos := _, after := #[{ on := 1, ground := Ground.data }, { on := 5, ground := Ground.data }], guard := none }) rfl (fun K hK => ?_) AllReadyH.nil)
                refine step_appR elP W.heap.size rfl _ _ (by rfl) (by rfl) o9 (fun r e => (ob_eq e) ▸ W9) a c (fl L) (by rfl) (fl_len L) hnil (HS _ hHeld).row.news (fl_one L) (by simp only [List.length_nil]; omega) hHeld.size ?_
                intro v6 w11 hA
                have o11 : OwP w11 v6 L := ow_11 hA
                have n11 := hA.2.1
                have s11 := hA.2.2.2.1
                refine hK.out _ _ (hHeld.next s11 (fun x e => .inl ((ob_eq e) ▸ W9))) (fun hHeld => ?_)
                clear hK K
                have zz11 := s11.size
                try (replace q10 := q10.step s11 (fun e => by have := ob_eq e; omega))
                try simp only [Act.put, List.setIfInBounds_toArray, List.set_cons_zero, List.set_cons_succ]
                refine wpAnyH_ready (rs := [9]) (by kernel_rfl) (by simp) ?_
                refine (AllReadyH.cons (o := { dst := some 107, op := Op.call { callee := Callee.builtin Builtin.append, args := #[Operand.tmp 104, Operand.tmp 106], argTypes := #[22, 22] }, type := 22, pos := _, after := #[{ on := 6, ground := Ground.data }, { on := 8, ground := Ground.data }, { on := 6, ground := Ground.chain }], guard := none }) rfl (fun K hK => ?_) AllReadyH.nil)
                refine step_appR elP W.heap.size rfl _ _ (by rfl) (by rfl) o11 n11 (some ⟨g10, 0, none⟩) 1 (Pe.cs ⟨{ p with id := Z.last + 1, wr := false }, d', n'⟩) (by rfl) (by rfl) (fun e => by cases e) (fun ad e j u hu => by injection e with e; subst e; rw [Addr.add_lit, Nat.zero_add]; exact q10.cell j u hu) (Pe.cs_one _) (by omega) hHeld.size ?_
                intro v12 w12 hA2
                have o12 : OwP w12 v12 (L ++ [⟨{ p with id := Z.last + 1, wr := false }, d', n'⟩]) := ow_12 hA2
                have n12 := hA2.2.1
                refine hK.out _ _ (hHeld.next hA2.2.2.2.1 (fun x e => .inl (n11 x e))) (fun hHeld => ?_)
                clear hK K
                try simp only [Act.put, List.setIfInBounds_toArray, List.set_cons_zero, List.set_cons_succ]
                refine wpAnyH_take (i := 10) (oi := { dst := some 108, op := Op.nilCheck (Operand.tmp 98), type := 0, pos := _, after := #[{ on := 0, ground := Ground.data }, { on := 0, ground := Ground.phase }, { on := 1, ground := Ground.phase }, { on := 2, ground := Ground.phase }, { on := 3, ground := Ground.phase }, { on := 4, ground := Ground.phase }, { on := 5, ground := Ground.phase }, { on := 6, ground := Ground.phase }, { on := 7, ground := Ground.phase }, { on := 8, ground := Ground.phase }, { on := 9, ground := Ground.phase }], guard := none }) (v := .pointer (some ⟨g, 0, none⟩)) rfl (by kernel_rfl) (by kernel_rfl) (by kernel_rfl) (fun _ _ _ h => h) (Or.inl ⟨by rfl, ?_⟩) hHeld ?_
                · intro u hu
                  go_simp
                try simp only [Act.put, List.setIfInBounds_toArray, List.set_cons_zero, List.set_cons_succ]
                refine wpAnyH_take (i := 11) (oi := { dst := some 109, op := Op.fieldAddr 57 (Operand.tmp 108) 1, type := 0, pos := _, after := #[{ on := 10, ground := Ground.data }, { on := 0, ground := Ground.phase }, { on := 1, ground := Ground.phase }, { on := 2, ground := Ground.phase }, { on := 3, ground := Ground.phase }, { on := 4, ground := Ground.phase }, { on := 5, ground := Ground.phase }, { on := 6, ground := Ground.phase }, { on := 7, ground := Ground.phase }, { on := 8, ground := Ground.phase }, { on := 9, ground := Ground.phase }], guard := none }) (v := .pointer (some ⟨g, 1, none⟩)) rfl (by kernel_rfl) (by kernel_rfl) (by kernel_rfl) (fun _ _ _ h => h) (Or.inl ⟨by rfl, ?_⟩) hHeld ?_
                · intro u hu
                  go_simp
                try simp only [Act.put, List.setIfInBounds_toArray, List.set_cons_zero, List.set_cons_succ]
                refine wpAnyH_done (by kernel_rfl) ?_ _
                show wpList _ _ _ [_] _ _
                obtain ⟨xa, xn, xc, rfl⟩ := o12.shape'
                have fin := FIN w12 xa xn xc hHeld o12 n12
                have x1 := (HS _ hHeld).cells.2
                have x2 := (HS _ hHeld).cc.frozen 1
                refine op_unit (by rfl) (w12.setCell ⟨g, 1, none⟩ (.slice xa xn xc)) (by simp [execOp, Instr.storeAt, Instr.sureAddr]; go_simp) ?_
                clear x1 x2
                go_wp2_with fail
                go_meet
                exact fin
            case rest =>
              obtain ⟨k1, k2, k3⟩ := hcut
              clear HS RS FIN
              go_wp2_with fail
              go_returns
              exact ⟨by rw [eN.out, eE.out]; rfl, k1, k2⟩
end Go.Proofs.YtdfifneikmlmoaaGreat
namespace Go.Proofs.YtdfifneikmlmoaaGreat
open Go.ChangeShapes Go.WideShapes Go.ChangeAt Go.RowKit
set_option linter.unusedVariables false
set_option linter.unusedSimpArgs false

/-- Where a number belongs. -/
theorem insU_at (x : Int) : ∀ (A B : List Int), (∀ y ∈ A, y < x) → (∀ y, B.head? = some y → x ≤ y) → insU (A ++ B) x = if B.head? = some x then A ++ B else A ++ x :: B
  | [], [], _, _ => by simp [insU]
  | [], b :: t, _, h => by
    have hb := h b rfl
    rw [List.nil_append, insU, if_neg (by omega)]
    by_cases e : b = x
    · rw [if_pos e, if_pos (by simp [e])]
    · rw [if_neg e, if_neg (by simp [e])]; rfl
  | a :: t, B, hA, h => by
    rw [List.cons_append, insU, if_pos (hA a (by simp)), insU_at x t B (fun y hy => hA y (by simp [hy])) h]
    split <;> rfl
/-- Whether x is put in at j. -/
def insQ (out : List Int) (j : Nat) (x : Int) : Bool := decide (¬ out[j]? = some x)
theorem insU_cut {out : List Int} {j : Nat} {x : Int} (h1 : ∀ y ∈ out.take j, y < x) (h2 : ∀ y, out[j]? = some y → x ≤ y) : insU out x = if insQ out j x = true then out.take j ++ x :: out.drop j else out := by
  have hh : (out.drop j).head? = out[j]? := List.head?_drop
  have := insU_at x (out.take j) (out.drop j) h1 (fun y hy => h2 y (by rw [← hh]; exact hy))
  rw [List.take_append_drop, hh] at this
  rw [this]
  unfold insQ
  by_cases e : out[j]? = some x <;> simp [e]
/-- The sectors of the first k. -/
def scK (l : List Pt) (k : Nat) : List Int := secs (l.take k)
theorem scK_step {l : List Pt} {k : Nat} {p : Pt} (h : l[k]? = some p) : scK l (k + 1) = if p.wr then scK l k else insU (scK l k) p.at' := by
  unfold scK secs
  rw [flt_step h]
  cases p.wr <;> simp [List.foldl_append]
theorem insU_len (x : Int) : ∀ l : List Int, (insU l x).length ≤ l.length + 1
  | [] => by simp [insU]
  | a :: t => by
    unfold insU
    have := insU_len x t
    split
    · simp; exact this
    · split <;> simp
theorem scK_len (l : List Pt) : ∀ k, (scK l k).length ≤ k
  | 0 => by simp [scK, secs]
  | k + 1 => by
    cases h : l[k]? with
    | none =>
      have e : scK l (k + 1) = scK l k := by unfold scK; rw [List.take_add_one, h]; simp
      rw [e]; have := scK_len l k; omega
    | some p =>
      rw [scK_step h]
      have := scK_len l k
      have := insU_len p.at' (scK l k)
      split <;> omega
theorem step_bs0I {ops : Array Oper} {o : Oper} {a : Act} {w : World} {K : Act → World → Prop} {Q : Exit → Act → World → Prop} {R : Prop} (hgd : o.guard = none) (ho : o.op = .buildSlice 23 0 #[])
    (h : ∀ g w', w.heap.size ≤ g → OwV w' (.slice (some ⟨g, 0, none⟩) 0 0) [] → Below w.heap.size w w' → K (a.put o.dst (.slice (some ⟨g, 0, none⟩) 0 0)) w') : if Region.wanted o (yielded ops a.tmps) = true then Oper.wp Tryz.prog o a w K Q else R := by
  have hw : Region.wanted o (yielded ops a.tmps) = true := by simp [Region.wanted, hgd]
  rw [if_pos hw]
  have h0 : (Instr.buildSlice 23 0 #[]).run Tryz.prog w = .ok (.slice (some ⟨w.heap.size, 0, none⟩) 0 0) (w.alloc (.cells #[] 3)) := by kernel_rfl
  have hr : (execOp a.eval o).run Tryz.prog w = .ok (.value (.slice (some ⟨w.heap.size, 0, none⟩) 0 0)) (w.alloc (.cells #[] 3)) := by simp [execOp, ho, h0]
  unfold Oper.wp
  rw [hr]
  exact h w.heap.size _ (Nat.le_refl _) (World.ownsRow_made w #[] 0 (Nat.zero_le _) (Nat.zero_le _) rfl) ((Below.refl _ w).alloc (Nat.le_refl _) _)
theorem step_bs1I {ops : Array Oper} {o : Oper} {a : Act} {w : World} {K : Act → World → Prop} {Q : Exit → Act → World → Prop} {R : Prop} (hgd : o.guard = none) (x : Operand) (ho : o.op = .buildSlice 23 1 #[(0, x)]) (y : Int) (hx : a.eval x = .int .i64 y)
    (h : ∀ g w', w.heap.size ≤ g → Cs w' g [.int .i64 y] → Below w.heap.size w w' → K (a.put o.dst (.slice (some ⟨g, 0, none⟩) 1 1)) w') : if Region.wanted o (yielded ops a.tmps) = true then Oper.wp Tryz.prog o a w K Q else R :=
  step_bsI hgd x ho y hx (h w.heap.size _ (Nat.le_refl _) (Cs.made w [.int .i64 y] _ (by simp [Value.oneCell'])) ((Below.refl _ w).alloc (Nat.le_refl _) _))
theorem ov_12 {w w' : World} {B m : Nat} {v v' : Value} {l l' : List Int} (hA : Apd w B 3 1 v l.length m (l.map (Value.int .i64) ++ l'.map (Value.int .i64)) v' w') (hm : m = l'.length) : OwV w' v' (l ++ l') := by
  unfold OwV
  have := hA.1
  rw [hm, ← List.map_append, ← List.length_append] at this
  exact this
/-- Sectors so far. -/
structure ScI (w wr : World) (gb cap : Nat) (out : List Int) : Prop where
  ow : OwV wr (.slice (some ⟨gb, 0, none⟩) out.length cap) out
  nw : w.heap.size ≤ gb
  b : Below w.heap.size w wr
theorem ScI.later {w wr w' : World} {gb cap : Nat} {out : List Int} (h : ScI w wr gb cap out) (k : Below wr.heap.size wr w') : ScI w w' gb cap out := ⟨h.ow.later k, h.nw, bnext h.b k (Nat.le_refl _)⟩
theorem ScI.row {w wr : World} {gb cap : Nat} {out : List Int} (h : ScI w wr gb cap out) : ∃ cur, Rw1 wr gb cap out cur := by
  rcases h.ow.row with ⟨e, _⟩ | ⟨g', cap', cur, e, hw⟩
  · cases e
  · injection e with e1 e2 e3
    injection e1 with e1; injection e1 with e1
    subst e1; subst e3
    exact ⟨cur, hw⟩
set_option maxRecDepth 100000 in
set_option maxHeartbeats 4000000 in
theorem rsectors_any {w : World} {g : Nat} {Z : GZ} {a : Option Addr} {c : Nat} {L : List Pe} {R : Nat → Prop} (H : Rf w g Z a c L R) :
    Calls Tryz.prog 34 #[.pointer (some ⟨g, 0, none⟩)] w fun e w' => ∃ v, e = .returned v ∧ OwV w' v (secs Z.l) ∧ New w.heap.size v ∧ Below w.heap.size w w' := by
  have hfew := H.few
  have hcap : L.length ≤ maxLen := by obtain ⟨_, _, _, h, _⟩ := H.row.shape; exact h
  have hlen' : Hid (L.length = Z.l.length) := H.len
  go_enter Tryz.func34, Tryz.ntmps34
  go_wp2_with fail
  have i0 : ScI w (w.alloc (.cells #[] 3)) w.heap.size 0 (scK Z.l 0) := ⟨World.ownsRow_made w #[] 0 (Nat.zero_le _) (Nat.zero_le _) rfl, Nat.le_refl _, (Below.refl _ w).alloc (Nat.le_refl _) _⟩
  go_loopw [3, 4] (fun u v wr => ∃ (i gb cap : Nat) (out : List Int), i ≤ L.length ∧ out = scK Z.l i ∧ u = .slice (some ⟨gb, 0, none⟩) out.length cap ∧ v = .int .i64 (i : Int) ∧ ScI w wr gb cap out) (fun _ v _ => L.length - (intOf v).toNat)
  case atStart => exact ⟨0, _, _, _, Nat.zero_le _, rfl, rfl, rfl, i0⟩
  case round =>
    clear i0
    obtain ⟨i, gb, cap, out, hi, hout, rfl, rfl, I⟩ := hrel
    have hout' : Hid (out = scK Z.l i) := hout
    have hol : out.length ≤ i := by rw [hout]; exact scK_len _ _
    clear hout
    have H4 := H.later I.b
    obtain ⟨z0, z1⟩ := H4.cells
    have a8 : (0 : Int) ≤ (i : Int) := by omega
    by_cases hil : i < L.length
    · obtain ⟨b, t, rfl, e2, hr⟩ := H4.row.el i hil
      have c1 := (Pe.at9 hr).2.1
      have c8 := (Pe.at9 hr).2.2.2.2.2.2.2.2
      have a9 : (i : Int) < (L.length : Int) := by omega
      have hst := scK_step (H4.get e2)
      have hst' : Hid (scK Z.l (i + 1) = if t.p.wr then scK Z.l i else insU (scK Z.l i) t.p.at') := hst
      clear hst hr
      cases hw : t.p.wr with
      | true =>
        rw [hw] at c8
        clear c1
        go_wp2_with fail
        go_roundw
        case rel => exact ⟨i + 1, gb, cap, out, by omega, by rw [hst'.out, hw, if_pos rfl]; exact hout'.out, rfl, by go_num, I⟩
        case measure => simp [intOf]; omega
      | false =>
        rw [hw] at c8
        have hst2 : Hid (scK Z.l (i + 1) = insU out t.p.at') := (by rw [hst'.out, hw, if_neg (by simp), ← hout'.out] : scK Z.l (i + 1) = insU out t.p.at')
        generalize t.p.at' = x at *
        obtain ⟨cur, hrow⟩ := I.row
        have ocap : out.length ≤ cap := hrow.le
        have cmax : cap ≤ maxLen := hrow.cm
        have omax : out.length ≤ maxLen := Nat.le_trans ocap cmax
        go_upto_block 2 with fail
        clear c8
        go_cut [5] from 7 to 82 (fun v wx => ∃ j : Nat, j ≤ out.length ∧ v = .int .i64 (j : Int) ∧ (∀ y ∈ out.take j, y < x) ∧ (∀ y, out[j]? = some y → x ≤ y) ∧ Below wr.heap.size wr wx)
        case first =>
          have B0 : Below wr.heap.size wr wr := Below.refl _ _
          generalize hWr : wr = wr0 at *
          go_wp2_with fail
          go_loopw [5] (fun v wx => ∃ j : Nat, j ≤ out.length ∧ v = .int .i64 (j : Int) ∧ (∀ y ∈ out.take j, y < x) ∧ Below wr0.heap.size wr0 wx) (fun v _ => out.length - (intOf v).toNat)
          case atStart => exact ⟨0, Nat.zero_le _, rfl, (fun y hy => absurd hy (by simp)), B0⟩
          case round =>
            obtain ⟨j, hj, rfl, hno, Bj⟩ := hrel
            have q8 : (0 : Int) ≤ (j : Int) := by omega
            have z1j := (Stp.of_below Bj (fun _ => False)).cell z1 id
            have c1j := (Stp.of_below Bj (fun _ => False)).cell c1 id
            by_cases hjl : j < out.length
            · have q9 : (j : Int) < (out.length : Int) := by omega
              have cy0 := (Stp.of_below Bj (fun _ => False)).cell (hrow.cell j hjl) id
              have hgy : out[j]? = some (out.getD j 0) := by rw [List.getElem?_eq_getElem hjl, List.getD_eq_getElem?_getD, List.getElem?_eq_getElem hjl]; rfl
              generalize out.getD j 0 = y at *
              have cy := cy0
              have z1 := z1j
              have c1 := c1j
              by_cases hyx : y < x
              · have hno2 : ∀ y' ∈ out.take (j + 1), y' < x := fun y' hy' => by
                  rw [List.take_add_one, hgy] at hy'
                  rcases List.mem_append.1 hy' with h | h
                  · exact hno y' h
                  · have : y' = y := by simpa using h
                    omega
                go_wp2_with fail
                refine wp_region_held_drew (S := fun u => Below wr.heap.size wr u) (by kernel_rfl) (Below.refl _ _).drew (fun hHeld => ?_)
                refine wpAnyH_take (i := 0) (oi := { dst := some 24, op := Op.move (Operand.tmp 5), type := 3, pos := _, after := #[], guard := none }) (v := .int .i64 (j : Int)) rfl (by kernel_rfl) (by kernel_rfl) (by kernel_rfl) (fun _ _ _ h => h) (Or.inl ⟨by rfl, ?_⟩) hHeld ?_
                · intro u hu
                  go_simp
                try simp only [Act.put, List.setIfInBounds_toArray, List.set_cons_zero, List.set_cons_succ]
                refine wpAnyH_take (i := 1) (oi := { dst := some 25, op := Op.move (Operand.tmp 3), type := 23, pos := _, after := #[], guard := none }) (v := .slice (some ⟨gb, 0, none⟩) out.length cap) rfl (by kernel_rfl) (by kernel_rfl) (by kernel_rfl) (fun _ _ _ h => h) (Or.inl ⟨by rfl, ?_⟩) hHeld ?_
                · intro u hu
                  go_simp
                try simp only [Act.put, List.setIfInBounds_toArray, List.set_cons_zero, List.set_cons_succ]
                refine wpAnyH_take (i := 2) (oi := { dst := some 26, op := Op.call { callee := Callee.builtin Builtin.len, args := #[Operand.tmp 25], argTypes := #[23] }, type := 3, pos := _, after := #[{ on := 1, ground := Ground.data }], guard := none }) (v := .int .i64 (out.length : Int)) rfl (by kernel_rfl) (by kernel_rfl) (by kernel_rfl) (fun _ _ _ h => h) (Or.inl ⟨by rfl, ?_⟩) hHeld ?_
                · intro u hu
                  go_simp
                try simp only [Act.put, List.setIfInBounds_toArray, List.set_cons_zero, List.set_cons_succ]
                refine wpAnyH_take (i := 3) (oi := { dst := some 27, op := Op.binOp BinOp.lss 3 (Operand.tmp 24) (Operand.tmp 26) 3, type := 4, pos := _, after := #[{ on := 0, ground := Ground.data }, { on := 2, ground := Ground.data }], guard := none }) (v := .bool true) rfl (by kernel_rfl) (by kernel_rfl) (by kernel_rfl) (fun _ _ _ h => h) (Or.inl ⟨by rfl, ?_⟩) hHeld ?_
                · intro u hu
                  go_simp
                try simp only [Act.put, List.setIfInBounds_toArray, List.set_cons_zero, List.set_cons_succ]
                refine wpAnyH_take (i := 4) (oi := { dst := some 28, op := Op.move (Operand.tmp 27), type := 4, pos := _, after := #[{ on := 3, ground := Ground.data }], guard := none }) (v := .bool true) rfl (by kernel_rfl) (by kernel_rfl) (by kernel_rfl) (fun _ _ _ h => h) (Or.inl ⟨by rfl, ?_⟩) hHeld ?_
                · intro u hu
                  go_simp
                try simp only [Act.put, List.setIfInBounds_toArray, List.set_cons_zero, List.set_cons_succ]
                refine wpAnyH_take (i := 5) (oi := { dst := some 29, op := Op.move (Operand.tmp 3), type := 23, pos := _, after := #[{ on := 4, ground := Ground.guard }], guard := some (4, true) }) (v := .slice (some ⟨gb, 0, none⟩) out.length cap) rfl (by kernel_rfl) (by kernel_rfl) (by kernel_rfl) (fun _ _ _ h => h) (Or.inl ⟨by rfl, ?_⟩) hHeld ?_
                · intro u hu
                  go_simp
                try simp only [Act.put, List.setIfInBounds_toArray, List.set_cons_zero, List.set_cons_succ]
                refine wpAnyH_take (i := 6) (oi := { dst := some 30, op := Op.move (Operand.tmp 5), type := 3, pos := _, after := #[{ on := 4, ground := Ground.guard }], guard := some (4, true) }) (v := .int .i64 (j : Int)) rfl (by kernel_rfl) (by kernel_rfl) (by kernel_rfl) (fun _ _ _ h => h) (Or.inl ⟨by rfl, ?_⟩) hHeld ?_
                · intro u hu
                  go_simp
                try simp only [Act.put, List.setIfInBounds_toArray, List.set_cons_zero, List.set_cons_succ]
                refine wpAnyH_take (i := 7) (oi := { dst := some 31, op := Op.indexAddr 23 (Operand.tmp 29) (Operand.tmp 30), type := 0, pos := _, after := #[{ on := 5, ground := Ground.data }, { on := 6, ground := Ground.data }, { on := 4, ground := Ground.guard }], guard := some (4, true) }) (v := .pointer (some ⟨gb, j, none⟩)) rfl (by kernel_rfl) (by kernel_rfl) (by kernel_rfl) (fun _ _ _ h => h) (Or.inl ⟨by rfl, ?_⟩) hHeld ?_
                · intro u hu
                  go_simp
                try simp only [Act.put, List.setIfInBounds_toArray, List.set_cons_zero, List.set_cons_succ]
                refine wpAnyH_take (i := 8) (oi := { dst := some 32, op := Op.load 3 (Operand.tmp 31), type := 3, pos := _, after := #[{ on := 7, ground := Ground.data }, { on := 4, ground := Ground.guard }], guard := some (4, true) }) (v := .int .i64 y) rfl (by kernel_rfl) (by kernel_rfl) (by kernel_rfl) (fun _ _ _ h => h) (Or.inl ⟨by rfl, ?_⟩) hHeld ?_
                · intro u hu
                  have x1 := (Stp.of_below hu (fun _ => False)).cell cy id; go_simp
                try simp only [Act.put, List.setIfInBounds_toArray, List.set_cons_zero, List.set_cons_succ]
                refine wpAnyH_take (i := 9) (oi := { dst := some 33, op := Op.move (Operand.tmp 0), type := 25, pos := _, after := #[{ on := 4, ground := Ground.guard }], guard := some (4, true) }) (v := .pointer (some ⟨g, 0, none⟩)) rfl (by kernel_rfl) (by kernel_rfl) (by kernel_rfl) (fun _ _ _ h => h) (Or.inl ⟨by rfl, ?_⟩) hHeld ?_
                · intro u hu
                  go_simp
                try simp only [Act.put, List.setIfInBounds_toArray, List.set_cons_zero, List.set_cons_succ]
                refine wpAnyH_take (i := 10) (oi := { dst := some 34, op := Op.nilCheck (Operand.tmp 33), type := 0, pos := _, after := #[{ on := 9, ground := Ground.data }, { on := 4, ground := Ground.guard }], guard := some (4, true) }) (v := .pointer (some ⟨g, 0, none⟩)) rfl (by kernel_rfl) (by kernel_rfl) (by kernel_rfl) (fun _ _ _ h => h) (Or.inl ⟨by rfl, ?_⟩) hHeld ?_
                · intro u hu
                  go_simp
                try simp only [Act.put, List.setIfInBounds_toArray, List.set_cons_zero, List.set_cons_succ]
                refine wpAnyH_take (i := 11) (oi := { dst := some 35, op := Op.fieldAddr 57 (Operand.tmp 34) 1, type := 0, pos := _, after := #[{ on := 10, ground := Ground.data }, { on := 4, ground := Ground.guard }], guard := some (4, true) }) (v := .pointer (some ⟨g, 1, none⟩)) rfl (by kernel_rfl) (by kernel_rfl) (by kernel_rfl) (fun _ _ _ h => h) (Or.inl ⟨by rfl, ?_⟩) hHeld ?_
                · intro u hu
                  go_simp
                try simp only [Act.put, List.setIfInBounds_toArray, List.set_cons_zero, List.set_cons_succ]
                refine wpAnyH_take (i := 12) (oi := { dst := some 36, op := Op.load 22 (Operand.tmp 35), type := 22, pos := _, after := #[{ on := 11, ground := Ground.data }, { on := 4, ground := Ground.guard }], guard := some (4, true) }) (v := .slice (some ⟨b, 0, none⟩) L.length c) rfl (by kernel_rfl) (by kernel_rfl) (by kernel_rfl) (fun _ _ _ h => h) (Or.inl ⟨by rfl, ?_⟩) hHeld ?_
                · intro u hu
                  have x1 := (Stp.of_below hu (fun _ => False)).cell z1 id; go_simp
                try simp only [Act.put, List.setIfInBounds_toArray, List.set_cons_zero, List.set_cons_succ]
                refine wpAnyH_take (i := 13) (oi := { dst := some 37, op := Op.move (Operand.tmp 4), type := 3, pos := _, after := #[{ on := 4, ground := Ground.guard }], guard := some (4, true) }) (v := .int .i64 (i : Int)) rfl (by kernel_rfl) (by kernel_rfl) (by kernel_rfl) (fun _ _ _ h => h) (Or.inl ⟨by rfl, ?_⟩) hHeld ?_
                · intro u hu
                  go_simp
                try simp only [Act.put, List.setIfInBounds_toArray, List.set_cons_zero, List.set_cons_succ]
                refine wpAnyH_take (i := 14) (oi := { dst := some 38, op := Op.indexAddr 22 (Operand.tmp 36) (Operand.tmp 37), type := 0, pos := _, after := #[{ on := 12, ground := Ground.data }, { on := 13, ground := Ground.data }, { on := 4, ground := Ground.guard }], guard := some (4, true) }) (v := .pointer (some ⟨b, i * 9, none⟩)) rfl (by kernel_rfl) (by kernel_rfl) (by kernel_rfl) (fun _ _ _ h => h) (Or.inl ⟨by rfl, ?_⟩) hHeld ?_
                · intro u hu
                  go_simp
                try simp only [Act.put, List.setIfInBounds_toArray, List.set_cons_zero, List.set_cons_succ]
                refine wpAnyH_take (i := 15) (oi := { dst := some 39, op := Op.fieldAddr 54 (Operand.tmp 38) 1, type := 0, pos := _, after := #[{ on := 14, ground := Ground.data }, { on := 4, ground := Ground.guard }], guard := some (4, true) }) (v := .pointer (some ⟨b, i * 9 + 1, none⟩)) rfl (by kernel_rfl) (by kernel_rfl) (by kernel_rfl) (fun _ _ _ h => h) (Or.inl ⟨by rfl, ?_⟩) hHeld ?_
                · intro u hu
                  go_simp
                try simp only [Act.put, List.setIfInBounds_toArray, List.set_cons_zero, List.set_cons_succ]
                refine wpAnyH_take (i := 16) (oi := { dst := some 40, op := Op.load 3 (Operand.tmp 39), type := 3, pos := _, after := #[{ on := 15, ground := Ground.data }, { on := 4, ground := Ground.guard }], guard := some (4, true) }) (v := .int .i64 x) rfl (by kernel_rfl) (by kernel_rfl) (by kernel_rfl) (fun _ _ _ h => h) (Or.inl ⟨by rfl, ?_⟩) hHeld ?_
                · intro u hu
                  have x1 := (Stp.of_below hu (fun _ => False)).cell c1 id; go_simp
                try simp only [Act.put, List.setIfInBounds_toArray, List.set_cons_zero, List.set_cons_succ]
                refine wpAnyH_take (i := 17) (oi := { dst := some 41, op := Op.binOp BinOp.lss 3 (Operand.tmp 32) (Operand.tmp 40) 3, type := 4, pos := _, after := #[{ on := 8, ground := Ground.data }, { on := 16, ground := Ground.data }, { on := 4, ground := Ground.guard }], guard := some (4, true) }) (v := .bool true) rfl (by kernel_rfl) (by kernel_rfl) (by kernel_rfl) (fun _ _ _ h => h) (Or.inl ⟨by rfl, ?_⟩) hHeld ?_
                · intro u hu
                  go_simp
                try simp only [Act.put, List.setIfInBounds_toArray, List.set_cons_zero, List.set_cons_succ]
                refine wpAnyH_take (i := 18) (oi := { dst := some 42, op := Op.pick (Operand.tmp 28) (Operand.tmp 41) (Operand.const (Value.bool false)), type := 4, pos := _, after := #[{ on := 4, ground := Ground.data }, { on := 17, ground := Ground.data }], guard := none }) (v := .bool true) rfl (by kernel_rfl) (by kernel_rfl) (by kernel_rfl) (fun _ _ _ h => h) (Or.inl ⟨by rfl, ?_⟩) hHeld ?_
                · intro u hu
                  go_simp
                try simp only [Act.put, List.setIfInBounds_toArray, List.set_cons_zero, List.set_cons_succ]
                refine wpAnyH_done (by kernel_rfl) ?_ _
                have B9 := bnext Bj hHeld (Nat.le_refl _)
                go_wp2_with fail
                go_roundw
                case rel => exact ⟨j + 1, by omega, by go_num, hno2, B9⟩
                case measure => simp [intOf]; omega
              · go_wp2_with fail
                refine wp_region_held_drew (S := fun u => Below wr.heap.size wr u) (by kernel_rfl) (Below.refl _ _).drew (fun hHeld => ?_)
                refine wpAnyH_take (i := 0) (oi := { dst := some 24, op := Op.move (Operand.tmp 5), type := 3, pos := _, after := #[], guard := none }) (v := .int .i64 (j : Int)) rfl (by kernel_rfl) (by kernel_rfl) (by kernel_rfl) (fun _ _ _ h => h) (Or.inl ⟨by rfl, ?_⟩) hHeld ?_
                · intro u hu
                  go_simp
                try simp only [Act.put, List.setIfInBounds_toArray, List.set_cons_zero, List.set_cons_succ]
                refine wpAnyH_take (i := 1) (oi := { dst := some 25, op := Op.move (Operand.tmp 3), type := 23, pos := _, after := #[], guard := none }) (v := .slice (some ⟨gb, 0, none⟩) out.length cap) rfl (by kernel_rfl) (by kernel_rfl) (by kernel_rfl) (fun _ _ _ h => h) (Or.inl ⟨by rfl, ?_⟩) hHeld ?_
                · intro u hu
                  go_simp
                try simp only [Act.put, List.setIfInBounds_toArray, List.set_cons_zero, List.set_cons_succ]
                refine wpAnyH_take (i := 2) (oi := { dst := some 26, op := Op.call { callee := Callee.builtin Builtin.len, args := #[Operand.tmp 25], argTypes := #[23] }, type := 3, pos := _, after := #[{ on := 1, ground := Ground.data }], guard := none }) (v := .int .i64 (out.length : Int)) rfl (by kernel_rfl) (by kernel_rfl) (by kernel_rfl) (fun _ _ _ h => h) (Or.inl ⟨by rfl, ?_⟩) hHeld ?_
                · intro u hu
                  go_simp
                try simp only [Act.put, List.setIfInBounds_toArray, List.set_cons_zero, List.set_cons_succ]
                refine wpAnyH_take (i := 3) (oi := { dst := some 27, op := Op.binOp BinOp.lss 3 (Operand.tmp 24) (Operand.tmp 26) 3, type := 4, pos := _, after := #[{ on := 0, ground := Ground.data }, { on := 2, ground := Ground.data }], guard := none }) (v := .bool true) rfl (by kernel_rfl) (by kernel_rfl) (by kernel_rfl) (fun _ _ _ h => h) (Or.inl ⟨by rfl, ?_⟩) hHeld ?_
                · intro u hu
                  go_simp
                try simp only [Act.put, List.setIfInBounds_toArray, List.set_cons_zero, List.set_cons_succ]
                refine wpAnyH_take (i := 4) (oi := { dst := some 28, op := Op.move (Operand.tmp 27), type := 4, pos := _, after := #[{ on := 3, ground := Ground.data }], guard := none }) (v := .bool true) rfl (by kernel_rfl) (by kernel_rfl) (by kernel_rfl) (fun _ _ _ h => h) (Or.inl ⟨by rfl, ?_⟩) hHeld ?_
                · intro u hu
                  go_simp
                try simp only [Act.put, List.setIfInBounds_toArray, List.set_cons_zero, List.set_cons_succ]
                refine wpAnyH_take (i := 5) (oi := { dst := some 29, op := Op.move (Operand.tmp 3), type := 23, pos := _, after := #[{ on := 4, ground := Ground.guard }], guard := some (4, true) }) (v := .slice (some ⟨gb, 0, none⟩) out.length cap) rfl (by kernel_rfl) (by kernel_rfl) (by kernel_rfl) (fun _ _ _ h => h) (Or.inl ⟨by rfl, ?_⟩) hHeld ?_
                · intro u hu
                  go_simp
                try simp only [Act.put, List.setIfInBounds_toArray, List.set_cons_zero, List.set_cons_succ]
                refine wpAnyH_take (i := 6) (oi := { dst := some 30, op := Op.move (Operand.tmp 5), type := 3, pos := _, after := #[{ on := 4, ground := Ground.guard }], guard := some (4, true) }) (v := .int .i64 (j : Int)) rfl (by kernel_rfl) (by kernel_rfl) (by kernel_rfl) (fun _ _ _ h => h) (Or.inl ⟨by rfl, ?_⟩) hHeld ?_
                · intro u hu
                  go_simp
                try simp only [Act.put, List.setIfInBounds_toArray, List.set_cons_zero, List.set_cons_succ]
                refine wpAnyH_take (i := 7) (oi := { dst := some 31, op := Op.indexAddr 23 (Operand.tmp 29) (Operand.tmp 30), type := 0, pos := _, after := #[{ on := 5, ground := Ground.data }, { on := 6, ground := Ground.data }, { on := 4, ground := Ground.guard }], guard := some (4, true) }) (v := .pointer (some ⟨gb, j, none⟩)) rfl (by kernel_rfl) (by kernel_rfl) (by kernel_rfl) (fun _ _ _ h => h) (Or.inl ⟨by rfl, ?_⟩) hHeld ?_
                · intro u hu
                  go_simp
                try simp only [Act.put, List.setIfInBounds_toArray, List.set_cons_zero, List.set_cons_succ]
                refine wpAnyH_take (i := 8) (oi := { dst := some 32, op := Op.load 3 (Operand.tmp 31), type := 3, pos := _, after := #[{ on := 7, ground := Ground.data }, { on := 4, ground := Ground.guard }], guard := some (4, true) }) (v := .int .i64 y) rfl (by kernel_rfl) (by kernel_rfl) (by kernel_rfl) (fun _ _ _ h => h) (Or.inl ⟨by rfl, ?_⟩) hHeld ?_
                · intro u hu
                  have x1 := (Stp.of_below hu (fun _ => False)).cell cy id; go_simp
                try simp only [Act.put, List.setIfInBounds_toArray, List.set_cons_zero, List.set_cons_succ]
                refine wpAnyH_take (i := 9) (oi := { dst := some 33, op := Op.move (Operand.tmp 0), type := 25, pos := _, after := #[{ on := 4, ground := Ground.guard }], guard := some (4, true) }) (v := .pointer (some ⟨g, 0, none⟩)) rfl (by kernel_rfl) (by kernel_rfl) (by kernel_rfl) (fun _ _ _ h => h) (Or.inl ⟨by rfl, ?_⟩) hHeld ?_
                · intro u hu
                  go_simp
                try simp only [Act.put, List.setIfInBounds_toArray, List.set_cons_zero, List.set_cons_succ]
                refine wpAnyH_take (i := 10) (oi := { dst := some 34, op := Op.nilCheck (Operand.tmp 33), type := 0, pos := _, after := #[{ on := 9, ground := Ground.data }, { on := 4, ground := Ground.guard }], guard := some (4, true) }) (v := .pointer (some ⟨g, 0, none⟩)) rfl (by kernel_rfl) (by kernel_rfl) (by kernel_rfl) (fun _ _ _ h => h) (Or.inl ⟨by rfl, ?_⟩) hHeld ?_
                · intro u hu
                  go_simp
                try simp only [Act.put, List.setIfInBounds_toArray, List.set_cons_zero, List.set_cons_succ]
                refine wpAnyH_take (i := 11) (oi := { dst := some 35, op := Op.fieldAddr 57 (Operand.tmp 34) 1, type := 0, pos := _, after := #[{ on := 10, ground := Ground.data }, { on := 4, ground := Ground.guard }], guard := some (4, true) }) (v := .pointer (some ⟨g, 1, none⟩)) rfl (by kernel_rfl) (by kernel_rfl) (by kernel_rfl) (fun _ _ _ h => h) (Or.inl ⟨by rfl, ?_⟩) hHeld ?_
                · intro u hu
                  go_simp
                try simp only [Act.put, List.setIfInBounds_toArray, List.set_cons_zero, List.set_cons_succ]
                refine wpAnyH_take (i := 12) (oi := { dst := some 36, op := Op.load 22 (Operand.tmp 35), type := 22, pos := _, after := #[{ on := 11, ground := Ground.data }, { on := 4, ground := Ground.guard }], guard := some (4, true) }) (v := .slice (some ⟨b, 0, none⟩) L.length c) rfl (by kernel_rfl) (by kernel_rfl) (by kernel_rfl) (fun _ _ _ h => h) (Or.inl ⟨by rfl, ?_⟩) hHeld ?_
                · intro u hu
                  have x1 := (Stp.of_below hu (fun _ => False)).cell z1 id; go_simp
                try simp only [Act.put, List.setIfInBounds_toArray, List.set_cons_zero, List.set_cons_succ]
                refine wpAnyH_take (i := 13) (oi := { dst := some 37, op := Op.move (Operand.tmp 4), type := 3, pos := _, after := #[{ on := 4, ground := Ground.guard }], guard := some (4, true) }) (v := .int .i64 (i : Int)) rfl (by kernel_rfl) (by kernel_rfl) (by kernel_rfl) (fun _ _ _ h => h) (Or.inl ⟨by rfl, ?_⟩) hHeld ?_
                · intro u hu
                  go_simp
                try simp only [Act.put, List.setIfInBounds_toArray, List.set_cons_zero, List.set_cons_succ]
                refine wpAnyH_take (i := 14) (oi := { dst := some 38, op := Op.indexAddr 22 (Operand.tmp 36) (Operand.tmp 37), type := 0, pos := _, after := #[{ on := 12, ground := Ground.data }, { on := 13, ground := Ground.data }, { on := 4, ground := Ground.guard }], guard := some (4, true) }) (v := .pointer (some ⟨b, i * 9, none⟩)) rfl (by kernel_rfl) (by kernel_rfl) (by kernel_rfl) (fun _ _ _ h => h) (Or.inl ⟨by rfl, ?_⟩) hHeld ?_
                · intro u hu
                  go_simp
                try simp only [Act.put, List.setIfInBounds_toArray, List.set_cons_zero, List.set_cons_succ]
                refine wpAnyH_take (i := 15) (oi := { dst := some 39, op := Op.fieldAddr 54 (Operand.tmp 38) 1, type := 0, pos := _, after := #[{ on := 14, ground := Ground.data }, { on := 4, ground := Ground.guard }], guard := some (4, true) }) (v := .pointer (some ⟨b, i * 9 + 1, none⟩)) rfl (by kernel_rfl) (by kernel_rfl) (by kernel_rfl) (fun _ _ _ h => h) (Or.inl ⟨by rfl, ?_⟩) hHeld ?_
                · intro u hu
                  go_simp
                try simp only [Act.put, List.setIfInBounds_toArray, List.set_cons_zero, List.set_cons_succ]
                refine wpAnyH_take (i := 16) (oi := { dst := some 40, op := Op.load 3 (Operand.tmp 39), type := 3, pos := _, after := #[{ on := 15, ground := Ground.data }, { on := 4, ground := Ground.guard }], guard := some (4, true) }) (v := .int .i64 x) rfl (by kernel_rfl) (by kernel_rfl) (by kernel_rfl) (fun _ _ _ h => h) (Or.inl ⟨by rfl, ?_⟩) hHeld ?_
                · intro u hu
                  have x1 := (Stp.of_below hu (fun _ => False)).cell c1 id; go_simp
                try simp only [Act.put, List.setIfInBounds_toArray, List.set_cons_zero, List.set_cons_succ]
                refine wpAnyH_take (i := 17) (oi := { dst := some 41, op := Op.binOp BinOp.lss 3 (Operand.tmp 32) (Operand.tmp 40) 3, type := 4, pos := _, after := #[{ on := 8, ground := Ground.data }, { on := 16, ground := Ground.data }, { on := 4, ground := Ground.guard }], guard := some (4, true) }) (v := .bool false) rfl (by kernel_rfl) (by kernel_rfl) (by kernel_rfl) (fun _ _ _ h => h) (Or.inl ⟨by rfl, ?_⟩) hHeld ?_
                · intro u hu
                  go_simp
                try simp only [Act.put, List.setIfInBounds_toArray, List.set_cons_zero, List.set_cons_succ]
                refine wpAnyH_take (i := 18) (oi := { dst := some 42, op := Op.pick (Operand.tmp 28) (Operand.tmp 41) (Operand.const (Value.bool false)), type := 4, pos := _, after := #[{ on := 4, ground := Ground.data }, { on := 17, ground := Ground.data }], guard := none }) (v := .bool false) rfl (by kernel_rfl) (by kernel_rfl) (by kernel_rfl) (fun _ _ _ h => h) (Or.inl ⟨by rfl, ?_⟩) hHeld ?_
                · intro u hu
                  go_simp
                try simp only [Act.put, List.setIfInBounds_toArray, List.set_cons_zero, List.set_cons_succ]
                refine wpAnyH_done (by kernel_rfl) ?_ _
                have B9 := bnext Bj hHeld (Nat.le_refl _)
                go_wp2_with fail
                go_meet
                exact ⟨j, hj, rfl, hno, (fun y' hy' => by rw [hgy] at hy'; injection hy' with hy'; omega), B9⟩
            · have q9 : ¬ (j : Int) < (out.length : Int) := by omega
              go_wp2_with fail
              refine wp_region_held_drew (S := fun u => Below wr.heap.size wr u) (by kernel_rfl) (Below.refl _ _).drew (fun hHeld => ?_)
              refine wpAnyH_take (i := 0) (oi := { dst := some 24, op := Op.move (Operand.tmp 5), type := 3, pos := _, after := #[], guard := none }) (v := .int .i64 (j : Int)) rfl (by kernel_rfl) (by kernel_rfl) (by kernel_rfl) (fun _ _ _ h => h) (Or.inl ⟨by rfl, ?_⟩) hHeld ?_
              · intro u hu
                go_simp
              try simp only [Act.put, List.setIfInBounds_toArray, List.set_cons_zero, List.set_cons_succ]
              refine wpAnyH_take (i := 1) (oi := { dst := some 25, op := Op.move (Operand.tmp 3), type := 23, pos := _, after := #[], guard := none }) (v := .slice (some ⟨gb, 0, none⟩) out.length cap) rfl (by kernel_rfl) (by kernel_rfl) (by kernel_rfl) (fun _ _ _ h => h) (Or.inl ⟨by rfl, ?_⟩) hHeld ?_
              · intro u hu
                go_simp
              try simp only [Act.put, List.setIfInBounds_toArray, List.set_cons_zero, List.set_cons_succ]
              refine wpAnyH_take (i := 2) (oi := { dst := some 26, op := Op.call { callee := Callee.builtin Builtin.len, args := #[Operand.tmp 25], argTypes := #[23] }, type := 3, pos := _, after := #[{ on := 1, ground := Ground.data }], guard := none }) (v := .int .i64 (out.length : Int)) rfl (by kernel_rfl) (by kernel_rfl) (by kernel_rfl) (fun _ _ _ h => h) (Or.inl ⟨by rfl, ?_⟩) hHeld ?_
              · intro u hu
                go_simp
              try simp only [Act.put, List.setIfInBounds_toArray, List.set_cons_zero, List.set_cons_succ]
              refine wpAnyH_take (i := 3) (oi := { dst := some 27, op := Op.binOp BinOp.lss 3 (Operand.tmp 24) (Operand.tmp 26) 3, type := 4, pos := _, after := #[{ on := 0, ground := Ground.data }, { on := 2, ground := Ground.data }], guard := none }) (v := .bool false) rfl (by kernel_rfl) (by kernel_rfl) (by kernel_rfl) (fun _ _ _ h => h) (Or.inl ⟨by rfl, ?_⟩) hHeld ?_
              · intro u hu
                go_simp
              try simp only [Act.put, List.setIfInBounds_toArray, List.set_cons_zero, List.set_cons_succ]
              refine wpAnyH_take (i := 4) (oi := { dst := some 28, op := Op.move (Operand.tmp 27), type := 4, pos := _, after := #[{ on := 3, ground := Ground.data }], guard := none }) (v := .bool false) rfl (by kernel_rfl) (by kernel_rfl) (by kernel_rfl) (fun _ _ _ h => h) (Or.inl ⟨by rfl, ?_⟩) hHeld ?_
              · intro u hu
                go_simp
              try simp only [Act.put, List.setIfInBounds_toArray, List.set_cons_zero, List.set_cons_succ]
              refine wpAnyH_take (i := 5) (oi := { dst := some 29, op := Op.move (Operand.tmp 3), type := 23, pos := _, after := #[{ on := 4, ground := Ground.guard }], guard := some (4, true) }) (v := undef) rfl (by kernel_rfl) (by kernel_rfl) (by kernel_rfl) (fun _ _ _ h => h)
                (Or.inr ⟨by rfl, rfl⟩) hHeld ?_
              try simp only [Act.put, List.setIfInBounds_toArray, List.set_cons_zero, List.set_cons_succ]
              refine wpAnyH_take (i := 6) (oi := { dst := some 30, op := Op.move (Operand.tmp 5), type := 3, pos := _, after := #[{ on := 4, ground := Ground.guard }], guard := some (4, true) }) (v := undef) rfl (by kernel_rfl) (by kernel_rfl) (by kernel_rfl) (fun _ _ _ h => h)
                (Or.inr ⟨by rfl, rfl⟩) hHeld ?_
              try simp only [Act.put, List.setIfInBounds_toArray, List.set_cons_zero, List.set_cons_succ]
              refine wpAnyH_take (i := 7) (oi := { dst := some 31, op := Op.indexAddr 23 (Operand.tmp 29) (Operand.tmp 30), type := 0, pos := _, after := #[{ on := 5, ground := Ground.data }, { on := 6, ground := Ground.data }, { on := 4, ground := Ground.guard }], guard := some (4, true) }) (v := undef) rfl (by kernel_rfl) (by kernel_rfl) (by kernel_rfl) (fun _ _ _ h => h)
                (Or.inr ⟨by rfl, rfl⟩) hHeld ?_
              try simp only [Act.put, List.setIfInBounds_toArray, List.set_cons_zero, List.set_cons_succ]
              refine wpAnyH_take (i := 8) (oi := { dst := some 32, op := Op.load 3 (Operand.tmp 31), type := 3, pos := _, after := #[{ on := 7, ground := Ground.data }, { on := 4, ground := Ground.guard }], guard := some (4, true) }) (v := undef) rfl (by kernel_rfl) (by kernel_rfl) (by kernel_rfl) (fun _ _ _ h => h)
                (Or.inr ⟨by rfl, rfl⟩) hHeld ?_
              try simp only [Act.put, List.setIfInBounds_toArray, List.set_cons_zero, List.set_cons_succ]
              refine wpAnyH_take (i := 9) (oi := { dst := some 33, op := Op.move (Operand.tmp 0), type := 25, pos := _, after := #[{ on := 4, ground := Ground.guard }], guard := some (4, true) }) (v := undef) rfl (by kernel_rfl) (by kernel_rfl) (by kernel_rfl) (fun _ _ _ h => h)
                (Or.inr ⟨by rfl, rfl⟩) hHeld ?_
              try simp only [Act.put, List.setIfInBounds_toArray, List.set_cons_zero, List.set_cons_succ]
              refine wpAnyH_take (i := 10) (oi := { dst := some 34, op := Op.nilCheck (Operand.tmp 33), type := 0, pos := _, after := #[{ on := 9, ground := Ground.data }, { on := 4, ground := Ground.guard }], guard := some (4, true) }) (v := undef) rfl (by kernel_rfl) (by kernel_rfl) (by kernel_rfl) (fun _ _ _ h => h)
                (Or.inr ⟨by rfl, rfl⟩) hHeld ?_
              try simp only [Act.put, List.setIfInBounds_toArray, List.set_cons_zero, List.set_cons_succ]
              refine wpAnyH_take (i := 11) (oi := { dst := some 35, op := Op.fieldAddr 57 (Operand.tmp 34) 1, type := 0, pos := _, after := #[{ on := 10, ground := Ground.data }, { on := 4, ground := Ground.guard }], guard := some (4, true) }) (v := undef) rfl (by kernel_rfl) (by kernel_rfl) (by kernel_rfl) (fun _ _ _ h => h)
                (Or.inr ⟨by rfl, rfl⟩) hHeld ?_
              try simp only [Act.put, List.setIfInBounds_toArray, List.set_cons_zero, List.set_cons_succ]
              refine wpAnyH_take (i := 12) (oi := { dst := some 36, op := Op.load 22 (Operand.tmp 35), type := 22, pos := _, after := #[{ on := 11, ground := Ground.data }, { on := 4, ground := Ground.guard }], guard := some (4, true) }) (v := undef) rfl (by kernel_rfl) (by kernel_rfl) (by kernel_rfl) (fun _ _ _ h => h)
                (Or.inr ⟨by rfl, rfl⟩) hHeld ?_
              try simp only [Act.put, List.setIfInBounds_toArray, List.set_cons_zero, List.set_cons_succ]
              refine wpAnyH_take (i := 13) (oi := { dst := some 37, op := Op.move (Operand.tmp 4), type := 3, pos := _, after := #[{ on := 4, ground := Ground.guard }], guard := some (4, true) }) (v := undef) rfl (by kernel_rfl) (by kernel_rfl) (by kernel_rfl) (fun _ _ _ h => h)
                (Or.inr ⟨by rfl, rfl⟩) hHeld ?_
              try simp only [Act.put, List.setIfInBounds_toArray, List.set_cons_zero, List.set_cons_succ]
              refine wpAnyH_take (i := 14) (oi := { dst := some 38, op := Op.indexAddr 22 (Operand.tmp 36) (Operand.tmp 37), type := 0, pos := _, after := #[{ on := 12, ground := Ground.data }, { on := 13, ground := Ground.data }, { on := 4, ground := Ground.guard }], guard := some (4, true) }) (v := undef) rfl (by kernel_rfl) (by kernel_rfl) (by kernel_rfl) (fun _ _ _ h => h)
                (Or.inr ⟨by rfl, rfl⟩) hHeld ?_
              try simp only [Act.put, List.setIfInBounds_toArray, List.set_cons_zero, List.set_cons_succ]
              refine wpAnyH_take (i := 15) (oi := { dst := some 39, op := Op.fieldAddr 54 (Operand.tmp 38) 1, type := 0, pos := _, after := #[{ on := 14, ground := Ground.data }, { on := 4, ground := Ground.guard }], guard := some (4, true) }) (v := undef) rfl (by kernel_rfl) (by kernel_rfl) (by kernel_rfl) (fun _ _ _ h => h)
                (Or.inr ⟨by rfl, rfl⟩) hHeld ?_
              try simp only [Act.put, List.setIfInBounds_toArray, List.set_cons_zero, List.set_cons_succ]
              refine wpAnyH_take (i := 16) (oi := { dst := some 40, op := Op.load 3 (Operand.tmp 39), type := 3, pos := _, after := #[{ on := 15, ground := Ground.data }, { on := 4, ground := Ground.guard }], guard := some (4, true) }) (v := undef) rfl (by kernel_rfl) (by kernel_rfl) (by kernel_rfl) (fun _ _ _ h => h)
                (Or.inr ⟨by rfl, rfl⟩) hHeld ?_
              try simp only [Act.put, List.setIfInBounds_toArray, List.set_cons_zero, List.set_cons_succ]
              refine wpAnyH_take (i := 17) (oi := { dst := some 41, op := Op.binOp BinOp.lss 3 (Operand.tmp 32) (Operand.tmp 40) 3, type := 4, pos := _, after := #[{ on := 8, ground := Ground.data }, { on := 16, ground := Ground.data }, { on := 4, ground := Ground.guard }], guard := some (4, true) }) (v := undef) rfl (by kernel_rfl) (by kernel_rfl) (by kernel_rfl) (fun _ _ _ h => h)
                (Or.inr ⟨by rfl, rfl⟩) hHeld ?_
              try simp only [Act.put, List.setIfInBounds_toArray, List.set_cons_zero, List.set_cons_succ]
              refine wpAnyH_take (i := 18) (oi := { dst := some 42, op := Op.pick (Operand.tmp 28) (Operand.tmp 41) (Operand.const (Value.bool false)), type := 4, pos := _, after := #[{ on := 4, ground := Ground.data }, { on := 17, ground := Ground.data }], guard := none }) (v := .bool false) rfl (by kernel_rfl) (by kernel_rfl) (by kernel_rfl) (fun _ _ _ h => h) (Or.inl ⟨by rfl, ?_⟩) hHeld ?_
              · intro u hu
                go_simp
              try simp only [Act.put, List.setIfInBounds_toArray, List.set_cons_zero, List.set_cons_succ]
              refine wpAnyH_done (by kernel_rfl) ?_ _
              have B9 := bnext Bj hHeld (Nat.le_refl _)
              go_wp2_with fail
              go_meet
              exact ⟨j, hj, rfl, hno, (fun y' hy' => by rw [List.getElem?_eq_none (by omega)] at hy'; cases hy'), B9⟩
        case rest =>
          obtain ⟨j, hj, rfl, hno, hge, Bj⟩ := hcut
          have hins : Hid (insU out x = if insQ out j x = true then out.take j ++ x :: out.drop j else out) := insU_cut hno hge
          have z1j := (Stp.of_below Bj (fun _ => False)).cell z1 id
          have c1j := (Stp.of_below Bj (fun _ => False)).cell c1 id
          have Ij := I.later Bj
          clear hno hge z1 c1 z0
          have q8 : (0 : Int) ≤ (j : Int) := by omega
          go_upto_region 9 with fail
          go_cut [63] from 7 to 82 (fun u wx => u = .bool (insQ out j x) ∧ Below wc.heap.size wc wx)
          case first =>
            have z1 := z1j
            have c1 := c1j
            by_cases hjl : j < out.length
            · have q9 : ¬ (j : Int) = (out.length : Int) := by omega
              have q7 : (j : Int) < (out.length : Int) := by omega
              have cy := (Stp.of_below Bj (fun _ => False)).cell (hrow.cell j hjl) id
              have hgy : out[j]? = some (out.getD j 0) := by rw [List.getElem?_eq_getElem hjl, List.getD_eq_getElem?_getD, List.getElem?_eq_getElem hjl]; rfl
              generalize out.getD j 0 = y at *
              refine wp_region_held_drew (S := fun u => Below wc.heap.size wc u) (by kernel_rfl) (Below.refl _ _).drew (fun hHeld => ?_)
              by_cases hyx : y = x
              · have hQ : Hid (insQ out j x = false) := (by unfold insQ; rw [hgy, hyx]; simp : insQ out j x = false)
                refine wpAnyH_take (i := 0) (oi := { dst := some 45, op := Op.move (Operand.tmp 5), type := 3, pos := _, after := #[], guard := none }) (v := .int .i64 (j : Int)) rfl (by kernel_rfl) (by kernel_rfl) (by kernel_rfl) (fun _ _ _ h => h) (Or.inl ⟨by rfl, ?_⟩) hHeld ?_
                · intro u hu
                  go_simp
                try simp only [Act.put, List.setIfInBounds_toArray, List.set_cons_zero, List.set_cons_succ]
                refine wpAnyH_take (i := 1) (oi := { dst := some 46, op := Op.move (Operand.tmp 3), type := 23, pos := _, after := #[], guard := none }) (v := .slice (some ⟨gb, 0, none⟩) out.length cap) rfl (by kernel_rfl) (by kernel_rfl) (by kernel_rfl) (fun _ _ _ h => h) (Or.inl ⟨by rfl, ?_⟩) hHeld ?_
                · intro u hu
                  go_simp
                try simp only [Act.put, List.setIfInBounds_toArray, List.set_cons_zero, List.set_cons_succ]
                refine wpAnyH_take (i := 2) (oi := { dst := some 47, op := Op.call { callee := Callee.builtin Builtin.len, args := #[Operand.tmp 46], argTypes := #[23] }, type := 3, pos := _, after := #[{ on := 1, ground := Ground.data }], guard := none }) (v := .int .i64 (out.length : Int)) rfl (by kernel_rfl) (by kernel_rfl) (by kernel_rfl) (fun _ _ _ h => h) (Or.inl ⟨by rfl, ?_⟩) hHeld ?_
                · intro u hu
                  go_simp
                try simp only [Act.put, List.setIfInBounds_toArray, List.set_cons_zero, List.set_cons_succ]
                refine wpAnyH_take (i := 3) (oi := { dst := some 48, op := Op.binOp BinOp.eql 3 (Operand.tmp 45) (Operand.tmp 47) 3, type := 4, pos := _, after := #[{ on := 0, ground := Ground.data }, { on := 2, ground := Ground.data }], guard := none }) (v := .bool false) rfl (by kernel_rfl) (by kernel_rfl) (by kernel_rfl) (fun _ _ _ h => h) (Or.inl ⟨by rfl, ?_⟩) hHeld ?_
                · intro u hu
                  go_simp
                try simp only [Act.put, List.setIfInBounds_toArray, List.set_cons_zero, List.set_cons_succ]
                refine wpAnyH_take (i := 4) (oi := { dst := some 49, op := Op.move (Operand.tmp 48), type := 4, pos := _, after := #[{ on := 3, ground := Ground.data }], guard := none }) (v := .bool false) rfl (by kernel_rfl) (by kernel_rfl) (by kernel_rfl) (fun _ _ _ h => h) (Or.inl ⟨by rfl, ?_⟩) hHeld ?_
                · intro u hu
                  go_simp
                try simp only [Act.put, List.setIfInBounds_toArray, List.set_cons_zero, List.set_cons_succ]
                refine wpAnyH_take (i := 5) (oi := { dst := some 50, op := Op.move (Operand.tmp 3), type := 23, pos := _, after := #[{ on := 4, ground := Ground.guard }], guard := some (4, false) }) (v := .slice (some ⟨gb, 0, none⟩) out.length cap) rfl (by kernel_rfl) (by kernel_rfl) (by kernel_rfl) (fun _ _ _ h => h) (Or.inl ⟨by rfl, ?_⟩) hHeld ?_
                · intro u hu
                  go_simp
                try simp only [Act.put, List.setIfInBounds_toArray, List.set_cons_zero, List.set_cons_succ]
                refine wpAnyH_take (i := 6) (oi := { dst := some 51, op := Op.move (Operand.tmp 5), type := 3, pos := _, after := #[{ on := 4, ground := Ground.guard }], guard := some (4, false) }) (v := .int .i64 (j : Int)) rfl (by kernel_rfl) (by kernel_rfl) (by kernel_rfl) (fun _ _ _ h => h) (Or.inl ⟨by rfl, ?_⟩) hHeld ?_
                · intro u hu
                  go_simp
                try simp only [Act.put, List.setIfInBounds_toArray, List.set_cons_zero, List.set_cons_succ]
                refine wpAnyH_take (i := 7) (oi := { dst := some 52, op := Op.indexAddr 23 (Operand.tmp 50) (Operand.tmp 51), type := 0, pos := _, after := #[{ on := 5, ground := Ground.data }, { on := 6, ground := Ground.data }, { on := 4, ground := Ground.guard }], guard := some (4, false) }) (v := .pointer (some ⟨gb, j, none⟩)) rfl (by kernel_rfl) (by kernel_rfl) (by kernel_rfl) (fun _ _ _ h => h) (Or.inl ⟨by rfl, ?_⟩) hHeld ?_
                · intro u hu
                  go_simp
                try simp only [Act.put, List.setIfInBounds_toArray, List.set_cons_zero, List.set_cons_succ]
                refine wpAnyH_take (i := 8) (oi := { dst := some 53, op := Op.load 3 (Operand.tmp 52), type := 3, pos := _, after := #[{ on := 7, ground := Ground.data }, { on := 4, ground := Ground.guard }], guard := some (4, false) }) (v := .int .i64 y) rfl (by kernel_rfl) (by kernel_rfl) (by kernel_rfl) (fun _ _ _ h => h) (Or.inl ⟨by rfl, ?_⟩) hHeld ?_
                · intro u hu
                  have x1 := (Stp.of_below hu (fun _ => False)).cell cy id; go_simp
                try simp only [Act.put, List.setIfInBounds_toArray, List.set_cons_zero, List.set_cons_succ]
                refine wpAnyH_take (i := 9) (oi := { dst := some 54, op := Op.move (Operand.tmp 0), type := 25, pos := _, after := #[{ on := 4, ground := Ground.guard }], guard := some (4, false) }) (v := .pointer (some ⟨g, 0, none⟩)) rfl (by kernel_rfl) (by kernel_rfl) (by kernel_rfl) (fun _ _ _ h => h) (Or.inl ⟨by rfl, ?_⟩) hHeld ?_
                · intro u hu
                  go_simp
                try simp only [Act.put, List.setIfInBounds_toArray, List.set_cons_zero, List.set_cons_succ]
                refine wpAnyH_take (i := 10) (oi := { dst := some 55, op := Op.nilCheck (Operand.tmp 54), type := 0, pos := _, after := #[{ on := 9, ground := Ground.data }, { on := 4, ground := Ground.guard }], guard := some (4, false) }) (v := .pointer (some ⟨g, 0, none⟩)) rfl (by kernel_rfl) (by kernel_rfl) (by kernel_rfl) (fun _ _ _ h => h) (Or.inl ⟨by rfl, ?_⟩) hHeld ?_
                · intro u hu
                  go_simp
                try simp only [Act.put, List.setIfInBounds_toArray, List.set_cons_zero, List.set_cons_succ]
                refine wpAnyH_take (i := 11) (oi := { dst := some 56, op := Op.fieldAddr 57 (Operand.tmp 55) 1, type := 0, pos := _, after := #[{ on := 10, ground := Ground.data }, { on := 4, ground := Ground.guard }], guard := some (4, false) }) (v := .pointer (some ⟨g, 1, none⟩)) rfl (by kernel_rfl) (by kernel_rfl) (by kernel_rfl) (fun _ _ _ h => h) (Or.inl ⟨by rfl, ?_⟩) hHeld ?_
                · intro u hu
                  go_simp
                try simp only [Act.put, List.setIfInBounds_toArray, List.set_cons_zero, List.set_cons_succ]
                refine wpAnyH_take (i := 12) (oi := { dst := some 57, op := Op.load 22 (Operand.tmp 56), type := 22, pos := _, after := #[{ on := 11, ground := Ground.data }, { on := 4, ground := Ground.guard }], guard := some (4, false) }) (v := .slice (some ⟨b, 0, none⟩) L.length c) rfl (by kernel_rfl) (by kernel_rfl) (by kernel_rfl) (fun _ _ _ h => h) (Or.inl ⟨by rfl, ?_⟩) hHeld ?_
                · intro u hu
                  have x1 := (Stp.of_below hu (fun _ => False)).cell z1 id; go_simp
                try simp only [Act.put, List.setIfInBounds_toArray, List.set_cons_zero, List.set_cons_succ]
                refine wpAnyH_take (i := 13) (oi := { dst := some 58, op := Op.move (Operand.tmp 4), type := 3, pos := _, after := #[{ on := 4, ground := Ground.guard }], guard := some (4, false) }) (v := .int .i64 (i : Int)) rfl (by kernel_rfl) (by kernel_rfl) (by kernel_rfl) (fun _ _ _ h => h) (Or.inl ⟨by rfl, ?_⟩) hHeld ?_
                · intro u hu
                  go_simp
                try simp only [Act.put, List.setIfInBounds_toArray, List.set_cons_zero, List.set_cons_succ]
                refine wpAnyH_take (i := 14) (oi := { dst := some 59, op := Op.indexAddr 22 (Operand.tmp 57) (Operand.tmp 58), type := 0, pos := _, after := #[{ on := 12, ground := Ground.data }, { on := 13, ground := Ground.data }, { on := 4, ground := Ground.guard }], guard := some (4, false) }) (v := .pointer (some ⟨b, i * 9, none⟩)) rfl (by kernel_rfl) (by kernel_rfl) (by kernel_rfl) (fun _ _ _ h => h) (Or.inl ⟨by rfl, ?_⟩) hHeld ?_
                · intro u hu
                  go_simp
                try simp only [Act.put, List.setIfInBounds_toArray, List.set_cons_zero, List.set_cons_succ]
                refine wpAnyH_take (i := 15) (oi := { dst := some 60, op := Op.fieldAddr 54 (Operand.tmp 59) 1, type := 0, pos := _, after := #[{ on := 14, ground := Ground.data }, { on := 4, ground := Ground.guard }], guard := some (4, false) }) (v := .pointer (some ⟨b, i * 9 + 1, none⟩)) rfl (by kernel_rfl) (by kernel_rfl) (by kernel_rfl) (fun _ _ _ h => h) (Or.inl ⟨by rfl, ?_⟩) hHeld ?_
                · intro u hu
                  go_simp
                try simp only [Act.put, List.setIfInBounds_toArray, List.set_cons_zero, List.set_cons_succ]
                refine wpAnyH_take (i := 16) (oi := { dst := some 61, op := Op.load 3 (Operand.tmp 60), type := 3, pos := _, after := #[{ on := 15, ground := Ground.data }, { on := 4, ground := Ground.guard }], guard := some (4, false) }) (v := .int .i64 x) rfl (by kernel_rfl) (by kernel_rfl) (by kernel_rfl) (fun _ _ _ h => h) (Or.inl ⟨by rfl, ?_⟩) hHeld ?_
                · intro u hu
                  have x1 := (Stp.of_below hu (fun _ => False)).cell c1 id; go_simp
                try simp only [Act.put, List.setIfInBounds_toArray, List.set_cons_zero, List.set_cons_succ]
                refine wpAnyH_take (i := 17) (oi := { dst := some 62, op := Op.binOp BinOp.neq 3 (Operand.tmp 53) (Operand.tmp 61) 3, type := 4, pos := _, after := #[{ on := 8, ground := Ground.data }, { on := 16, ground := Ground.data }, { on := 4, ground := Ground.guard }], guard := some (4, false) }) (v := .bool false) rfl (by kernel_rfl) (by kernel_rfl) (by kernel_rfl) (fun _ _ _ h => h) (Or.inl ⟨by rfl, ?_⟩) hHeld ?_
                · intro u hu
                  go_simp
                try simp only [Act.put, List.setIfInBounds_toArray, List.set_cons_zero, List.set_cons_succ]
                refine wpAnyH_take (i := 18) (oi := { dst := some 63, op := Op.pick (Operand.tmp 49) (Operand.const (Value.bool true)) (Operand.tmp 62), type := 4, pos := _, after := #[{ on := 4, ground := Ground.data }, { on := 17, ground := Ground.data }], guard := none }) (v := .bool false) rfl (by kernel_rfl) (by kernel_rfl) (by kernel_rfl) (fun _ _ _ h => h) (Or.inl ⟨by rfl, ?_⟩) hHeld ?_
                · intro u hu
                  go_simp
                try simp only [Act.put, List.setIfInBounds_toArray, List.set_cons_zero, List.set_cons_succ]
                refine wpAnyH_done (by kernel_rfl) ?_ _
                go_wp2_with fail
                go_meet
                exact ⟨by rw [hQ.out], hHeld⟩
              · have hQ : Hid (insQ out j x = true) := (by unfold insQ; rw [hgy]; simp [hyx] : insQ out j x = true)
                refine wpAnyH_take (i := 0) (oi := { dst := some 45, op := Op.move (Operand.tmp 5), type := 3, pos := _, after := #[], guard := none }) (v := .int .i64 (j : Int)) rfl (by kernel_rfl) (by kernel_rfl) (by kernel_rfl) (fun _ _ _ h => h) (Or.inl ⟨by rfl, ?_⟩) hHeld ?_
                · intro u hu
                  go_simp
                try simp only [Act.put, List.setIfInBounds_toArray, List.set_cons_zero, List.set_cons_succ]
                refine wpAnyH_take (i := 1) (oi := { dst := some 46, op := Op.move (Operand.tmp 3), type := 23, pos := _, after := #[], guard := none }) (v := .slice (some ⟨gb, 0, none⟩) out.length cap) rfl (by kernel_rfl) (by kernel_rfl) (by kernel_rfl) (fun _ _ _ h => h) (Or.inl ⟨by rfl, ?_⟩) hHeld ?_
                · intro u hu
                  go_simp
                try simp only [Act.put, List.setIfInBounds_toArray, List.set_cons_zero, List.set_cons_succ]
                refine wpAnyH_take (i := 2) (oi := { dst := some 47, op := Op.call { callee := Callee.builtin Builtin.len, args := #[Operand.tmp 46], argTypes := #[23] }, type := 3, pos := _, after := #[{ on := 1, ground := Ground.data }], guard := none }) (v := .int .i64 (out.length : Int)) rfl (by kernel_rfl) (by kernel_rfl) (by kernel_rfl) (fun _ _ _ h => h) (Or.inl ⟨by rfl, ?_⟩) hHeld ?_
                · intro u hu
                  go_simp
                try simp only [Act.put, List.setIfInBounds_toArray, List.set_cons_zero, List.set_cons_succ]
                refine wpAnyH_take (i := 3) (oi := { dst := some 48, op := Op.binOp BinOp.eql 3 (Operand.tmp 45) (Operand.tmp 47) 3, type := 4, pos := _, after := #[{ on := 0, ground := Ground.data }, { on := 2, ground := Ground.data }], guard := none }) (v := .bool false) rfl (by kernel_rfl) (by kernel_rfl) (by kernel_rfl) (fun _ _ _ h => h) (Or.inl ⟨by rfl, ?_⟩) hHeld ?_
                · intro u hu
                  go_simp
                try simp only [Act.put, List.setIfInBounds_toArray, List.set_cons_zero, List.set_cons_succ]
                refine wpAnyH_take (i := 4) (oi := { dst := some 49, op := Op.move (Operand.tmp 48), type := 4, pos := _, after := #[{ on := 3, ground := Ground.data }], guard := none }) (v := .bool false) rfl (by kernel_rfl) (by kernel_rfl) (by kernel_rfl) (fun _ _ _ h => h) (Or.inl ⟨by rfl, ?_⟩) hHeld ?_
                · intro u hu
                  go_simp
                try simp only [Act.put, List.setIfInBounds_toArray, List.set_cons_zero, List.set_cons_succ]
                refine wpAnyH_take (i := 5) (oi := { dst := some 50, op := Op.move (Operand.tmp 3), type := 23, pos := _, after := #[{ on := 4, ground := Ground.guard }], guard := some (4, false) }) (v := .slice (some ⟨gb, 0, none⟩) out.length cap) rfl (by kernel_rfl) (by kernel_rfl) (by kernel_rfl) (fun _ _ _ h => h) (Or.inl ⟨by rfl, ?_⟩) hHeld ?_
                · intro u hu
                  go_simp
                try simp only [Act.put, List.setIfInBounds_toArray, List.set_cons_zero, List.set_cons_succ]
                refine wpAnyH_take (i := 6) (oi := { dst := some 51, op := Op.move (Operand.tmp 5), type := 3, pos := _, after := #[{ on := 4, ground := Ground.guard }], guard := some (4, false) }) (v := .int .i64 (j : Int)) rfl (by kernel_rfl) (by kernel_rfl) (by kernel_rfl) (fun _ _ _ h => h) (Or.inl ⟨by rfl, ?_⟩) hHeld ?_
                · intro u hu
                  go_simp
                try simp only [Act.put, List.setIfInBounds_toArray, List.set_cons_zero, List.set_cons_succ]
                refine wpAnyH_take (i := 7) (oi := { dst := some 52, op := Op.indexAddr 23 (Operand.tmp 50) (Operand.tmp 51), type := 0, pos := _, after := #[{ on := 5, ground := Ground.data }, { on := 6, ground := Ground.data }, { on := 4, ground := Ground.guard }], guard := some (4, false) }) (v := .pointer (some ⟨gb, j, none⟩)) rfl (by kernel_rfl) (by kernel_rfl) (by kernel_rfl) (fun _ _ _ h => h) (Or.inl ⟨by rfl, ?_⟩) hHeld ?_
                · intro u hu
                  go_simp
                try simp only [Act.put, List.setIfInBounds_toArray, List.set_cons_zero, List.set_cons_succ]
                refine wpAnyH_take (i := 8) (oi := { dst := some 53, op := Op.load 3 (Operand.tmp 52), type := 3, pos := _, after := #[{ on := 7, ground := Ground.data }, { on := 4, ground := Ground.guard }], guard := some (4, false) }) (v := .int .i64 y) rfl (by kernel_rfl) (by kernel_rfl) (by kernel_rfl) (fun _ _ _ h => h) (Or.inl ⟨by rfl, ?_⟩) hHeld ?_
                · intro u hu
                  have x1 := (Stp.of_below hu (fun _ => False)).cell cy id; go_simp
                try simp only [Act.put, List.setIfInBounds_toArray, List.set_cons_zero, List.set_cons_succ]
                refine wpAnyH_take (i := 9) (oi := { dst := some 54, op := Op.move (Operand.tmp 0), type := 25, pos := _, after := #[{ on := 4, ground := Ground.guard }], guard := some (4, false) }) (v := .pointer (some ⟨g, 0, none⟩)) rfl (by kernel_rfl) (by kernel_rfl) (by kernel_rfl) (fun _ _ _ h => h) (Or.inl ⟨by rfl, ?_⟩) hHeld ?_
                · intro u hu
                  go_simp
                try simp only [Act.put, List.setIfInBounds_toArray, List.set_cons_zero, List.set_cons_succ]
                refine wpAnyH_take (i := 10) (oi := { dst := some 55, op := Op.nilCheck (Operand.tmp 54), type := 0, pos := _, after := #[{ on := 9, ground := Ground.data }, { on := 4, ground := Ground.guard }], guard := some (4, false) }) (v := .pointer (some ⟨g, 0, none⟩)) rfl (by kernel_rfl) (by kernel_rfl) (by kernel_rfl) (fun _ _ _ h => h) (Or.inl ⟨by rfl, ?_⟩) hHeld ?_
                · intro u hu
                  go_simp
                try simp only [Act.put, List.setIfInBounds_toArray, List.set_cons_zero, List.set_cons_succ]
                refine wpAnyH_take (i := 11) (oi := { dst := some 56, op := Op.fieldAddr 57 (Operand.tmp 55) 1, type := 0, pos := _, after := #[{ on := 10, ground := Ground.data }, { on := 4, ground := Ground.guard }], guard := some (4, false) }) (v := .pointer (some ⟨g, 1, none⟩)) rfl (by kernel_rfl) (by kernel_rfl) (by kernel_rfl) (fun _ _ _ h => h) (Or.inl ⟨by rfl, ?_⟩) hHeld ?_
                · intro u hu
                  go_simp
                try simp only [Act.put, List.setIfInBounds_toArray, List.set_cons_zero, List.set_cons_succ]
                refine wpAnyH_take (i := 12) (oi := { dst := some 57, op := Op.load 22 (Operand.tmp 56), type := 22, pos := _, after := #[{ on := 11, ground := Ground.data }, { on := 4, ground := Ground.guard }], guard := some (4, false) }) (v := .slice (some ⟨b, 0, none⟩) L.length c) rfl (by kernel_rfl) (by kernel_rfl) (by kernel_rfl) (fun _ _ _ h => h) (Or.inl ⟨by rfl, ?_⟩) hHeld ?_
                · intro u hu
                  have x1 := (Stp.of_below hu (fun _ => False)).cell z1 id; go_simp
                try simp only [Act.put, List.setIfInBounds_toArray, List.set_cons_zero, List.set_cons_succ]
                refine wpAnyH_take (i := 13) (oi := { dst := some 58, op := Op.move (Operand.tmp 4), type := 3, pos := _, after := #[{ on := 4, ground := Ground.guard }], guard := some (4, false) }) (v := .int .i64 (i : Int)) rfl (by kernel_rfl) (by kernel_rfl) (by kernel_rfl) (fun _ _ _ h => h) (Or.inl ⟨by rfl, ?_⟩) hHeld ?_
                · intro u hu
                  go_simp
                try simp only [Act.put, List.setIfInBounds_toArray, List.set_cons_zero, List.set_cons_succ]
                refine wpAnyH_take (i := 14) (oi := { dst := some 59, op := Op.indexAddr 22 (Operand.tmp 57) (Operand.tmp 58), type := 0, pos := _, after := #[{ on := 12, ground := Ground.data }, { on := 13, ground := Ground.data }, { on := 4, ground := Ground.guard }], guard := some (4, false) }) (v := .pointer (some ⟨b, i * 9, none⟩)) rfl (by kernel_rfl) (by kernel_rfl) (by kernel_rfl) (fun _ _ _ h => h) (Or.inl ⟨by rfl, ?_⟩) hHeld ?_
                · intro u hu
                  go_simp
                try simp only [Act.put, List.setIfInBounds_toArray, List.set_cons_zero, List.set_cons_succ]
                refine wpAnyH_take (i := 15) (oi := { dst := some 60, op := Op.fieldAddr 54 (Operand.tmp 59) 1, type := 0, pos := _, after := #[{ on := 14, ground := Ground.data }, { on := 4, ground := Ground.guard }], guard := some (4, false) }) (v := .pointer (some ⟨b, i * 9 + 1, none⟩)) rfl (by kernel_rfl) (by kernel_rfl) (by kernel_rfl) (fun _ _ _ h => h) (Or.inl ⟨by rfl, ?_⟩) hHeld ?_
                · intro u hu
                  go_simp
                try simp only [Act.put, List.setIfInBounds_toArray, List.set_cons_zero, List.set_cons_succ]
                refine wpAnyH_take (i := 16) (oi := { dst := some 61, op := Op.load 3 (Operand.tmp 60), type := 3, pos := _, after := #[{ on := 15, ground := Ground.data }, { on := 4, ground := Ground.guard }], guard := some (4, false) }) (v := .int .i64 x) rfl (by kernel_rfl) (by kernel_rfl) (by kernel_rfl) (fun _ _ _ h => h) (Or.inl ⟨by rfl, ?_⟩) hHeld ?_
                · intro u hu
                  have x1 := (Stp.of_below hu (fun _ => False)).cell c1 id; go_simp
                try simp only [Act.put, List.setIfInBounds_toArray, List.set_cons_zero, List.set_cons_succ]
                refine wpAnyH_take (i := 17) (oi := { dst := some 62, op := Op.binOp BinOp.neq 3 (Operand.tmp 53) (Operand.tmp 61) 3, type := 4, pos := _, after := #[{ on := 8, ground := Ground.data }, { on := 16, ground := Ground.data }, { on := 4, ground := Ground.guard }], guard := some (4, false) }) (v := .bool true) rfl (by kernel_rfl) (by kernel_rfl) (by kernel_rfl) (fun _ _ _ h => h) (Or.inl ⟨by rfl, ?_⟩) hHeld ?_
                · intro u hu
                  go_simp
                try simp only [Act.put, List.setIfInBounds_toArray, List.set_cons_zero, List.set_cons_succ]
                refine wpAnyH_take (i := 18) (oi := { dst := some 63, op := Op.pick (Operand.tmp 49) (Operand.const (Value.bool true)) (Operand.tmp 62), type := 4, pos := _, after := #[{ on := 4, ground := Ground.data }, { on := 17, ground := Ground.data }], guard := none }) (v := .bool true) rfl (by kernel_rfl) (by kernel_rfl) (by kernel_rfl) (fun _ _ _ h => h) (Or.inl ⟨by rfl, ?_⟩) hHeld ?_
                · intro u hu
                  go_simp
                try simp only [Act.put, List.setIfInBounds_toArray, List.set_cons_zero, List.set_cons_succ]
                refine wpAnyH_done (by kernel_rfl) ?_ _
                go_wp2_with fail
                go_meet
                exact ⟨by rw [hQ.out], hHeld⟩
            · have ej : j = out.length := by omega
              have q9 : (j : Int) = (out.length : Int) := by omega
              have hQ : Hid (insQ out j x = true) := (by unfold insQ; rw [List.getElem?_eq_none (by omega)]; simp : insQ out j x = true)
              clear ej
              refine wp_region_held_drew (S := fun u => Below wc.heap.size wc u) (by kernel_rfl) (Below.refl _ _).drew (fun hHeld => ?_)
              refine wpAnyH_take (i := 0) (oi := { dst := some 45, op := Op.move (Operand.tmp 5), type := 3, pos := _, after := #[], guard := none }) (v := .int .i64 (j : Int)) rfl (by kernel_rfl) (by kernel_rfl) (by kernel_rfl) (fun _ _ _ h => h) (Or.inl ⟨by rfl, ?_⟩) hHeld ?_
              · intro u hu
                go_simp
              try simp only [Act.put, List.setIfInBounds_toArray, List.set_cons_zero, List.set_cons_succ]
              refine wpAnyH_take (i := 1) (oi := { dst := some 46, op := Op.move (Operand.tmp 3), type := 23, pos := _, after := #[], guard := none }) (v := .slice (some ⟨gb, 0, none⟩) out.length cap) rfl (by kernel_rfl) (by kernel_rfl) (by kernel_rfl) (fun _ _ _ h => h) (Or.inl ⟨by rfl, ?_⟩) hHeld ?_
              · intro u hu
                go_simp
              try simp only [Act.put, List.setIfInBounds_toArray, List.set_cons_zero, List.set_cons_succ]
              refine wpAnyH_take (i := 2) (oi := { dst := some 47, op := Op.call { callee := Callee.builtin Builtin.len, args := #[Operand.tmp 46], argTypes := #[23] }, type := 3, pos := _, after := #[{ on := 1, ground := Ground.data }], guard := none }) (v := .int .i64 (out.length : Int)) rfl (by kernel_rfl) (by kernel_rfl) (by kernel_rfl) (fun _ _ _ h => h) (Or.inl ⟨by rfl, ?_⟩) hHeld ?_
              · intro u hu
                go_simp
              try simp only [Act.put, List.setIfInBounds_toArray, List.set_cons_zero, List.set_cons_succ]
              refine wpAnyH_take (i := 3) (oi := { dst := some 48, op := Op.binOp BinOp.eql 3 (Operand.tmp 45) (Operand.tmp 47) 3, type := 4, pos := _, after := #[{ on := 0, ground := Ground.data }, { on := 2, ground := Ground.data }], guard := none }) (v := .bool true) rfl (by kernel_rfl) (by kernel_rfl) (by kernel_rfl) (fun _ _ _ h => h) (Or.inl ⟨by rfl, ?_⟩) hHeld ?_
              · intro u hu
                go_simp
              try simp only [Act.put, List.setIfInBounds_toArray, List.set_cons_zero, List.set_cons_succ]
              refine wpAnyH_take (i := 4) (oi := { dst := some 49, op := Op.move (Operand.tmp 48), type := 4, pos := _, after := #[{ on := 3, ground := Ground.data }], guard := none }) (v := .bool true) rfl (by kernel_rfl) (by kernel_rfl) (by kernel_rfl) (fun _ _ _ h => h) (Or.inl ⟨by rfl, ?_⟩) hHeld ?_
              · intro u hu
                go_simp
              try simp only [Act.put, List.setIfInBounds_toArray, List.set_cons_zero, List.set_cons_succ]
              refine wpAnyH_take (i := 5) (oi := { dst := some 50, op := Op.move (Operand.tmp 3), type := 23, pos := _, after := #[{ on := 4, ground := Ground.guard }], guard := some (4, false) }) (v := undef) rfl (by kernel_rfl) (by kernel_rfl) (by kernel_rfl) (fun _ _ _ h => h)
                (Or.inr ⟨by rfl, rfl⟩) hHeld ?_
              try simp only [Act.put, List.setIfInBounds_toArray, List.set_cons_zero, List.set_cons_succ]
              refine wpAnyH_take (i := 6) (oi := { dst := some 51, op := Op.move (Operand.tmp 5), type := 3, pos := _, after := #[{ on := 4, ground := Ground.guard }], guard := some (4, false) }) (v := undef) rfl (by kernel_rfl) (by kernel_rfl) (by kernel_rfl) (fun _ _ _ h => h)
                (Or.inr ⟨by rfl, rfl⟩) hHeld ?_
              try simp only [Act.put, List.setIfInBounds_toArray, List.set_cons_zero, List.set_cons_succ]
              refine wpAnyH_take (i := 7) (oi := { dst := some 52, op := Op.indexAddr 23 (Operand.tmp 50) (Operand.tmp 51), type := 0, pos := _, after := #[{ on := 5, ground := Ground.data }, { on := 6, ground := Ground.data }, { on := 4, ground := Ground.guard }], guard := some (4, false) }) (v := undef) rfl (by kernel_rfl) (by kernel_rfl) (by kernel_rfl) (fun _ _ _ h => h)
                (Or.inr ⟨by rfl, rfl⟩) hHeld ?_
              try simp only [Act.put, List.setIfInBounds_toArray, List.set_cons_zero, List.set_cons_succ]
              refine wpAnyH_take (i := 8) (oi := { dst := some 53, op := Op.load 3 (Operand.tmp 52), type := 3, pos := _, after := #[{ on := 7, ground := Ground.data }, { on := 4, ground := Ground.guard }], guard := some (4, false) }) (v := undef) rfl (by kernel_rfl) (by kernel_rfl) (by kernel_rfl) (fun _ _ _ h => h)
                (Or.inr ⟨by rfl, rfl⟩) hHeld ?_
              try simp only [Act.put, List.setIfInBounds_toArray, List.set_cons_zero, List.set_cons_succ]
              refine wpAnyH_take (i := 9) (oi := { dst := some 54, op := Op.move (Operand.tmp 0), type := 25, pos := _, after := #[{ on := 4, ground := Ground.guard }], guard := some (4, false) }) (v := undef) rfl (by kernel_rfl) (by kernel_rfl) (by kernel_rfl) (fun _ _ _ h => h)
                (Or.inr ⟨by rfl, rfl⟩) hHeld ?_
              try simp only [Act.put, List.setIfInBounds_toArray, List.set_cons_zero, List.set_cons_succ]
              refine wpAnyH_take (i := 10) (oi := { dst := some 55, op := Op.nilCheck (Operand.tmp 54), type := 0, pos := _, after := #[{ on := 9, ground := Ground.data }, { on := 4, ground := Ground.guard }], guard := some (4, false) }) (v := undef) rfl (by kernel_rfl) (by kernel_rfl) (by kernel_rfl) (fun _ _ _ h => h)
                (Or.inr ⟨by rfl, rfl⟩) hHeld ?_
              try simp only [Act.put, List.setIfInBounds_toArray, List.set_cons_zero, List.set_cons_succ]
              refine wpAnyH_take (i := 11) (oi := { dst := some 56, op := Op.fieldAddr 57 (Operand.tmp 55) 1, type := 0, pos := _, after := #[{ on := 10, ground := Ground.data }, { on := 4, ground := Ground.guard }], guard := some (4, false) }) (v := undef) rfl (by kernel_rfl) (by kernel_rfl) (by kernel_rfl) (fun _ _ _ h => h)
                (Or.inr ⟨by rfl, rfl⟩) hHeld ?_
              try simp only [Act.put, List.setIfInBounds_toArray, List.set_cons_zero, List.set_cons_succ]
              refine wpAnyH_take (i := 12) (oi := { dst := some 57, op := Op.load 22 (Operand.tmp 56), type := 22, pos := _, after := #[{ on := 11, ground := Ground.data }, { on := 4, ground := Ground.guard }], guard := some (4, false) }) (v := undef) rfl (by kernel_rfl) (by kernel_rfl) (by kernel_rfl) (fun _ _ _ h => h)
                (Or.inr ⟨by rfl, rfl⟩) hHeld ?_
              try simp only [Act.put, List.setIfInBounds_toArray, List.set_cons_zero, List.set_cons_succ]
              refine wpAnyH_take (i := 13) (oi := { dst := some 58, op := Op.move (Operand.tmp 4), type := 3, pos := _, after := #[{ on := 4, ground := Ground.guard }], guard := some (4, false) }) (v := undef) rfl (by kernel_rfl) (by kernel_rfl) (by kernel_rfl) (fun _ _ _ h => h)
                (Or.inr ⟨by rfl, rfl⟩) hHeld ?_
              try simp only [Act.put, List.setIfInBounds_toArray, List.set_cons_zero, List.set_cons_succ]
              refine wpAnyH_take (i := 14) (oi := { dst := some 59, op := Op.indexAddr 22 (Operand.tmp 57) (Operand.tmp 58), type := 0, pos := _, after := #[{ on := 12, ground := Ground.data }, { on := 13, ground := Ground.data }, { on := 4, ground := Ground.guard }], guard := some (4, false) }) (v := undef) rfl (by kernel_rfl) (by kernel_rfl) (by kernel_rfl) (fun _ _ _ h => h)
                (Or.inr ⟨by rfl, rfl⟩) hHeld ?_
              try simp only [Act.put, List.setIfInBounds_toArray, List.set_cons_zero, List.set_cons_succ]
              refine wpAnyH_take (i := 15) (oi := { dst := some 60, op := Op.fieldAddr 54 (Operand.tmp 59) 1, type := 0, pos := _, after := #[{ on := 14, ground := Ground.data }, { on := 4, ground := Ground.guard }], guard := some (4, false) }) (v := undef) rfl (by kernel_rfl) (by kernel_rfl) (by kernel_rfl) (fun _ _ _ h => h)
                (Or.inr ⟨by rfl, rfl⟩) hHeld ?_
              try simp only [Act.put, List.setIfInBounds_toArray, List.set_cons_zero, List.set_cons_succ]
              refine wpAnyH_take (i := 16) (oi := { dst := some 61, op := Op.load 3 (Operand.tmp 60), type := 3, pos := _, after := #[{ on := 15, ground := Ground.data }, { on := 4, ground := Ground.guard }], guard := some (4, false) }) (v := undef) rfl (by kernel_rfl) (by kernel_rfl) (by kernel_rfl) (fun _ _ _ h => h)
                (Or.inr ⟨by rfl, rfl⟩) hHeld ?_
              try simp only [Act.put, List.setIfInBounds_toArray, List.set_cons_zero, List.set_cons_succ]
              refine wpAnyH_take (i := 17) (oi := { dst := some 62, op := Op.binOp BinOp.neq 3 (Operand.tmp 53) (Operand.tmp 61) 3, type := 4, pos := _, after := #[{ on := 8, ground := Ground.data }, { on := 16, ground := Ground.data }, { on := 4, ground := Ground.guard }], guard := some (4, false) }) (v := undef) rfl (by kernel_rfl) (by kernel_rfl) (by kernel_rfl) (fun _ _ _ h => h)
                (Or.inr ⟨by rfl, rfl⟩) hHeld ?_
              try simp only [Act.put, List.setIfInBounds_toArray, List.set_cons_zero, List.set_cons_succ]
              refine wpAnyH_take (i := 18) (oi := { dst := some 63, op := Op.pick (Operand.tmp 49) (Operand.const (Value.bool true)) (Operand.tmp 62), type := 4, pos := _, after := #[{ on := 4, ground := Ground.data }, { on := 17, ground := Ground.data }], guard := none }) (v := .bool true) rfl (by kernel_rfl) (by kernel_rfl) (by kernel_rfl) (fun _ _ _ h => h) (Or.inl ⟨by rfl, ?_⟩) hHeld ?_
              · intro u hu
                go_simp
              try simp only [Act.put, List.setIfInBounds_toArray, List.set_cons_zero, List.set_cons_succ]
              refine wpAnyH_done (by kernel_rfl) ?_ _
              go_wp2_with fail
              go_meet
              exact ⟨by rw [hQ.out], hHeld⟩
          case rest =>
            obtain ⟨rfl, Bk⟩ := hcut
            have IW := Ij.later Bk
            have z1 := (Stp.of_below Bk (fun _ => False)).cell z1j id
            have c1 := (Stp.of_below Bk (fun _ => False)).cell c1j id
            clear z1j c1j Ij hrow
            obtain ⟨q, hq⟩ : ∃ q, Hid (insQ out j x = q) := ⟨_, rfl⟩
            rw [hq.out]
            cases q with
            | false =>
              go_wp2_with fail
              go_roundw
              case rel => exact ⟨i + 1, gb, cap, out, by omega, by rw [hst2.out, hins.out, hq.out]; simp, rfl, by go_num, IW⟩
              case measure => simp [intOf]; omega
            | true =>
              generalize wc = W at *
              have hN : scK Z.l (i + 1) = out.take j ++ x :: out.drop j := by rw [hst2.out, hins.out, hq.out, if_pos rfl]
              have hN' : Hid (scK Z.l (i + 1) = out.take j ++ [x] ++ out.drop j) := (by rw [hN]; simp : scK Z.l (i + 1) = out.take j ++ [x] ++ out.drop j)
              clear hN
              obtain ⟨cur, hrow⟩ := IW.row
              have hcu : ∀ u, Stp (fun y => W.heap.size ≤ y) W u → ∀ jj, jj < out.length → u.cell? ⟨gb, jj, none⟩ = some (.int .i64 (out.getD jj 0)) := fun u hu jj hjj => hu.cell (hrow.cell jj hjj) (fun e => by have := hrow.lt; simp only at e; omega)
              have TK : ∀ u, Stp (fun y => W.heap.size ≤ y) W u → ∀ ad, some (⟨gb, 0, none⟩ : Addr) = some ad → ∀ jj v, ((out.take j).map (Value.int .i64))[jj]? = some v → u.cell? (ad.add jj) = some v := fun u hu ad e jj v hv => by
                injection e with e; subst e
                have hjj := (List.getElem?_eq_some_iff.1 hv).1
                rw [List.length_map, List.length_take] at hjj
                have hj1 : jj < j := by omega
                have hj2 : jj < out.length := by omega
                rw [Addr.add_lit, Nat.zero_add, hcu u hu jj hj2, ← hv, List.getElem?_map, List.getElem?_take, if_pos hj1, List.getElem?_eq_getElem hj2, List.getD_eq_getElem?_getD, List.getElem?_eq_getElem hj2]; rfl
              obtain ⟨oj, hoj⟩ : ∃ oj, Hid (oj = if cap = j then 0 else j) := ⟨_, rfl⟩
              have DR : ∀ u, Stp (fun y => W.heap.size ≤ y) W u → ∀ ad, some (⟨gb, oj, none⟩ : Addr) = some ad → ∀ jj v, ((out.drop j).map (Value.int .i64))[jj]? = some v → u.cell? (ad.add jj) = some v := fun u hu ad e jj v hv => by
                injection e with e; subst e
                have hjj := (List.getElem?_eq_some_iff.1 hv).1
                rw [List.length_map, List.length_drop] at hjj
                have hoe : oj = j := by rw [hoj.out, if_neg (by omega)]
                rw [Addr.add_lit, hoe, hcu u hu (j + jj) (by omega), ← hv, List.getElem?_map, List.getElem?_drop, List.getElem?_eq_getElem (by omega), List.getD_eq_getElem?_getD, List.getElem?_eq_getElem (by omega)]; rfl
              have oneI : ∀ l : List Int, ∀ v ∈ l.map (Value.int .i64), v.oneCell' = true := fun l v hv => by obtain ⟨y, _, rfl⟩ := List.mem_map.1 hv; rfl
              have FIN : ∀ w18 v18, Stp (fun y => W.heap.size ≤ y) W w18 → OwV w18 v18 (out.take j ++ [x] ++ out.drop j) → New W.heap.size v18 → ∃ gb' cap', v18 = .slice (some ⟨gb', 0, none⟩) (out.take j ++ [x] ++ out.drop j).length cap' ∧ ScI w w18 gb' cap' (out.take j ++ [x] ++ out.drop j) := fun w18 v18 hs ho hn => by
                obtain ⟨gb', cap', cur', e, _⟩ := ho.row1 (by simp)
                subst e
                have h1 := hn gb' rfl
                have h2 := IW.b.size
                exact ⟨gb', cap', rfl, ho, by omega, ((Stp.of_below IW.b (fun _ => False)).next hs (fun y hy => .inr (by omega))).below (Nat.le_refl _) (fun y e => e.elim)⟩
              have qj : (j : Int) ≤ (out.length : Int) := by omega
              have qc : (out.length : Int) ≤ (cap : Int) := by omega
              have qjc : (j : Int) ≤ (cap : Int) := by omega
              have hjc : j ≤ cap := by omega
              clear hrow hcu
              have z1c := z1
              go_upto_region 10 with fail
              refine wp_region_held_drew (S := fun u => Stp (fun y => W.heap.size ≤ y) W u) (by kernel_rfl) (Stp.refl _ _).drew (fun hHeld => ?_)
              refine wpAnyH_take (i := 1) (oi := { dst := some 65, op := Op.move (Operand.tmp 3), type := 23, pos := _, after := #[], guard := none }) (v := .slice (some ⟨gb, 0, none⟩) out.length cap) rfl (by kernel_rfl) (by kernel_rfl) (by kernel_rfl) (fun _ _ _ h => h) (Or.inl ⟨by rfl, ?_⟩) hHeld ?_
              · intro u hu
                go_simp
              try simp only [Act.put, List.setIfInBounds_toArray, List.set_cons_zero, List.set_cons_succ]
              refine wpAnyH_take (i := 2) (oi := { dst := some 66, op := Op.move (Operand.tmp 5), type := 3, pos := _, after := #[], guard := none }) (v := .int .i64 (j : Int)) rfl (by kernel_rfl) (by kernel_rfl) (by kernel_rfl) (fun _ _ _ h => h) (Or.inl ⟨by rfl, ?_⟩) hHeld ?_
              · intro u hu
                go_simp
              try simp only [Act.put, List.setIfInBounds_toArray, List.set_cons_zero, List.set_cons_succ]
              refine wpAnyH_take (i := 3) (oi := { dst := some 67, op := Op.slice 23 (Operand.tmp 65) none (some (Operand.tmp 66)) none, type := 23, pos := _, after := #[{ on := 1, ground := Ground.data }, { on := 2, ground := Ground.data }], guard := none }) (v := .slice (some ⟨gb, 0, none⟩) j cap) rfl (by kernel_rfl) (by kernel_rfl) (by kernel_rfl) (fun _ _ _ h => h) (Or.inl ⟨by rfl, ?_⟩) hHeld ?_
              · intro u hu
                go_simp
              try simp only [Act.put, List.setIfInBounds_toArray, List.set_cons_zero, List.set_cons_succ]
              refine wpAnyH_take (i := 5) (oi := { dst := some 69, op := Op.move (Operand.tmp 0), type := 25, pos := _, after := #[], guard := none }) (v := .pointer (some ⟨g, 0, none⟩)) rfl (by kernel_rfl) (by kernel_rfl) (by kernel_rfl) (fun _ _ _ h => h) (Or.inl ⟨by rfl, ?_⟩) hHeld ?_
              · intro u hu
                go_simp
              try simp only [Act.put, List.setIfInBounds_toArray, List.set_cons_zero, List.set_cons_succ]
              refine wpAnyH_take (i := 6) (oi := { dst := some 70, op := Op.nilCheck (Operand.tmp 69), type := 0, pos := _, after := #[{ on := 5, ground := Ground.data }], guard := none }) (v := .pointer (some ⟨g, 0, none⟩)) rfl (by kernel_rfl) (by kernel_rfl) (by kernel_rfl) (fun _ _ _ h => h) (Or.inl ⟨by rfl, ?_⟩) hHeld ?_
              · intro u hu
                go_simp
              try simp only [Act.put, List.setIfInBounds_toArray, List.set_cons_zero, List.set_cons_succ]
              refine wpAnyH_take (i := 7) (oi := { dst := some 71, op := Op.fieldAddr 57 (Operand.tmp 70) 1, type := 0, pos := _, after := #[{ on := 6, ground := Ground.data }], guard := none }) (v := .pointer (some ⟨g, 1, none⟩)) rfl (by kernel_rfl) (by kernel_rfl) (by kernel_rfl) (fun _ _ _ h => h) (Or.inl ⟨by rfl, ?_⟩) hHeld ?_
              · intro u hu
                go_simp
              try simp only [Act.put, List.setIfInBounds_toArray, List.set_cons_zero, List.set_cons_succ]
              refine wpAnyH_take (i := 8) (oi := { dst := some 72, op := Op.load 22 (Operand.tmp 71), type := 22, pos := _, after := #[{ on := 7, ground := Ground.data }], guard := none }) (v := .slice (some ⟨b, 0, none⟩) L.length c) rfl (by kernel_rfl) (by kernel_rfl) (by kernel_rfl) (fun _ _ _ h => h) (Or.inl ⟨by rfl, ?_⟩) hHeld ?_
              · intro u hu
                have x1 := hu.cell z1 (fun e => by have := World.block_lt_of_cell? W _ z1; simp only at e this; omega); go_simp
              try simp only [Act.put, List.setIfInBounds_toArray, List.set_cons_zero, List.set_cons_succ]
              refine wpAnyH_take (i := 9) (oi := { dst := some 73, op := Op.move (Operand.tmp 4), type := 3, pos := _, after := #[], guard := none }) (v := .int .i64 (i : Int)) rfl (by kernel_rfl) (by kernel_rfl) (by kernel_rfl) (fun _ _ _ h => h) (Or.inl ⟨by rfl, ?_⟩) hHeld ?_
              · intro u hu
                go_simp
              try simp only [Act.put, List.setIfInBounds_toArray, List.set_cons_zero, List.set_cons_succ]
              refine wpAnyH_take (i := 10) (oi := { dst := some 74, op := Op.indexAddr 22 (Operand.tmp 72) (Operand.tmp 73), type := 0, pos := _, after := #[{ on := 8, ground := Ground.data }, { on := 9, ground := Ground.data }], guard := none }) (v := .pointer (some ⟨b, i * 9, none⟩)) rfl (by kernel_rfl) (by kernel_rfl) (by kernel_rfl) (fun _ _ _ h => h) (Or.inl ⟨by rfl, ?_⟩) hHeld ?_
              · intro u hu
                go_simp
              try simp only [Act.put, List.setIfInBounds_toArray, List.set_cons_zero, List.set_cons_succ]
              refine wpAnyH_take (i := 11) (oi := { dst := some 75, op := Op.fieldAddr 54 (Operand.tmp 74) 1, type := 0, pos := _, after := #[{ on := 10, ground := Ground.data }], guard := none }) (v := .pointer (some ⟨b, i * 9 + 1, none⟩)) rfl (by kernel_rfl) (by kernel_rfl) (by kernel_rfl) (fun _ _ _ h => h) (Or.inl ⟨by rfl, ?_⟩) hHeld ?_
              · intro u hu
                go_simp
              try simp only [Act.put, List.setIfInBounds_toArray, List.set_cons_zero, List.set_cons_succ]
              refine wpAnyH_take (i := 12) (oi := { dst := some 76, op := Op.load 3 (Operand.tmp 75), type := 3, pos := _, after := #[{ on := 11, ground := Ground.data }], guard := none }) (v := .int .i64 x) rfl (by kernel_rfl) (by kernel_rfl) (by kernel_rfl) (fun _ _ _ h => h) (Or.inl ⟨by rfl, ?_⟩) hHeld ?_
              · intro u hu
                have x1 := hu.cell c1 (fun e => by have := World.block_lt_of_cell? W _ c1; simp only at e this; omega); go_simp
              try simp only [Act.put, List.setIfInBounds_toArray, List.set_cons_zero, List.set_cons_succ]
              refine wpAnyH_take (i := 15) (oi := { dst := some 79, op := Op.move (Operand.tmp 3), type := 23, pos := _, after := #[], guard := none }) (v := .slice (some ⟨gb, 0, none⟩) out.length cap) rfl (by kernel_rfl) (by kernel_rfl) (by kernel_rfl) (fun _ _ _ h => h) (Or.inl ⟨by rfl, ?_⟩) hHeld ?_
              · intro u hu
                go_simp
              try simp only [Act.put, List.setIfInBounds_toArray, List.set_cons_zero, List.set_cons_succ]
              refine wpAnyH_take (i := 16) (oi := { dst := some 80, op := Op.move (Operand.tmp 5), type := 3, pos := _, after := #[], guard := none }) (v := .int .i64 (j : Int)) rfl (by kernel_rfl) (by kernel_rfl) (by kernel_rfl) (fun _ _ _ h => h) (Or.inl ⟨by rfl, ?_⟩) hHeld ?_
              · intro u hu
                go_simp
              try simp only [Act.put, List.setIfInBounds_toArray, List.set_cons_zero, List.set_cons_succ]
              refine wpAnyH_take (i := 17) (oi := { dst := some 81, op := Op.slice 23 (Operand.tmp 79) (some (Operand.tmp 80)) none none, type := 23, pos := _, after := #[{ on := 15, ground := Ground.data }, { on := 16, ground := Ground.data }], guard := none }) (v := .slice (some ⟨gb, oj, none⟩) (out.length - j) (cap - j)) rfl (by kernel_rfl) (by kernel_rfl) (by kernel_rfl) (fun _ _ _ h => h) (Or.inl ⟨by rfl, ?_⟩) hHeld ?_
              · intro u hu
                go_simp; rw [hoj.out]; split <;> simp_all
              try simp only [Act.put, List.setIfInBounds_toArray, List.set_cons_zero, List.set_cons_succ]
              refine wpAnyH_ready (rs := [0, 13]) (by kernel_rfl) (by simp) ?_
              refine (AllReadyH.cons (o := { dst := some 64, op := Op.buildSlice 23 0 #[], type := 23, pos := _, after := #[], guard := none }) rfl (fun K hK => ?_) (AllReadyH.cons (o := { dst := some 77, op := Op.buildSlice 23 1 #[(0, Operand.tmp 76)], type := 23, pos := _, after := #[{ on := 12, ground := Ground.data }], guard := none }) rfl (fun K hK => ?_) AllReadyH.nil))
              · skip
                have zH1 := hHeld.size
                refine step_bs0I rfl (by rfl) ?_
                intro g0 w0 e0 o0 b0
                have W0 : W.heap.size ≤ g0 := Nat.le_trans zH1 e0
                have l0 : g0 < w0.heap.size := o0.lt rfl
                refine hK.out _ _ (hHeld.next (Stp.of_below b0 (fun _ => False)) (fun x e => e.elim)) (fun hHeld => ?_)
                clear hK K
                have zz0 := b0.size
                try (replace q13 := q13.later b0)
                try simp only [Act.put, List.setIfInBounds_toArray, List.set_cons_zero, List.set_cons_succ]
                refine wpAnyH_ready (rs := [4, 13]) (by kernel_rfl) (by simp) ?_
                refine (AllReadyH.cons (o := { dst := some 68, op := Op.call { callee := Callee.builtin Builtin.append, args := #[Operand.tmp 64, Operand.tmp 67], argTypes := #[23, 23] }, type := 23, pos := _, after := #[{ on := 0, ground := Ground.data }, { on := 3, ground := Ground.data }], guard := none }) rfl (fun K hK => ?_) (AllReadyH.cons (o := { dst := some 77, op := Op.buildSlice 23 1 #[(0, Operand.tmp 76)], type := 23, pos := _, after := #[{ on := 12, ground := Ground.data }], guard := none }) rfl (fun K hK => ?_) AllReadyH.nil))
                · skip
                  refine step_appR elI W.heap.size rfl _ _ (by rfl) (by rfl) o0 (fun r e => (ob_eq e) ▸ W0) (some ⟨gb, 0, none⟩) cap ((out.take j).map (Value.int .i64)) (by rfl) (by simp; omega) (fun e => by cases e) (TK _ hHeld) (oneI _) (by simp only [List.length_nil]; omega) hHeld.size ?_
                  intro v4 w4 hA4
                  have o4 : OwV w4 v4 ([] ++ out.take j) := ov_12 hA4 (by simp; omega)
                  rw [List.nil_append] at o4
                  have n4 := hA4.2.1
                  have s4 := hA4.2.2.2.1
                  refine hK.out _ _ (hHeld.next s4 (fun x e => .inl ((ob_eq e) ▸ W0))) (fun hHeld => ?_)
                  clear hK K
                  have zz4 := s4.size
                  try (replace q13 := q13.step s4 (fun e => by have := ob_eq e; omega))
                  try simp only [Act.put, List.setIfInBounds_toArray, List.set_cons_zero, List.set_cons_succ]
                  refine wpAnyH_ready (rs := [13]) (by kernel_rfl) (by simp) ?_
                  refine (AllReadyH.cons (o := { dst := some 77, op := Op.buildSlice 23 1 #[(0, Operand.tmp 76)], type := 23, pos := _, after := #[{ on := 12, ground := Ground.data }], guard := none }) rfl (fun K hK => ?_) AllReadyH.nil)
                  refine step_bs1I rfl _ (by rfl) x (by rfl) ?_
                  intro g13 w13 e13 q13 b13
                  have l13 := q13.lt
                  refine hK.out _ _ (hHeld.next (Stp.of_below b13 (fun _ => False)) (fun x e => e.elim)) (fun hHeld => ?_)
                  clear hK K
                  have zz13 := b13.size
                  try (replace o0 := o0.later b13)
                  try (replace o4 := o4.later b13)
                  try simp only [Act.put, List.setIfInBounds_toArray, List.set_cons_zero, List.set_cons_succ]
                  refine wpAnyH_ready (rs := [14]) (by kernel_rfl) (by simp) ?_
                  refine (AllReadyH.cons (o := { dst := some 78, op := Op.call { callee := Callee.builtin Builtin.append, args := #[Operand.tmp 68, Operand.tmp 77], argTypes := #[23, 23] }, type := 23, pos := _, after := #[{ on := 4, ground := Ground.data }, { on := 13, ground := Ground.data }, { on := 4, ground := Ground.chain }], guard := none }) rfl (fun K hK => ?_) AllReadyH.nil)
                  refine step_appR elI W.heap.size rfl _ _ (by rfl) (by rfl) o4 n4 (some ⟨g13, 0, none⟩) 1 (([x] : List Int).map (Value.int .i64)) (by rfl) (by rfl) (fun e => by cases e) (fun ad e j u hu => by injection e with e; subst e; rw [Addr.add_lit, Nat.zero_add]; exact q13.cell j u hu) (oneI _) (by simp; omega) hHeld.size ?_
                  intro v14 w14 hA14
                  have o14 : OwV w14 v14 (out.take j ++ [x]) := ov_12 hA14 rfl
                  have n14 := hA14.2.1
                  have s14 := hA14.2.2.2.1
                  refine hK.out _ _ (hHeld.next s14 (fun x e => .inl (n4 x e))) (fun hHeld => ?_)
                  clear hK K
                  try simp only [Act.put, List.setIfInBounds_toArray, List.set_cons_zero, List.set_cons_succ]
                  refine wpAnyH_ready (rs := [18]) (by kernel_rfl) (by simp) ?_
                  refine (AllReadyH.cons (o := { dst := some 82, op := Op.call { callee := Callee.builtin Builtin.append, args := #[Operand.tmp 78, Operand.tmp 81], argTypes := #[23, 23] }, type := 23, pos := _, after := #[{ on := 14, ground := Ground.data }, { on := 17, ground := Ground.data }, { on := 14, ground := Ground.chain }], guard := none }) rfl (fun K hK => ?_) AllReadyH.nil)
                  refine step_appR elI W.heap.size rfl _ _ (by rfl) (by rfl) o14 n14 (some ⟨gb, oj, none⟩) (cap - j) ((out.drop j).map (Value.int .i64)) (by rfl) (by simp) (fun e => by cases e) (DR _ hHeld) (oneI _) (by simp; omega) hHeld.size ?_
                  intro v18 w18 hA18
                  have o18 : OwV w18 v18 (out.take j ++ [x] ++ out.drop j) := ov_12 hA18 (by simp)
                  have n18 := hA18.2.1
                  have s18 := hA18.2.2.2.1
                  refine hK.out _ _ (hHeld.next s18 (fun x e => .inl (n14 x e))) (fun hHeld => ?_)
                  clear hK K
                  try simp only [Act.put, List.setIfInBounds_toArray, List.set_cons_zero, List.set_cons_succ]
                  refine wpAnyH_take (i := 19) (oi := { dst := some 3, op := Op.assign (Operand.tmp 82), type := 23, pos := _, after := #[{ on := 18, ground := Ground.data }, { on := 18, ground := Ground.chain }, { on := 0, ground := Ground.phase }, { on := 1, ground := Ground.phase }, { on := 2, ground := Ground.phase }, { on := 3, ground := Ground.phase }, { on := 4, ground := Ground.phase }, { on := 5, ground := Ground.phase }, { on := 6, ground := Ground.phase }, { on := 7, ground := Ground.phase }, { on := 8, ground := Ground.phase }, { on := 9, ground := Ground.phase }, { on := 10, ground := Ground.phase }, { on := 11, ground := Ground.phase }, { on := 12, ground := Ground.phase }, { on := 13, ground := Ground.phase }, { on := 14, ground := Ground.phase }, { on := 15, ground := Ground.phase }, { on := 16, ground := Ground.phase }, { on := 17, ground := Ground.phase }, { on := 18, ground := Ground.phase }], guard := none }) (v := v18) rfl (by kernel_rfl) (by kernel_rfl) (by kernel_rfl) (fun _ _ _ h => h) (Or.inl ⟨by rfl, ?_⟩) hHeld ?_
                  · intro u hu
                    go_simp
                  try simp only [Act.put, List.setIfInBounds_toArray, List.set_cons_zero, List.set_cons_succ]
                  refine wpAnyH_done (by kernel_rfl) ?_ _
                  obtain ⟨gb2, cap2, rfl, I2⟩ := FIN _ _ hHeld o18 n18
                  rw [← hN'.out] at I2
                  rw [← hN'.out]
                  go_wp2_with fail
                  go_roundw
                  case rel => exact ⟨i + 1, gb2, cap2, _, by omega, rfl, rfl, by go_num, I2⟩
                  case measure => simp [intOf]; omega
                · skip
                  refine step_bs1I rfl _ (by rfl) x (by rfl) ?_
                  intro g13 w13 e13 q13 b13
                  have l13 := q13.lt
                  refine hK.out _ _ (hHeld.next (Stp.of_below b13 (fun _ => False)) (fun x e => e.elim)) (fun hHeld => ?_)
                  clear hK K
                  have zz13 := b13.size
                  try (replace o0 := o0.later b13)
                  try (replace o4 := o4.later b13)
                  try simp only [Act.put, List.setIfInBounds_toArray, List.set_cons_zero, List.set_cons_succ]
                  refine wpAnyH_ready (rs := [4]) (by kernel_rfl) (by simp) ?_
                  refine (AllReadyH.cons (o := { dst := some 68, op := Op.call { callee := Callee.builtin Builtin.append, args := #[Operand.tmp 64, Operand.tmp 67], argTypes := #[23, 23] }, type := 23, pos := _, after := #[{ on := 0, ground := Ground.data }, { on := 3, ground := Ground.data }], guard := none }) rfl (fun K hK => ?_) AllReadyH.nil)
                  refine step_appR elI W.heap.size rfl _ _ (by rfl) (by rfl) o0 (fun r e => (ob_eq e) ▸ W0) (some ⟨gb, 0, none⟩) cap ((out.take j).map (Value.int .i64)) (by rfl) (by simp; omega) (fun e => by cases e) (TK _ hHeld) (oneI _) (by simp only [List.length_nil]; omega) hHeld.size ?_
                  intro v4 w4 hA4
                  have o4 : OwV w4 v4 ([] ++ out.take j) := ov_12 hA4 (by simp; omega)
                  rw [List.nil_append] at o4
                  have n4 := hA4.2.1
                  have s4 := hA4.2.2.2.1
                  refine hK.out _ _ (hHeld.next s4 (fun x e => .inl ((ob_eq e) ▸ W0))) (fun hHeld => ?_)
                  clear hK K
                  have zz4 := s4.size
                  try (replace q13 := q13.step s4 (fun e => by have := ob_eq e; omega))
                  try simp only [Act.put, List.setIfInBounds_toArray, List.set_cons_zero, List.set_cons_succ]
                  refine wpAnyH_ready (rs := [14]) (by kernel_rfl) (by simp) ?_
                  refine (AllReadyH.cons (o := { dst := some 78, op := Op.call { callee := Callee.builtin Builtin.append, args := #[Operand.tmp 68, Operand.tmp 77], argTypes := #[23, 23] }, type := 23, pos := _, after := #[{ on := 4, ground := Ground.data }, { on := 13, ground := Ground.data }, { on := 4, ground := Ground.chain }], guard := none }) rfl (fun K hK => ?_) AllReadyH.nil)
                  refine step_appR elI W.heap.size rfl _ _ (by rfl) (by rfl) o4 n4 (some ⟨g13, 0, none⟩) 1 (([x] : List Int).map (Value.int .i64)) (by rfl) (by rfl) (fun e => by cases e) (fun ad e j u hu => by injection e with e; subst e; rw [Addr.add_lit, Nat.zero_add]; exact q13.cell j u hu) (oneI _) (by simp; omega) hHeld.size ?_
                  intro v14 w14 hA14
                  have o14 : OwV w14 v14 (out.take j ++ [x]) := ov_12 hA14 rfl
                  have n14 := hA14.2.1
                  have s14 := hA14.2.2.2.1
                  refine hK.out _ _ (hHeld.next s14 (fun x e => .inl (n4 x e))) (fun hHeld => ?_)
                  clear hK K
                  try simp only [Act.put, List.setIfInBounds_toArray, List.set_cons_zero, List.set_cons_succ]
                  refine wpAnyH_ready (rs := [18]) (by kernel_rfl) (by simp) ?_
                  refine (AllReadyH.cons (o := { dst := some 82, op := Op.call { callee := Callee.builtin Builtin.append, args := #[Operand.tmp 78, Operand.tmp 81], argTypes := #[23, 23] }, type := 23, pos := _, after := #[{ on := 14, ground := Ground.data }, { on := 17, ground := Ground.data }, { on := 14, ground := Ground.chain }], guard := none }) rfl (fun K hK => ?_) AllReadyH.nil)
                  refine step_appR elI W.heap.size rfl _ _ (by rfl) (by rfl) o14 n14 (some ⟨gb, oj, none⟩) (cap - j) ((out.drop j).map (Value.int .i64)) (by rfl) (by simp) (fun e => by cases e) (DR _ hHeld) (oneI _) (by simp; omega) hHeld.size ?_
                  intro v18 w18 hA18
                  have o18 : OwV w18 v18 (out.take j ++ [x] ++ out.drop j) := ov_12 hA18 (by simp)
                  have n18 := hA18.2.1
                  have s18 := hA18.2.2.2.1
                  refine hK.out _ _ (hHeld.next s18 (fun x e => .inl (n14 x e))) (fun hHeld => ?_)
                  clear hK K
                  try simp only [Act.put, List.setIfInBounds_toArray, List.set_cons_zero, List.set_cons_succ]
                  refine wpAnyH_take (i := 19) (oi := { dst := some 3, op := Op.assign (Operand.tmp 82), type := 23, pos := _, after := #[{ on := 18, ground := Ground.data }, { on := 18, ground := Ground.chain }, { on := 0, ground := Ground.phase }, { on := 1, ground := Ground.phase }, { on := 2, ground := Ground.phase }, { on := 3, ground := Ground.phase }, { on := 4, ground := Ground.phase }, { on := 5, ground := Ground.phase }, { on := 6, ground := Ground.phase }, { on := 7, ground := Ground.phase }, { on := 8, ground := Ground.phase }, { on := 9, ground := Ground.phase }, { on := 10, ground := Ground.phase }, { on := 11, ground := Ground.phase }, { on := 12, ground := Ground.phase }, { on := 13, ground := Ground.phase }, { on := 14, ground := Ground.phase }, { on := 15, ground := Ground.phase }, { on := 16, ground := Ground.phase }, { on := 17, ground := Ground.phase }, { on := 18, ground := Ground.phase }], guard := none }) (v := v18) rfl (by kernel_rfl) (by kernel_rfl) (by kernel_rfl) (fun _ _ _ h => h) (Or.inl ⟨by rfl, ?_⟩) hHeld ?_
                  · intro u hu
                    go_simp
                  try simp only [Act.put, List.setIfInBounds_toArray, List.set_cons_zero, List.set_cons_succ]
                  refine wpAnyH_done (by kernel_rfl) ?_ _
                  obtain ⟨gb2, cap2, rfl, I2⟩ := FIN _ _ hHeld o18 n18
                  rw [← hN'.out] at I2
                  rw [← hN'.out]
                  go_wp2_with fail
                  go_roundw
                  case rel => exact ⟨i + 1, gb2, cap2, _, by omega, rfl, rfl, by go_num, I2⟩
                  case measure => simp [intOf]; omega
              · skip
                refine step_bs1I rfl _ (by rfl) x (by rfl) ?_
                intro g13 w13 e13 q13 b13
                have l13 := q13.lt
                refine hK.out _ _ (hHeld.next (Stp.of_below b13 (fun _ => False)) (fun x e => e.elim)) (fun hHeld => ?_)
                clear hK K
                have zz13 := b13.size
                try (replace o0 := o0.later b13)
                try (replace o4 := o4.later b13)
                try simp only [Act.put, List.setIfInBounds_toArray, List.set_cons_zero, List.set_cons_succ]
                refine wpAnyH_ready (rs := [0]) (by kernel_rfl) (by simp) ?_
                refine (AllReadyH.cons (o := { dst := some 64, op := Op.buildSlice 23 0 #[], type := 23, pos := _, after := #[], guard := none }) rfl (fun K hK => ?_) AllReadyH.nil)
                have zH1 := hHeld.size
                refine step_bs0I rfl (by rfl) ?_
                intro g0 w0 e0 o0 b0
                have W0 : W.heap.size ≤ g0 := Nat.le_trans zH1 e0
                have l0 : g0 < w0.heap.size := o0.lt rfl
                refine hK.out _ _ (hHeld.next (Stp.of_below b0 (fun _ => False)) (fun x e => e.elim)) (fun hHeld => ?_)
                clear hK K
                have zz0 := b0.size
                try (replace q13 := q13.later b0)
                try simp only [Act.put, List.setIfInBounds_toArray, List.set_cons_zero, List.set_cons_succ]
                refine wpAnyH_ready (rs := [4]) (by kernel_rfl) (by simp) ?_
                refine (AllReadyH.cons (o := { dst := some 68, op := Op.call { callee := Callee.builtin Builtin.append, args := #[Operand.tmp 64, Operand.tmp 67], argTypes := #[23, 23] }, type := 23, pos := _, after := #[{ on := 0, ground := Ground.data }, { on := 3, ground := Ground.data }], guard := none }) rfl (fun K hK => ?_) AllReadyH.nil)
                refine step_appR elI W.heap.size rfl _ _ (by rfl) (by rfl) o0 (fun r e => (ob_eq e) ▸ W0) (some ⟨gb, 0, none⟩) cap ((out.take j).map (Value.int .i64)) (by rfl) (by simp; omega) (fun e => by cases e) (TK _ hHeld) (oneI _) (by simp only [List.length_nil]; omega) hHeld.size ?_
                intro v4 w4 hA4
                have o4 : OwV w4 v4 ([] ++ out.take j) := ov_12 hA4 (by simp; omega)
                rw [List.nil_append] at o4
                have n4 := hA4.2.1
                have s4 := hA4.2.2.2.1
                refine hK.out _ _ (hHeld.next s4 (fun x e => .inl ((ob_eq e) ▸ W0))) (fun hHeld => ?_)
                clear hK K
                have zz4 := s4.size
                try (replace q13 := q13.step s4 (fun e => by have := ob_eq e; omega))
                try simp only [Act.put, List.setIfInBounds_toArray, List.set_cons_zero, List.set_cons_succ]
                refine wpAnyH_ready (rs := [14]) (by kernel_rfl) (by simp) ?_
                refine (AllReadyH.cons (o := { dst := some 78, op := Op.call { callee := Callee.builtin Builtin.append, args := #[Operand.tmp 68, Operand.tmp 77], argTypes := #[23, 23] }, type := 23, pos := _, after := #[{ on := 4, ground := Ground.data }, { on := 13, ground := Ground.data }, { on := 4, ground := Ground.chain }], guard := none }) rfl (fun K hK => ?_) AllReadyH.nil)
                refine step_appR elI W.heap.size rfl _ _ (by rfl) (by rfl) o4 n4 (some ⟨g13, 0, none⟩) 1 (([x] : List Int).map (Value.int .i64)) (by rfl) (by rfl) (fun e => by cases e) (fun ad e j u hu => by injection e with e; subst e; rw [Addr.add_lit, Nat.zero_add]; exact q13.cell j u hu) (oneI _) (by simp; omega) hHeld.size ?_
                intro v14 w14 hA14
                have o14 : OwV w14 v14 (out.take j ++ [x]) := ov_12 hA14 rfl
                have n14 := hA14.2.1
                have s14 := hA14.2.2.2.1
                refine hK.out _ _ (hHeld.next s14 (fun x e => .inl (n4 x e))) (fun hHeld => ?_)
                clear hK K
                try simp only [Act.put, List.setIfInBounds_toArray, List.set_cons_zero, List.set_cons_succ]
                refine wpAnyH_ready (rs := [18]) (by kernel_rfl) (by simp) ?_
                refine (AllReadyH.cons (o := { dst := some 82, op := Op.call { callee := Callee.builtin Builtin.append, args := #[Operand.tmp 78, Operand.tmp 81], argTypes := #[23, 23] }, type := 23, pos := _, after := #[{ on := 14, ground := Ground.data }, { on := 17, ground := Ground.data }, { on := 14, ground := Ground.chain }], guard := none }) rfl (fun K hK => ?_) AllReadyH.nil)
                refine step_appR elI W.heap.size rfl _ _ (by rfl) (by rfl) o14 n14 (some ⟨gb, oj, none⟩) (cap - j) ((out.drop j).map (Value.int .i64)) (by rfl) (by simp) (fun e => by cases e) (DR _ hHeld) (oneI _) (by simp; omega) hHeld.size ?_
                intro v18 w18 hA18
                have o18 : OwV w18 v18 (out.take j ++ [x] ++ out.drop j) := ov_12 hA18 (by simp)
                have n18 := hA18.2.1
                have s18 := hA18.2.2.2.1
                refine hK.out _ _ (hHeld.next s18 (fun x e => .inl (n14 x e))) (fun hHeld => ?_)
                clear hK K
                try simp only [Act.put, List.setIfInBounds_toArray, List.set_cons_zero, List.set_cons_succ]
                refine wpAnyH_take (i := 19) (oi := { dst := some 3, op := Op.assign (Operand.tmp 82), type := 23, pos := _, after := #[{ on := 18, ground := Ground.data }, { on := 18, ground := Ground.chain }, { on := 0, ground := Ground.phase }, { on := 1, ground := Ground.phase }, { on := 2, ground := Ground.phase }, { on := 3, ground := Ground.phase }, { on := 4, ground := Ground.phase }, { on := 5, ground := Ground.phase }, { on := 6, ground := Ground.phase }, { on := 7, ground := Ground.phase }, { on := 8, ground := Ground.phase }, { on := 9, ground := Ground.phase }, { on := 10, ground := Ground.phase }, { on := 11, ground := Ground.phase }, { on := 12, ground := Ground.phase }, { on := 13, ground := Ground.phase }, { on := 14, ground := Ground.phase }, { on := 15, ground := Ground.phase }, { on := 16, ground := Ground.phase }, { on := 17, ground := Ground.phase }, { on := 18, ground := Ground.phase }], guard := none }) (v := v18) rfl (by kernel_rfl) (by kernel_rfl) (by kernel_rfl) (fun _ _ _ h => h) (Or.inl ⟨by rfl, ?_⟩) hHeld ?_
                · intro u hu
                  go_simp
                try simp only [Act.put, List.setIfInBounds_toArray, List.set_cons_zero, List.set_cons_succ]
                refine wpAnyH_done (by kernel_rfl) ?_ _
                obtain ⟨gb2, cap2, rfl, I2⟩ := FIN _ _ hHeld o18 n18
                rw [← hN'.out] at I2
                rw [← hN'.out]
                go_wp2_with fail
                go_roundw
                case rel => exact ⟨i + 1, gb2, cap2, _, by omega, rfl, rfl, by go_num, I2⟩
                case measure => simp [intOf]; omega
    · have a9 : ¬ (i : Int) < (L.length : Int) := by omega
      have e1 : Hid (out = secs Z.l) := (by rw [hout'.out]; unfold scK; rw [take_all (by rw [← hlen'.out]; omega)] : out = secs Z.l)
      go_wp2_with fail
      go_returns
      exact ⟨_, rfl, by rw [← e1.out]; exact I.ow, fun r hr => by have := ob_eq hr; have := I.nw; omega, I.b⟩
end Go.Proofs.YtdfifneikmlmoaaGreat
