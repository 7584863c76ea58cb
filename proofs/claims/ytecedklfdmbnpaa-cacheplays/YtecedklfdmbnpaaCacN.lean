/-
  Acts of layer 13 that came in; an array of six blocks: no statement is proved here.
-/
import Derived.Test.YtecedklfdmbnpaaCacS
import Derived.Test.YtecedklfdmbnpaaCacW
import Derived.Test.YtecedklfdmbnpaaDskH
import Derived.Test.YtecedklfdmbnpaaBaseA
namespace Go.Proofs.Ytecedklfdmbnpaa
open Go.ChangeShapes Go.WideShapes Go.ChangeAt Go.RowKit
set_option linter.unusedVariables false
set_option linter.unusedSimpArgs false

/-- An act. -/
structure A3 where
  d : Int
  t : Int
  b : Blk
def A3.cs (x : A3) : List Value := .int .i64 x.d :: .int .i64 x.t :: x.b.cs
theorem A3.cs_len (x : A3) : x.cs.length = 66 := by unfold A3.cs; simp [x.b.cs_len]
theorem A3.cs_one (x : A3) : ∀ v ∈ x.cs, v.oneCell' = true := by
  intro v hv
  unfold A3.cs at hv
  rcases List.mem_cons.1 hv with rfl | hv
  · rfl
  · rcases List.mem_cons.1 hv with rfl | hv
    · rfl
    · exact x.b.cs_one v hv
structure A3.ok (x : A3) : Prop where
  d : (Lit.int .i64 x.d).wf = true
  t : (Lit.int .i64 x.t).wf = true
/-- A slice of acts. -/
structure A3s (w : World) (a : Option Addr) (n c : Nat) (l : List A3) : Prop where
  len : l.length = n
  le : n ≤ c
  cap : c ≤ maxLen
  cell : 0 < n → ∃ b o, a = some ⟨b, o, none⟩ ∧ ∀ i, i < n → ∃ x : A3, l[i]? = some x ∧ w.rangeAt b (o + i * 66) x.cs ∧ x.ok
theorem A3s.later {w w' : World} {a : Option Addr} {n c : Nat} {l : List A3} (h : A3s w a n c l) (hb : Below w.heap.size w w') : A3s w' a n c l :=
  ⟨h.len, h.le, h.cap, fun hn => by
    obtain ⟨b, o, e, hc⟩ := h.cell hn
    refine ⟨b, o, e, fun i hi => ?_⟩
    obtain ⟨x, e1, e2, e3⟩ := hc i hi
    exact ⟨x, e1, (Stp.of_below hb (fun _ => False)).range e2 id, e3⟩⟩
section
variable {H : Type} {enc : TypeId × Value → H} {w : World} {base : Nat} {spare : Nat → Bool} {held : Bool}
set_option maxRecDepth 100000 in
theorem a3_of_trod {fuel : Nat} {cs : List Value} {x : DataW H × List MemPlace} (h : DataW.trod enc Try.prog w base spare held fuel 44 cs = some x) : ∃ a : A3, a.cs = cs ∧ a.ok := by
  obtain ⟨fs, hfs, hf0, hf1, hf2⟩ : ∃ fs : Array Field, Try.prog.underlying 44 = some (.struct fs) ∧ (fs[0]?.map fun f => (f.offset, f.type)) = some (0, 3) ∧ (fs[1]?.map fun f => (f.offset, f.type)) = some (1, 3) ∧ (fs[2]?.map fun f => (f.offset, f.type)) = some (2, 42) :=
    ⟨_, Try.underlying44, rfl, rfl, rfl⟩
  have hsz : fs.size = 3 := by
    have e := Try.underlying44
    rw [hfs] at e; injection e with e; injection e with e; subst e; rfl
  obtain ⟨xs, m, _, _, hl, hx, hi⟩ := DataW.trod_struct hfs h
  have hl' : cs.length = 66 := hl.trans (by kernel_rfl)
  have ci : Try.prog.cellsOf 3 = 1 := by kernel_rfl
  have cb : Try.prog.cellsOf 42 = 64 := by kernel_rfl
  have get : ∀ i o t, (fs[i]?.map fun f => (f.offset, f.type)) = some (o, t) → i < 3 → ∃ y, DataW.trod enc Try.prog w base spare held m t ((cs.drop o).take (Try.prog.cellsOf t)) = some y := fun i o t e hi4 => by
    cases ef : fs[i]? with
    | none => rw [ef] at e; cases e
    | some f =>
      rw [ef] at e
      simp only [Option.map_some, Option.some.injEq, Prod.mk.injEq] at e
      have := hi i f ef
      rw [e.1, e.2, List.getElem?_eq_getElem (by omega)] at this
      exact ⟨_, this⟩
  obtain ⟨_, g0⟩ := get 0 0 _ hf0 (by omega)
  obtain ⟨_, g1⟩ := get 1 1 _ hf1 (by omega)
  obtain ⟨_, g2⟩ := get 2 2 _ hf2 (by omega)
  rw [ci] at g0 g1; rw [cb] at g2
  obtain ⟨d, e0, _, w0⟩ := DataW.trod_int u3 g0
  obtain ⟨t, e1, _, w1⟩ := DataW.trod_int u3 g1
  obtain ⟨b, e2⟩ := blk_of_trod g2
  refine ⟨⟨d, t, b⟩, ?_, w0, w1⟩
  unfold A3.cs
  simp only
  rcases cs with _ | ⟨v0, _ | ⟨v1, r⟩⟩
  · simp at hl'
  · simp at hl'
  · simp at e0 e1 e2 hl'
    rw [e0, e1, e2, List.take_of_length_le (by omega)]
theorem a3s_of_trod {fuel : Nat} {cs : List Value} {x : DataW H × List MemPlace} (h : DataW.trod enc Try.prog w base spare held fuel 22 cs = some x) : ∃ a n c l, cs = [.slice a n c] ∧ A3s w a n c l := by
  rcases Deep.open_slice (e := 44) (by kernel_rfl) h with ⟨hcs, _⟩ | ⟨a, len, cap, m, n, D, Pl, hcs, _, hl, hm, hmm, _, hx⟩
  · exact ⟨_, _, _, [], hcs, rfl, Nat.le_refl _, by decide, fun h => absurd h (by omega)⟩
  · have c66 : Try.prog.cellsOf 44 = 66 := by kernel_rfl
    have hlm : len ≤ m := by rw [hmm]; split <;> omega
    have each : ∀ i, i < len → ∃ y : A3, (∀ j v, y.cs[j]? = some v → w.cell? (a.add (i * 66 + j)) = some v) ∧ y.ok := fun i hi => by
      obtain ⟨cs', h1, h2⟩ := hx i (by omega)
      rw [c66] at h1
      obtain ⟨y, e1, e2⟩ := a3_of_trod h2
      obtain ⟨_, hlen, hcell⟩ := World.cells?_some h1
      refine ⟨y, fun j v hv => ?_, e2⟩
      have hj : j < 66 := by have := (List.getElem?_eq_some_iff.1 hv).1; rw [y.cs_len] at this; exact this
      have := hcell j hj
      rw [Deep.add_add, ← e1, hv] at this
      exact this
    refine ⟨_, _, _, (List.range len).map fun i => if hi : i < len then Classical.choose (each i hi) else ⟨0, 0, Blk.zero⟩, hcs, by simp, hl, hm, fun hn => ?_⟩
    obtain ⟨b, o, spot⟩ := a
    have hspot : spot = none := by
      obtain ⟨y, hy, _⟩ := each 0 hn
      have := hy 0 (.int .i64 y.d) rfl
      simpa [Addr.add] using World.cell?_spot this
    subst hspot
    refine ⟨b, o, rfl, fun i hi => ⟨_, by rw [List.getElem?_map, List.getElem?_range hi]; rfl, ?_⟩⟩
    simp only [dif_pos hi]
    have hs := Classical.choose_spec (each i hi)
    refine ⟨fun j v hv => ?_, hs.2⟩
    have := hs.1 j v hv
    rw [Addr.add_mid] at this
    rw [show o + i * 66 + j = o + (i * 66 + j) by omega]; exact this
end
/-- A variable of act's type, and an act that is loaded, and stored. -/
theorem uA3 : ∃ d, Try.prog.underlying 44 = some d ∧ d.isRow = true := ⟨_, Try.underlying44, rfl⟩
theorem szA3 : (Try.prog.info? 44).map (·.size) = some 66 := by kernel_rfl
theorem zeroA3 (w : World) : (zeroValue 44).run Try.prog w = .ok (.agg (A3.cs ⟨0, 0, Blk.zero⟩).toArray) w := (zero_of_info (v := .agg (A3.cs ⟨0, 0, Blk.zero⟩).toArray) (n := 66) (by kernel_rfl)).1 w
section
variable {ops : Array Oper} {rest : List Oper} {o : Oper} {a : Act} {w : World} {Q : Exit → Act → World → Prop}
theorem at_newA (hw : Region.wanted o (yielded ops a.tmps) = true) (ho : o.op = .alloc 44)
    (h : ∀ g w', w.heap.size ≤ g → g < w'.heap.size → Cs w' g (A3.cs ⟨0, 0, Blk.zero⟩) → Below w.heap.size w w' → wpList Try.prog ops Q rest (a.put o.dst (.pointer (some ⟨g, 0, none⟩))) w') : wpList Try.prog ops Q (o :: rest) a w := by
  refine wpList_val hw _ _ ?_ (h w.heap.size (w.alloc (.cells (A3.cs ⟨0, 0, Blk.zero⟩).toArray 44)) (Nat.le_refl _) (by simp) (Cs.made _ _ _ (A3.cs_one _)) ((Below.refl _ _).alloc (Nat.le_refl _) _))
  have : (Instr.alloc 44 true (.tuple #[])).run Try.prog w = .ok (.pointer (some ⟨w.heap.size, 0, none⟩)) (w.alloc (.cells (A3.cs ⟨0, 0, Blk.zero⟩).toArray 44)) := by
    unfold Instr.alloc; rw [Sem.run_bind, zeroA3]; rfl
  simp only [execOp, ho, Sem.run_bind, this]; rfl
theorem at_boxA (hw : Region.wanted o (yielded ops a.tmps) = true) (x : Operand) (ho : o.op = .box 44 x) (y : A3) (hx : a.eval x = .agg y.cs.toArray)
    (h : ∀ g w', w.heap.size ≤ g → g < w'.heap.size → Cs w' g y.cs → Below w.heap.size w w' → wpList Try.prog ops Q rest (a.put o.dst (.pointer (some ⟨g, 0, none⟩))) w') : wpList Try.prog ops Q (o :: rest) a w :=
  at_boxC _ hw x ho y.cs hx y.cs_one h
theorem at_getA (hw : Region.wanted o (yielded ops a.tmps) = true) (x : Operand) (ho : o.op = .load 44 x) (g off : Nat) (hx : a.eval x = .pointer (some ⟨g, off, none⟩)) (y : A3) (hR : w.rangeAt g off y.cs)
    (h : wpList Try.prog ops Q rest (a.put o.dst (.agg y.cs.toArray)) w) : wpList Try.prog ops Q (o :: rest) a w := by
  refine wpList_val hw _ _ ?_ h
  obtain ⟨d, h1, h2⟩ := uA3
  have : (loadVar 44 ⟨g, off, none⟩).run Try.prog w = .ok (.agg y.cs.toArray) w := run_loadVar_mid w g off _ y.cs _ hR h1 h2 (by rw [szA3, y.cs_len])
  simp [execOp, ho, hx, Instr.loadAt, Instr.sureAddr, this]
theorem at_putA (hw : Region.wanted o (yielded ops a.tmps) = true) (x y : Operand) (ho : o.op = .store 44 x y) (g : Nat) (hx : a.eval x = .pointer (some ⟨g, 0, none⟩)) (z : A3) (hy : a.eval y = .agg z.cs.toArray) (z0 : A3) (hR : Cs w g z0.cs)
    (h : ∀ w', Cs w' g z.cs → Stp (fun x => x = g) w w' → wpList Try.prog ops Q rest (a.put o.dst undef) w') : wpList Try.prog ops Q (o :: rest) a w := by
  have hc := hR.setCells 0 z.cs (by rw [z0.cs_len, z.cs_len]; omega) z.cs_one
  have e : z0.cs.take 0 ++ z.cs ++ z0.cs.drop (0 + z.cs.length) = z.cs := by
    rw [List.drop_eq_nil_of_le (by rw [z0.cs_len, z.cs_len]; omega)]; simp
  rw [e] at hc
  refine wpList_unit hw _ ?_ (h _ hc (Stp.of_setCells w g 0 z.cs (.inl rfl)))
  simp only [execOp, ho, hx, hy, Instr.storeAt, Instr.sureAddr, Sem.run_bind, Sem.run_pure, Result.andThen_ok]
  rw [run_storeVar_mid w g 0 _ z.cs.toArray (by have := hR.there; rw [z0.cs_len] at this; rw [List.size_toArray, z.cs_len]; exact this) (by rw [szA3, List.size_toArray, z.cs_len]) (all_oneCell_toArray z.cs_one)]
  simp
end
theorem A3.c0 {w : World} {g : Nat} {x : A3} (h : Cs w g x.cs) : w.cell? ⟨g, 0, none⟩ = some (.int .i64 x.d) := h.cell 0 _ rfl
theorem A3.c1 {w : World} {g : Nat} {x : A3} (h : Cs w g x.cs) : w.cell? ⟨g, 1, none⟩ = some (.int .i64 x.t) := h.cell 1 _ rfl
theorem A3.rng {w : World} {g : Nat} {x : A3} (h : Cs w g x.cs) : w.rangeAt g 2 x.b.cs := fun j v hv => h.cell (2 + j) v (by
  unfold A3.cs
  rw [show 2 + j = j + 1 + 1 by omega, List.getElem?_cons_succ, List.getElem?_cons_succ]; exact hv)
/-- An array of six blocks. -/
theorem flat_tk (L : List Blk) (k : Nat) : (flat L).take (k * 64) = flat (L.take k) := by
  induction L generalizing k with
  | nil => simp [flat]
  | cons a r ih =>
    cases k with
    | zero => simp [flat]
    | succ k =>
      unfold flat at *
      rw [List.flatMap_cons, List.take_succ_cons, List.flatMap_cons, List.take_append, a.cs_len, List.take_of_length_le (by rw [a.cs_len]; omega), show (k + 1) * 64 - 64 = k * 64 by omega, ih]
theorem flat_dp (L : List Blk) (k : Nat) : (flat L).drop (k * 64) = flat (L.drop k) := by
  induction L generalizing k with
  | nil => simp [flat]
  | cons a r ih =>
    cases k with
    | zero => simp [flat]
    | succ k =>
      unfold flat at *
      rw [List.flatMap_cons, List.drop_succ_cons, List.drop_append, a.cs_len, List.drop_eq_nil_of_le (by rw [a.cs_len]; omega), show (k + 1) * 64 - 64 = k * 64 by omega, ih]; rfl
theorem flat_st (L : List Blk) (k : Nat) (b : Blk) (hk : k < L.length) : (flat L).take (k * 64) ++ b.cs ++ (flat L).drop (k * 64 + b.cs.length) = flat (L.set k b) := by
  rw [b.cs_len, show k * 64 + 64 = (k + 1) * 64 by omega, flat_tk, flat_dp]
  have : L.set k b = L.take k ++ b :: L.drop (k + 1) := List.set_eq_take_append_cons_drop.trans (if_pos hk)
  rw [this]
  unfold flat
  simp
theorem L6.range {w : World} {g : Nat} {L : List Blk} (h : Cs w g (flat L)) (k : Nat) (hk : k < L.length) : w.rangeAt g (k * 64) (L.getD k Blk.zero).cs := fun j v hv => by
  have hj : j < 64 := by have := (List.getElem?_eq_some_iff.1 hv).1; rw [Blk.cs_len] at this; exact this
  exact h.cell (k * 64 + j) v (by rw [flat_get L k j hk hj]; exact hv)
theorem L6.set {w : World} {g : Nat} {L : List Blk} (h : Cs w g (flat L)) (k : Nat) (hk : k < L.length) (b : Blk) : Cs (w.setCells g (k * 64) b.cs) g (flat (L.set k b)) := by
  have := h.setCells (k * 64) b.cs (by rw [flat_len, b.cs_len]; omega) b.cs_one
  rwa [flat_st L k b hk] at this
theorem at_putK {ops : Array Oper} {rest : List Oper} {o : Oper} {a : Act} {w : World} {Q : Exit → Act → World → Prop} (hw : Region.wanted o (yielded ops a.tmps) = true) (x y : Operand) (ho : o.op = .store 42 x y) (g k : Nat) (hx : a.eval x = .pointer (some ⟨g, k * 64, none⟩)) (b : Blk) (hy : a.eval y = .agg b.cs.toArray) (L : List Blk) (hR : Cs w g (flat L)) (hk : k < L.length)
    (h : ∀ w', Cs w' g (flat (L.set k b)) → Stp (fun x => x = g) w w' → wpList Try.prog ops Q rest (a.put o.dst undef) w') : wpList Try.prog ops Q (o :: rest) a w := by
  refine at_store hw x y ho g (k * 64) hx b hy (fun j hj => ?_) (h _ (L6.set hR k hk b) (Stp.of_setCells w g (k * 64) b.cs (.inl rfl)))
  have := hR.there (k * 64 + j) (by rw [flat_len]; omega)
  simpa using this
def six : List Blk := List.replicate 6 Blk.zero
theorem u60 : ∃ d, Try.prog.underlying 60 = some d ∧ d.isRow = true := ⟨_, Try.underlying60, rfl⟩
theorem sz60 : (Try.prog.info? 60).map (·.size) = some 384 := by kernel_rfl
set_option maxRecDepth 100000 in
theorem zero60 (w : World) : (zeroValue 60).run Try.prog w = .ok (.agg (flat six).toArray) w := (zero_of_info (v := .agg (flat six).toArray) (n := 384) (by kernel_rfl)).1 w
set_option maxRecDepth 100000 in
theorem build60 (w : World) : (Instr.build 60 #[]).run Try.prog w = .ok (.agg (flat six).toArray) w := by kernel_rfl
section
variable {ops : Array Oper} {rest : List Oper} {o : Oper} {a : Act} {w : World} {Q : Exit → Act → World → Prop}
theorem at_bld60 (hw : Region.wanted o (yielded ops a.tmps) = true) (ho : o.op = .build 60 #[]) (h : wpList Try.prog ops Q rest (a.put o.dst (.agg (flat six).toArray)) w) : wpList Try.prog ops Q (o :: rest) a w := by
  refine wpList_val hw _ _ ?_ h
  simp only [execOp, ho, Sem.run_bind, List.map_toArray, List.map_nil, build60]; rfl
theorem at_new60 (hw : Region.wanted o (yielded ops a.tmps) = true) (ho : o.op = .alloc 60)
    (h : ∀ g w', w.heap.size ≤ g → g < w'.heap.size → Cs w' g (flat six) → Below w.heap.size w w' → wpList Try.prog ops Q rest (a.put o.dst (.pointer (some ⟨g, 0, none⟩))) w') : wpList Try.prog ops Q (o :: rest) a w := by
  refine wpList_val hw _ _ ?_ (h w.heap.size (w.alloc (.cells (flat six).toArray 60)) (Nat.le_refl _) (by simp) (Cs.made _ _ _ (flat_one six)) ((Below.refl _ _).alloc (Nat.le_refl _) _))
  have : (Instr.alloc 60 true (.tuple #[])).run Try.prog w = .ok (.pointer (some ⟨w.heap.size, 0, none⟩)) (w.alloc (.cells (flat six).toArray 60)) := by
    unfold Instr.alloc; rw [Sem.run_bind, zero60]; rfl
  simp only [execOp, ho, Sem.run_bind, this]; rfl
theorem at_put60 (hw : Region.wanted o (yielded ops a.tmps) = true) (x y : Operand) (ho : o.op = .store 60 x y) (g : Nat) (hx : a.eval x = .pointer (some ⟨g, 0, none⟩)) (hy : a.eval y = .agg (flat six).toArray) (hR : Cs w g (flat six))
    (h : ∀ w', Cs w' g (flat six) → Stp (fun x => x = g) w w' → wpList Try.prog ops Q rest (a.put o.dst undef) w') : wpList Try.prog ops Q (o :: rest) a w := by
  have hl : (flat six).length = 384 := by rw [flat_len]; rfl
  have hc := hR.setCells 0 (flat six) (by omega) (flat_one six)
  have e : (flat six).take 0 ++ flat six ++ (flat six).drop (0 + (flat six).length) = flat six := by simp
  rw [e] at hc
  refine wpList_unit hw _ ?_ (h _ hc (Stp.of_setCells w g 0 (flat six) (.inl rfl)))
  simp only [execOp, ho, hx, hy, Instr.storeAt, Instr.sureAddr, Sem.run_bind, Sem.run_pure, Result.andThen_ok]
  rw [run_storeVar_mid w g 0 _ (flat six).toArray (by rw [List.size_toArray]; exact hR.there) (by rw [sz60, List.size_toArray, hl]) (all_oneCell_toArray (flat_one six))]
  simp
end
end Go.Proofs.Ytecedklfdmbnpaa
