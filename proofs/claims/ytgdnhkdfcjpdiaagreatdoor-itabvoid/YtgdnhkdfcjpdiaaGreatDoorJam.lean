/-
  Texts of my own, joined: no statement is proved here.
-/
import Derived.Test.YtgdnhkdfcjpdiaaGreatDoorRows
import Derived.Deep.RegionHeld3
import Derived.Laws.ResultCell
import Derived.Test.YtgdnhkdfcjpdiaaGreatDoorJad
import Derived.Test.YtgdnhkdfcjpdiaaGreatDoorJal
set_option linter.unusedSimpArgs false
set_option linter.unusedVariables false
namespace Go.Proofs.YtgdnhkdfcjpdiaaGreatDoor
open Go.ChangeShapes Go.WideShapes Go.ChangeAt Go.RowKit
theorem info36 : (Tryz.prog.info? 88).map (fun i => (i.zero, i.size, i.bytes)) = some (some (.agg Blk.zero.cs.toArray), 64, 64) := by kernel_rfl
theorem size36 (b : Blk) : (Tryz.prog.info? 88).map (·.size) = some b.cs.length := by
  rw [b.cs_len]; kernel_rfl
theorem size36' (b : Blk) : (Tryz.prog.info? 88).map (·.size) = some b.cs.toArray.size := by
  rw [List.size_toArray, b.cs_len]; kernel_rfl
theorem zero36 (w : World) : (zeroValue 88).run Tryz.prog w = .ok (.agg Blk.zero.cs.toArray) w := (zero_of_info (v := .agg Blk.zero.cs.toArray) (n := 64) (by kernel_rfl)).1 w
theorem u36 : Tryz.prog.underlying 88 = some (.array 64 5) := by kernel_rfl
theorem u63 : Tryz.prog.underlying 118 = some (.map 3 88) := by kernel_rfl
theorem u64 : Tryz.prog.underlying 119 = some (.map 3 40) := by kernel_rfl
theorem u41 : Tryz.prog.underlying 40 = some (.slice 88) := by kernel_rfl
theorem zero41 (w : World) : (zeroValue 40).run Tryz.prog w = .ok (.slice none 0 0) w := (zero_of_info (v := .slice none 0 0) (n := 1) (by kernel_rfl)).1 w
theorem guard36 : Tryz.prog.eqGuardType Tryz.prog.depth 88 = false := by kernel_rfl
set_option maxRecDepth 20000 in
theorem eq36 (a b : Blk) (w : World) : (Op.equalIn 10000 88 (.agg a.cs.toArray) (.agg b.cs.toArray)).run Tryz.prog w = .ok (decide (a = b)) w := by
  rw [← Blk.beq]
  exact run_equalIn_bytes w 9998 _ 5 64 u36 (by kernel_rfl) (fun w => rfl) a.l b.l a.len b.len
theorem load36 {w : World} {b o : Nat} {c : Blk} (h : w.rangeAt b o c.cs) : (loadVar 88 ⟨b, o, none⟩).run Tryz.prog w = .ok (.agg c.cs.toArray) w :=
  run_loadVar_mid w b o _ c.cs _ h u36 rfl (size36 c)
theorem build36 (w : World) : (Instr.build 88 #[]).run Tryz.prog w = .ok (.agg Blk.zero.cs.toArray) w := by
  kernel_rfl
section
variable {ops : Array Oper} {rest : List Oper} {o : Oper} {a : Act} {w : World} {Q : Exit → Act → World → Prop}
theorem wpList_val (hw : Region.wanted o (yielded ops a.tmps) = true) (v : Value) (w' : World) (hr : (execOp a.eval o).run Tryz.prog w = .ok (.value v) w') (h : wpList Tryz.prog ops Q rest (a.put o.dst v) w') : wpList Tryz.prog ops Q (o :: rest) a w := by
  refine wpList_step fun K hK => ?_
  rw [if_pos hw]; unfold Oper.wp; rw [hr]; exact hK _ _ h
theorem wpList_unit (hw : Region.wanted o (yielded ops a.tmps) = true) (w' : World) (hr : (execOp a.eval o).run Tryz.prog w = .ok .skip w') (h : wpList Tryz.prog ops Q rest (a.put o.dst undef) w') : wpList Tryz.prog ops Q (o :: rest) a w := by
  refine wpList_step fun K hK => ?_
  rw [if_pos hw]; unfold Oper.wp; rw [hr]; exact hK _ _ h
theorem at_alloc (hw : Region.wanted o (yielded ops a.tmps) = true) (ho : o.op = .alloc 88) (h : wpList Tryz.prog ops Q rest (a.put o.dst (.pointer (some ⟨w.heap.size, 0, none⟩))) (w.alloc (.cells Blk.zero.cs.toArray 88))) : wpList Tryz.prog ops Q (o :: rest) a w := by
  refine wpList_val hw _ _ ?_ h
  have : (Instr.alloc 88 true (.tuple #[])).run Tryz.prog w = .ok (.pointer (some ⟨w.heap.size, 0, none⟩)) (w.alloc (.cells Blk.zero.cs.toArray 88)) := by
    unfold Instr.alloc; rw [Sem.run_bind, zero36]; rfl
  simp only [execOp, ho, Sem.run_bind, this]; rfl
theorem at_build (hw : Region.wanted o (yielded ops a.tmps) = true) (ho : o.op = .build 88 #[]) (h : wpList Tryz.prog ops Q rest (a.put o.dst (.agg Blk.zero.cs.toArray)) w) : wpList Tryz.prog ops Q (o :: rest) a w := by
  refine wpList_val hw _ _ ?_ h
  simp only [execOp, ho, Sem.run_bind, List.map_toArray, List.map_nil, build36]; rfl
theorem at_load (hw : Region.wanted o (yielded ops a.tmps) = true) (x : Operand) (ho : o.op = .load 88 x) (b off : Nat) (hx : a.eval x = .pointer (some ⟨b, off, none⟩)) (c : Blk) (hc : w.rangeAt b off c.cs)
    (h : wpList Tryz.prog ops Q rest (a.put o.dst (.agg c.cs.toArray)) w) : wpList Tryz.prog ops Q (o :: rest) a w := by
  refine wpList_val hw _ _ ?_ h
  simp [execOp, ho, hx, Instr.loadAt, Instr.sureAddr, load36 hc]
theorem at_store (hw : Region.wanted o (yielded ops a.tmps) = true) (x y : Operand) (ho : o.op = .store 88 x y) (b off : Nat) (hx : a.eval x = .pointer (some ⟨b, off, none⟩)) (c : Blk) (hy : a.eval y = .agg c.cs.toArray) (ht : w.there b off 64)
    (h : wpList Tryz.prog ops Q rest (a.put o.dst undef) (w.setCells b off c.cs)) : wpList Tryz.prog ops Q (o :: rest) a w := by
  refine wpList_unit hw _ ?_ h
  simp only [execOp, ho, hx, hy, Instr.storeAt, Instr.sureAddr, Sem.run_bind, Sem.run_pure, Result.andThen_ok]
  rw [run_storeVar_mid w b off _ c.cs.toArray (by rw [List.size_toArray, c.cs_len]; exact ht) (size36' c) c.arr]
  simp
theorem at_look {t E : TypeId} {b : Nat} {f : Int → Option Value} (hw : Region.wanted o (yielded ops a.tmps) = true) (x y : Operand) (ho : o.op = .lookup t x y false) (ht : Tryz.prog.underlying t = some (.map 3 E)) (z : Value) (hz : (zeroValue E).run Tryz.prog w = .ok z w)
    (k : Int) (hx : a.eval x = .map (some b)) (hy : a.eval y = .int .i64 k) (hm : MpI Tryz.prog 3 w b f) (hk : (Lit.int .i64 k).wf = true) (h : wpList Tryz.prog ops Q rest (a.put o.dst ((f k).getD z)) w) : wpList Tryz.prog ops Q (o :: rest) a w := by
  refine wpList_val hw _ _ ?_ h
  simp [execOp, ho, hx, hy, hm.look u3 ht hz hk]
end
theorem setCells_made (w : World) (t : TypeId) (b c : Blk) : (w.alloc (.cells b.cs.toArray t)).setCells w.heap.size 0 c.cs = w.alloc (.cells c.cs.toArray t) := by
  have key : ∀ t', (w.alloc (.cells b.cs.toArray t')).setCells w.heap.size 0 c.cs = w.alloc (.cells c.cs.toArray t') := fun t' => by
    have := (run_storeCells_cells (P := Tryz.prog) w.heap.size 0 c.cs 0 (w.alloc (.cells b.cs.toArray t')) (fun j hj => by
      have := (made_there w b.cs.toArray t' j (by rw [List.size_toArray, b.cs_len]; rw [c.cs_len] at hj; exact hj)).1; simpa using this) (fun j hj => by
      have := (made_there w b.cs.toArray t' j (by rw [List.size_toArray, b.cs_len]; rw [c.cs_len] at hj; exact hj)).2; simp) c.cs_one)
    have hr := run_storeCells_at Tryz.prog w.heap.size 0 t' c.cs 0 b.cs.toArray (w.alloc (.cells b.cs.toArray t')) (heap_alloc_new w _) (by rw [List.size_toArray, b.cs_len, c.cs_len]; omega) c.cs_one
    simp only [Nat.add_zero, Nat.zero_add] at this hr
    rw [this] at hr
    injection hr with _ hr
    rw [hr, World.setRow_alloc_new]
    congr 2
    simp [b.cs_len, c.cs_len]
  exact key t
structure Bls (w : World) (a : Option Addr) (n c : Nat) (l : List Blk) : Prop where
  len : l.length = n
  le : n ≤ c
  cap : c ≤ maxLen
  cell : 0 < n → ∃ b o, a = some ⟨b, o, none⟩ ∧ ∀ i, i < n → w.rangeAt b (o + i * 64) (l.getD i Blk.zero).cs
theorem Bls.nilSlice (w : World) : Bls w none 0 0 [] := ⟨rfl, Nat.le_refl _, by decide, fun h => absurd h (by omega)⟩
theorem Bls.step {F : Nat → Prop} {w w' : World} {a : Option Addr} {n c : Nat} {l : List Blk} (h : Bls w a n c l) (k : Stp F w w') (hF : ∀ x : Addr, a = some x → ¬ F x.block) : Bls w' a n c l :=
  ⟨h.len, h.le, h.cap, fun hn => by obtain ⟨b, o, rfl, hc⟩ := h.cell hn; exact ⟨b, o, rfl, fun i hi => k.range (hc i hi) (hF _ rfl)⟩⟩
def flat (l : List Blk) : List Value := l.flatMap Blk.cs
theorem flat_get : ∀ (l : List Blk) (i j : Nat), i < l.length → j < 64 → (flat l)[i * 64 + j]? = (l.getD i Blk.zero).cs[j]?
  | [], i, j, h, _ => by simp at h
  | a :: r, 0, j, _, hj => by
    unfold flat; rw [List.flatMap_cons, List.getElem?_append_left (by rw [a.cs_len]; omega)]; simp
  | a :: r, i + 1, j, h, hj => by
    have := flat_get r i j (by simpa using h) hj
    unfold flat at *
    rw [List.flatMap_cons, List.getElem?_append_right (by rw [a.cs_len]; omega), a.cs_len, show (i + 1) * 64 + j - 64 = i * 64 + j by omega, this]; simp
theorem flat_snoc (l : List Blk) (b : Blk) : flat (l ++ [b]) = flat l ++ b.cs := by unfold flat; simp
theorem Bls.own {w : World} {r n c : Nat} {l : List Blk} (h : w.ownsRow 0 88 64 (.slice (some ⟨r, 0, none⟩) n c) n (flat l)) (hl : l.length = n) : Bls w (some ⟨r, 0, none⟩) n c l := by
  have hcs := h.cells (g := r) rfl
  rcases h.2 with ⟨e, _⟩ | ⟨g, cap, cur, e, _, hg, h1, h2, h3, h4⟩
  · injection e with e; cases e
  · injection e with e e2 e3; subst e3
    refine ⟨hl, h1, h2, fun hn => ⟨r, 0, rfl, fun i hi j v hv => ?_⟩⟩
    have hj : j < 64 := by have := (List.getElem?_eq_some_iff.1 hv).1; rw [Blk.cs_len] at this; exact this
    have := hcs (i * 64 + j) v (by rw [flat_get l i j (by omega) hj]; exact hv)
    rw [Addr.add_mid] at this
    rw [show 0 + i * 64 + j = 0 + (i * 64 + j) by omega]; exact this
structure DS where
  n : Nat
  st : Int → Blk
  wt : Int → List Blk
  wr : Int
abbrev DS.inn (S : DS) (k : Int) : Prop := 0 ≤ k ∧ k < S.n
structure DS.ok (S : DS) : Prop where
  n1 : 1 ≤ S.n
  n2 : S.n ≤ 2048
  st : ∀ k, ¬ S.inn k → S.st k = Blk.zero
  wt : ∀ k, ¬ S.inn k → S.wt k = []
def stFD (S : DS) : Int → Option Value := fun k => if S.st k = Blk.zero then none else some (.agg (S.st k).cs.toArray)
theorem stF_get (S : DS) (k : Int) : (stFD S k).getD (.agg Blk.zero.cs.toArray) = .agg (S.st k).cs.toArray := by
  unfold stFD; split <;> rename_i h
  · rw [h]; rfl
  · rfl
theorem stF_few {S : DS} (h : S.ok) : ∀ k, (stFD S k).isSome → 0 ≤ k ∧ k < 2048 := fun k hk => by
  have : S.inn k := Decidable.byContradiction fun hn => by unfold stFD at hk; rw [if_pos (h.st k hn)] at hk; cases hk
  unfold DS.inn at this; have := h.n2; omega
structure Dk (w : World) (g : Nat) (sp : Value) (m1 m2 : Nat) (S : DS) (f : Int → Option Value) (F : Nat → Prop) : Prop where
  c0 : w.cell? ⟨g, 0, none⟩ = some (.int .i64 S.n)
  c1 : w.cell? ⟨g, 1, none⟩ = some sp
  c2 : w.cell? ⟨g, 2, none⟩ = some (.map (some m1))
  c3 : w.cell? ⟨g, 3, none⟩ = some (.map (some m2))
  c4 : w.cell? ⟨g, 4, none⟩ = some (.int .i64 S.wr)
  z4 : w.frozen? ⟨g, 4, none⟩ = false
  st : MpI Tryz.prog 3 w m1 (stFD S)
  ok : S.ok
  fg : F g
  f1 : F m1
  f2 : F m2
  ne : m1 ≠ m2
  lt : ∀ x, F x → x < w.heap.size
  w0 : ∀ k, S.wt k = [] → f k = none
  w1 : ∀ k, S.wt k ≠ [] → ∃ r c, f k = some (.slice (some ⟨r, 0, none⟩) (S.wt k).length c) ∧ F r ∧ r ≠ g ∧ w.ownsRow 0 88 64 (.slice (some ⟨r, 0, none⟩) (S.wt k).length c) (S.wt k).length (flat (S.wt k))
  apart : ∀ k k' r, (f k).bind Value.ownBlock = some r → (f k').bind Value.ownBlock = some r → k = k'
theorem Dk.step {B F : Nat → Prop} {w w' : World} {g m1 m2 : Nat} {sp : Value} {S : DS} {f : Int → Option Value} (h : Dk w g sp m1 m2 S f F) (k : Stp B w w') (hB : ∀ x, F x → ¬ B x) : Dk w' g sp m1 m2 S f F := by
  have hg := hB g h.fg
  refine ⟨k.cell h.c0 hg, k.cell h.c1 hg, k.cell h.c2 hg, k.cell h.c3 hg, k.cell h.c4 hg, by rw [k.frozen (p := ⟨g, 4, none⟩) (h.lt g h.fg) hg]; exact h.z4, h.st.step k (hB m1 h.f1), h.ok, h.fg, h.f1, h.f2, h.ne,
    fun x hx => Nat.lt_of_lt_of_le (h.lt x hx) k.size, h.w0, fun j hj => ?_, h.apart⟩
  obtain ⟨r, c, e, hF, hr, ho⟩ := h.w1 j hj
  refine ⟨r, c, e, hF, hr, ho.1, ?_⟩
  rcases ho.2 with h2 | ⟨g', cap, cur, e2, e3, e4, e5⟩
  · exact .inl h2
  · refine .inr ⟨g', cap, cur, e2, e3, ?_, e5⟩
    have : g' = r := by injection e2 with e2; injection e2 with e2; injection e2 with e2; exact e2.symm
    subst this
    rw [k.block g' (h.lt g' hF) (hB g' hF)]; exact e4
theorem Dk.waits {F : Nat → Prop} {w : World} {g m1 m2 : Nat} {sp : Value} {S : DS} {f : Int → Option Value} (h : Dk w g sp m1 m2 S f F) (k : Int) : ∃ a c, (f k).getD (.slice none 0 0) = .slice a (S.wt k).length c ∧ Bls w a (S.wt k).length c (S.wt k) := by
  by_cases e : S.wt k = []
  · rw [h.w0 k e, e]; exact ⟨none, 0, rfl, Bls.nilSlice w⟩
  · obtain ⟨r, c, e1, _, _, ho⟩ := h.w1 k e
    rw [e1]; exact ⟨_, c, rfl, Bls.own ho rfl⟩
def Disk (w : World) (g : Nat) (sp : Value) (S : DS) (F : Nat → Prop) : Prop := ∃ m1 m2 f, Dk w g sp m1 m2 S f F ∧ MpI Tryz.prog 3 w m2 f
theorem Disk.step {B F : Nat → Prop} {w w' : World} {g : Nat} {sp : Value} {S : DS} (h : Disk w g sp S F) (k : Stp B w w') (hB : ∀ x, F x → ¬ B x) : Disk w' g sp S F := by
  obtain ⟨m1, m2, f, h1, h2⟩ := h
  exact ⟨m1, m2, f, h1.step k hB, h2.step k (hB m2 h1.f2)⟩
theorem Disk.lt {F : Nat → Prop} {w : World} {g : Nat} {sp : Value} {S : DS} (h : Disk w g sp S F) : ∀ x, F x → x < w.heap.size := by obtain ⟨m1, m2, f, h1, h2⟩ := h; exact h1.lt
theorem Disk.ok {F : Nat → Prop} {w : World} {g : Nat} {sp : Value} {S : DS} (h : Disk w g sp S F) : S.ok := by obtain ⟨m1, m2, f, h1, h2⟩ := h; exact h1.ok
theorem ret1 {fn : Func} {p : Tmp} (h : fn.results = #[.cell p 88]) {tmps : Array Value} {w : World} {g o : Nat} {c : Blk} (hp : tmps.getD p undef = .pointer (some ⟨g, o, none⟩)) (hc : w.rangeAt g o c.cs) :
    (results fn tmps).run Tryz.prog w = .ok (.agg c.cs.toArray) w := by
  have hp' : tmps[p]?.getD undef = .pointer (some ⟨g, o, none⟩) := by simpa using hp
  simp [results, h, hp', asAddr, load36 hc]
theorem ret2 {fn : Func} {p u : Tmp} (h : fn.results = #[.cell p 88, .tmp u]) {tmps : Array Value} {w : World} {g o : Nat} {c : Blk} {v : Value} (hp : tmps.getD p undef = .pointer (some ⟨g, o, none⟩)) (hu : tmps.getD u undef = v) (hc : w.rangeAt g o c.cs) :
    (results fn tmps).run Tryz.prog w = .ok (.tuple #[.agg c.cs.toArray, v]) w := by
  have hp' : tmps[p]?.getD undef = .pointer (some ⟨g, o, none⟩) := by simpa using hp
  have hu' : tmps[u]?.getD undef = v := by simpa using hu
  simp [results, h, hp', hu', asAddr, load36 hc]
def checkErr (S : DS) (i : Int) : Int := if S.inn i then 0 else 2
theorem check_anyD {w : World} {g m1 m2 : Nat} {sp : Value} {S : DS} {f : Int → Option Value} {F : Nat → Prop} (h : Dk w g sp m1 m2 S f F) (i : Int) :
    Calls Tryz.prog 110 #[.pointer (some ⟨g, 0, none⟩), .int .i64 i] w fun e w' => e = .returned (.int .i64 (checkErr S i)) ∧ w = w' := by
  have c0 := h.c0
  by_cases hi : S.inn i
  · have e : checkErr S i = 0 := if_pos hi
    rw [e]; clear e
    obtain ⟨h1, h2⟩ := hi
    go_enter Tryz.func110, Tryz.ntmps110
    go_wp2
    go_returns
    exact ⟨rfl, rfl⟩
  · have e : checkErr S i = 2 := if_neg hi
    rw [e]; clear e
    unfold DS.inn at hi
    by_cases h1 : i < 0
    · clear hi
      go_enter Tryz.func110, Tryz.ntmps110
      go_wp2
      go_returns
      exact ⟨rfl, rfl⟩
    · have h2 : (S.n : Int) ≤ i := by omega
      clear hi
      go_enter Tryz.func110, Tryz.ntmps110
      go_wp2
      go_returns
      exact ⟨rfl, rfl⟩
def shownBy (S : DS) (i : Int) (l : List Blk) : Blk := l.getLastD (S.st i)
theorem getLastD_getD (l : List Blk) (d : Blk) (h : 0 < l.length) : l.getLastD d = l.getD (l.length - 1) Blk.zero := by
  cases l with
  | nil => simp at h
  | cons a r => rw [List.getLastD_eq_getLast?, List.getLast?_eq_getElem?, List.getD_eq_getElem?_getD, List.getElem?_eq_getElem (by simp)]; rfl
theorem there_made (w : World) : (w.alloc (.cells Blk.zero.cs.toArray 88)).there w.heap.size 0 64 := by
  have := made_there w Blk.zero.cs.toArray 88; rw [show Blk.zero.cs.toArray.size = 64 from rfl] at this; exact this
set_option maxRecDepth 100000 in
theorem shown_any {w : World} {g m1 m2 : Nat} {sp : Value} {S : DS} {f : Int → Option Value} {F : Nat → Prop} (h : Dk w g sp m1 m2 S f F) (i : Int) (hi : (Lit.int .i64 i).wf = true) {a : Option Addr} {n c : Nat} {l : List Blk} (hl : Bls w a n c l) :
    Calls Tryz.prog 111 #[.pointer (some ⟨g, 0, none⟩), .int .i64 i, .slice a n c] w fun e w' => e = .returned (.agg (shownBy S i l).cs.toArray) ∧ Below w.heap.size w w' := by
  have c2 := h.c2
  have hlt := h.lt g h.fg
  have hln := hl.len
  by_cases hn : n = 0
  · subst hn
    obtain rfl : l = [] := List.eq_nil_of_length_eq_zero hln
    have e : shownBy S i [] = S.st i := rfl
    rw [e]; clear e hln
    go_enter Tryz.func111, Tryz.ntmps111
    go_wp2_with (first
      | (refine at_alloc (by rfl) (by rfl) ?_)
      | (refine at_look (f := stFD S) (by rfl) _ _ (by rfl) u63 _ (zero36 _) i (by rfl) (by rfl) (h.st.step (Stp.of_alloc _ _ (fun _ => False)) id) hi ?_; rw [stF_get])
      | (refine at_store (by rfl) _ _ (by rfl) _ _ (by rfl) (S.st i) (by rfl) (there_made w) ?_; rw [setCells_made]))
    refine bodyPost_ret (ret1 Tryz.results111 rfl (made_range w _ _)) rfl ⟨rfl, by go_grown⟩
  · obtain ⟨b, o, rfl, hc⟩ := hl.cell (by omega)
    have hb := hc (n - 1) (by omega)
    have e : shownBy S i l = l.getD (n - 1) Blk.zero := by unfold shownBy; rw [getLastD_getD l _ (by omega), hln]
    rw [e]; clear e
    generalize l.getD (n - 1) Blk.zero = B at *
    have hn1 : ¬ (n : Int) = 0 := by omega
    have hn0 : 0 < n := by omega
    have hc1 := hl.le
    have hc2 := hl.cap
    unfold maxLen at hc2
    have q1 : IntKind.i64.wrap ((n : Int) - 1) = ((n - 1 : Nat) : Int) := by rw [IntKind.wrap_i64]; omega
    have q2 : ((n - 1 : Nat) : Int) < (n : Int) := by omega
    have q3 : (0 : Int) ≤ ((n - 1 : Nat) : Int) := by omega
    clear hc hln hl
    go_enter Tryz.func111, Tryz.ntmps111
    go_wp2_with (first
      | (refine at_alloc (by rfl) (by rfl) ?_)
      | (refine at_load (by rfl) _ (by rfl) b (o + (n - 1) * 64) (by rfl) B (World.rangeAt_alloc hb _) ?_)
      | (refine at_store (by rfl) _ _ (by rfl) _ _ (by rfl) B (by rfl) (there_made w) ?_; rw [setCells_made]))
    refine bodyPost_ret (ret1 Tryz.results111 rfl (made_range w _ _)) rfl ⟨rfl, by go_grown⟩
def DS.settle (S : DS) (i : Int) (b : Blk) : DS := { S with st := fun k => if k = i then b else S.st k, wt := fun k => if k = i then [] else S.wt k }
theorem DS.ok.settle {S : DS} (h : S.ok) {i : Int} (hi : S.inn i) (b : Blk) : (S.settle i b).ok :=
  ⟨h.n1, h.n2, fun k hk => by have : k ≠ i := fun e => hk (e ▸ hi); simp only [DS.settle, if_neg this]; exact h.st k hk, fun k hk => by have : k ≠ i := fun e => hk (e ▸ hi); simp only [DS.settle, if_neg this]; exact h.wt k hk⟩
theorem stF_settle0 (S : DS) (i : Int) : stFD (S.settle i Blk.zero) = upd (stFD S) i none := by
  funext k; unfold stFD upd DS.settle; by_cases e : k = i <;> simp [e]
theorem stF_settle1 (S : DS) (i : Int) {b : Blk} (hb : b ≠ Blk.zero) : stFD (S.settle i b) = upd (stFD S) i (some (.agg b.cs.toArray)) := by
  funext k; unfold stFD upd DS.settle; by_cases e : k = i <;> simp [e, hb]
theorem own_map_ne {w : World} {r n c b : Nat} {xs : List Value} {P : Program} {K : TypeId} {f : Int → Option Value} (h : w.ownsRow 0 88 64 (.slice (some ⟨r, 0, none⟩) n c) n xs) (hm : MpI P K w b f) : r ≠ b := fun e => by
  obtain ⟨D, ⟨es, clock, hh, _⟩, _⟩ := hm
  rcases h.2 with ⟨e1, _⟩ | ⟨g, cap, cur, e1, _, hg, _⟩
  · injection e1 with e1; cases e1
  · injection e1 with e1; injection e1 with e1; injection e1 with e1; subst e1; rw [e, hh] at hg; cases hg
theorem own_step {B : Nat → Prop} {w w' : World} {r n c : Nat} {xs : List Value} (h : w.ownsRow 0 88 64 (.slice (some ⟨r, 0, none⟩) n c) n xs) (k : Stp B w w') (hB : ¬ B r) : w'.ownsRow 0 88 64 (.slice (some ⟨r, 0, none⟩) n c) n xs := by
  refine ⟨h.1, ?_⟩
  rcases h.2 with h2 | ⟨g', cap, cur, e2, e3, e4, e5⟩
  · exact .inl h2
  · refine .inr ⟨g', cap, cur, e2, e3, ?_, e5⟩
    have : g' = r := by injection e2 with e2; injection e2 with e2; injection e2 with e2; exact e2.symm
    subst this
    rw [k.block g' (Array.getElem?_eq_some_iff.1 e4).1 hB]; exact e4
theorem Dk.settled {F : Nat → Prop} {w w' : World} {g m1 m2 : Nat} {sp : Value} {S : DS} {f : Int → Option Value} (h : Dk w g sp m1 m2 S f F) (hm : MpI Tryz.prog 3 w m2 f) (k : Stp (fun x => x = m1 ∨ x = m2) w w') {i : Int} (hi : S.inn i) (b : Blk)
    (hs : MpI Tryz.prog 3 w' m1 (stFD (S.settle i b))) : Dk w' g sp m1 m2 (S.settle i b) (upd f i none) F := by
  have hg : ¬ (g = m1 ∨ g = m2) := fun e => by rcases e with e | e; exact h.st.notCell h.c0 e; exact hm.notCell h.c0 e
  refine ⟨k.cell h.c0 hg, k.cell h.c1 hg, k.cell h.c2 hg, k.cell h.c3 hg, k.cell h.c4 hg, by rw [k.frozen (p := ⟨g, 4, none⟩) (h.lt g h.fg) hg]; exact h.z4, hs, h.ok.settle hi b, h.fg, h.f1, h.f2, h.ne,
    fun x hx => Nat.lt_of_lt_of_le (h.lt x hx) k.size, fun j hj => ?_, fun j hj => ?_, fun j j' r e1 e2 => ?_⟩
  · unfold upd; split
    · rfl
    · rename_i hne; refine h.w0 j ?_; simp only [DS.settle, if_neg hne] at hj; exact hj
  · have hne : j ≠ i := fun e => hj (by simp [DS.settle, e])
    have e3 : (S.settle i b).wt j = S.wt j := by simp only [DS.settle, if_neg hne]
    rw [e3] at hj ⊢
    obtain ⟨r, c, e, hF, hr, ho⟩ := h.w1 j hj
    refine ⟨r, c, by unfold upd; rw [if_neg hne]; exact e, hF, hr, own_step ho k (fun e => ?_)⟩
    rcases e with e | e
    · exact own_map_ne ho h.st e
    · exact own_map_ne ho hm e
  · unfold upd at e1 e2
    by_cases n1 : j = i
    · rw [if_pos n1] at e1; cases e1
    · by_cases n2 : j' = i
      · rw [if_pos n2] at e2; cases e2
      · rw [if_neg n1] at e1; rw [if_neg n2] at e2; exact h.apart j j' r e1 e2
set_option maxRecDepth 100000 in
set_option maxHeartbeats 1000000 in
theorem settle_core {F : Nat → Prop} {w : World} {g m1 m2 : Nat} {sp : Value} {S : DS} {f : Int → Option Value} (h : Dk w g sp m1 m2 S f F) (i : Int) (hi : S.inn i) (b : Blk)
    (M : World → (Int → Option Value) → Prop) (r : Nat → Prop) (hM : M w f) (hMm : ∀ u f, M u f → MpI Tryz.prog 3 u m2 f) (hr1 : ¬ r m1)
    (hstep : ∀ u u' f B, M u f → Stp B u u' → ¬ B m2 → (∀ x, r x → ¬ B x) → M u' f)
    (hdrop : ∀ u f ty, M u f → ∃ u', (Builtin.delete_ #[119, 3] ty #[.map (some m2), .int .i64 i]).run Tryz.prog u = .ok (.tuple #[]) u' ∧ (M u' (upd f i none) ∧ u.mapTurned u' m2)) :
    Calls Tryz.prog 45 #[.pointer (some ⟨g, 0, none⟩), .int .i64 i, .agg b.cs.toArray] w fun e w' => e = .returned (.tuple #[]) ∧ Dk w' g sp m1 m2 (S.settle i b) (upd f i none) F ∧ M w' (upd f i none) ∧ Stp (fun x => x = m1 ∨ x = m2) w w' := by
  have hwf : (Lit.int .i64 i).wf = true := by have := h.ok.n2; unfold DS.inn at hi; simp [Lit.wf, IntKind.min, IntKind.max, IntKind.bits, IntKind.signed]; omega
  have c2 := h.c2
  have c3 := h.c3
  have hlt := h.lt g h.fg
  have hm := hMm w f hM
  have hg : ¬ (g = m1 ∨ g = m2) := fun e => by rcases e with e | e; exact h.st.notCell h.c0 e; exact hm.notCell h.c0 e
  have l1 := h.lt m1 h.f1
  have l2 := h.lt m2 h.f2
  have hne := h.ne
  have e36 := eq36
  have g36 := guard36
  have s0 : Stp (fun _ => False) w (w.alloc (.cells b.cs.toArray 88)) := Stp.of_alloc _ _ _
  have hM0 := hstep _ _ _ _ hM s0 id (fun _ _ => id)
  have fin : ∀ w1 w2 : World, (w.alloc (.cells b.cs.toArray 88)).mapTurned w1 m2 → M w1 (upd f i none) → Stp (fun x => x = m1) w1 w2 → MpI Tryz.prog 3 w2 m1 (stFD (S.settle i b)) →
      Dk w2 g sp m1 m2 (S.settle i b) (upd f i none) F ∧ M w2 (upd f i none) ∧ Stp (fun x => x = m1 ∨ x = m2) w w2 := fun w1 w2 t1 hM1 t2 hs => by
    have k : Stp (fun x => x = m1 ∨ x = m2) w w2 := ((s0.mono (fun x hx => hx.elim)).next (turned_stp t1) (fun x hx => .inl (.inr hx))).next t2 (fun x hx => .inl (.inl hx))
    exact ⟨h.settled hm k hi b hs, hstep _ _ _ _ hM1 t2 (fun e => hne e.symm) (fun x hx e => hr1 (e ▸ hx)), k⟩
  have fact : ∀ w1 : World, (w.alloc (.cells b.cs.toArray 88)).mapTurned w1 m2 → w1.cell? ⟨g, 2, none⟩ = some (.map (some m1)) ∧ w1.rangeAt w.heap.size 0 b.cs ∧ MpI Tryz.prog 3 w1 m1 (stFD S) ∧ w.heap.size < w1.heap.size := fun w1 t1 =>
    ⟨(turned_stp t1).cell (s0.cell c2 id) (fun e => hg (.inr e)), (turned_stp t1).range (made_range w _ _) (by omega), (h.st.step s0 id).step (turned_stp t1) hne, by have := (turned_stp t1).size; simp at this; omega⟩
  by_cases hb : b = Blk.zero
  · subst hb
    rw [stF_settle0] at fin
    go_enter Tryz.func45, Tryz.ntmps45
    go_wp2_with (first
      | (refine at_drop (t := 119) (by rfl) _ _ (by rfl) (by rfl) (by rfl) (fun ty => hdrop _ f ty hM0) ?_; rintro w1 ⟨hM1, ht1⟩; obtain ⟨d1, d2, d3, d4⟩ := fact w1 ht1)
      | (refine at_load (by rfl) _ (by rfl) _ _ (by rfl) Blk.zero d2 ?_)
      | (refine at_build (by rfl) (by rfl) ?_)
      | (refine at_drop (t := 118) (by rfl) _ _ (by rfl) (by rfl) (by rfl) (fun ty => d3.drop u3 u63 hwf ty) ?_; rintro w2 ⟨d5, d6⟩))
    first | go_end0 | refine bodyPost_ret (results_none rfl _ _ _) rfl ?_
    exact ⟨rfl, fin w1 w2 ht1 hM1 (turned_stp d6) d5⟩
  · rw [stF_settle1 S i hb] at fin
    go_enter Tryz.func45, Tryz.ntmps45
    go_wp2_with (first
      | (refine at_drop (t := 119) (by rfl) _ _ (by rfl) (by rfl) (by rfl) (fun ty => hdrop _ f ty hM0) ?_; rintro w1 ⟨hM1, ht1⟩; obtain ⟨d1, d2, d3, d4⟩ := fact w1 ht1)
      | (refine at_load (by rfl) _ (by rfl) _ _ (by rfl) b d2 ?_)
      | (refine at_build (by rfl) (by rfl) ?_))
    obtain ⟨w2, hr2, d5, d6⟩ := (d3.step (Stp.refl (fun _ => False) w1).drew id).store (t := 118) u3 u63 (stF_few h.ok) hwf (.agg b.cs.toArray)
    have hSa : w1.drew.cell? ⟨g, 2, none⟩ = some (.map (some m1)) ∧ w1.drew.rangeAt w.heap.size 0 b.cs := ⟨d1, d2⟩
    have hSb : w2.cell? ⟨g, 2, none⟩ = some (.map (some m1)) ∧ w2.rangeAt w.heap.size 0 b.cs := ⟨(turned_stp d6).cell hSa.1 (fun e => hg (.inl e)), (turned_stp d6).range hSa.2 (by omega)⟩
    have u36' := u36
    have s36 := size36 b
    clear d3
    go_region_held3 (fun w' => w'.cell? ⟨g, 2, none⟩ = some (.map (some m1)) ∧ w'.rangeAt w.heap.size 0 b.cs) (first | exact hSa | exact hSb) (fail)
    go_wp2
    first | go_end0 | refine bodyPost_ret (results_none rfl _ _ _) rfl ?_
    exact ⟨rfl, fin w1 w2 ht1 hM1 ((Stp.refl _ w1).drew.trans (turned_stp d6)) d5⟩
def Sup (w : World) (sp : Value) (p : Option PS) (G : Nat → Prop) : Prop :=
  match p with
  | none => sp = .pointer none
  | some s => ∃ gp, sp = .pointer (some ⟨gp, 0, none⟩) ∧ Pw w gp s ∧ G gp
def oErr (p : Option PS) : Int := match p with | none => 0 | some s => s.useErr
def oUse (p : Option PS) : Option PS := p.map PS.use
def oOk (p : Option PS) : Prop := ∀ s, p = some s → s.ok
theorem Pw.stp {F : Nat → Prop} {w w' : World} {g : Nat} {p : PS} (h : Pw w g p) (k : Stp F w w') (hg : ¬ F g) : Pw w' g p :=
  ⟨k.cell h.c0 hg, k.cell h.c1 hg, k.cell h.c2 hg, k.cell h.c3 hg, by rw [k.frozen (p := ⟨g, 0, none⟩) h.lt hg]; exact h.f0, by rw [k.frozen (p := ⟨g, 1, none⟩) h.lt hg]; exact h.f1,
   by rw [k.frozen (p := ⟨g, 2, none⟩) h.lt hg]; exact h.f2, by rw [k.frozen (p := ⟨g, 3, none⟩) h.lt hg]; exact h.f3⟩
theorem Sup.step {w w' : World} {sp : Value} {p : Option PS} {G B : Nat → Prop} (h : Sup w sp p G) (k : Stp B w w') (hB : ∀ x, G x → ¬ B x) : Sup w' sp p G := by
  cases p with
  | none => exact h
  | some s => obtain ⟨gp, e, h1, h2⟩ := h; exact ⟨gp, e, h1.stp k (hB gp h2), h2⟩
theorem sup_use {w : World} {sp : Value} {p : Option PS} {G : Nat → Prop} (h : Sup w sp p G) (ok : oOk p) :
    Calls Tryz.prog 106 #[sp] w fun e w' => e = .returned (.int .i64 (oErr p)) ∧ Stp G w w' ∧ Sup w' sp (oUse p) G := by
  cases p with
  | none =>
    obtain rfl : sp = .pointer none := h
    refine (puse_nil w).mono ?_
    rintro e w' ⟨rfl, hb⟩
    exact ⟨rfl, Stp.of_below hb _, rfl⟩
  | some s =>
    obtain ⟨gp, rfl, h1, h2⟩ := h
    refine (puse_any gp s w h1 (ok s rfl)).mono ?_
    rintro e w' ⟨rfl, hb, hp⟩
    exact ⟨rfl, Stp.of_step hb (by intro x hx; simp at hx; subst hx; exact .inl h2), gp, rfl, hp, h2⟩
def useRes (S : DS) (p : Option PS) (i : Int) : Int := if S.inn i then oErr p else 2
def useP (S : DS) (p : Option PS) (i : Int) : Option PS := if S.inn i then oUse p else p
theorem use_any {F G : Nat → Prop} {w : World} {g m1 m2 : Nat} {sp : Value} {S : DS} {f : Int → Option Value} {p : Option PS} (h : Dk w g sp m1 m2 S f F) (hs : Sup w sp p G) (ok : oOk p) (i : Int) :
    Calls Tryz.prog 157 #[.pointer (some ⟨g, 0, none⟩), .int .i64 i] w fun e w' => e = .returned (.int .i64 (useRes S p i)) ∧ Stp G w w' ∧ Sup w' sp (useP S p i) G := by
  have c1 := h.c1
  have hc := check_anyD h i
  by_cases hi : S.inn i
  · have e1 : useRes S p i = oErr p := if_pos hi
    have e2 : useP S p i = oUse p := if_pos hi
    have e3 : checkErr S i = 0 := if_pos hi
    rw [e1, e2]; rw [e3] at hc; clear e1 e2 e3 hi
    go_enter Tryz.func157, Tryz.ntmps157
    go_wp2_with (first
      | (go_at_call 110; refine hc.mono ?_; rintro e u ⟨rfl, rfl⟩)
      | (go_at_call 106; refine (sup_use hs ok).mono ?_; rintro e u ⟨rfl, h2, h3⟩))
    go_returns
    exact ⟨rfl, h2, h3⟩
  · have e1 : useRes S p i = 2 := if_neg hi
    have e2 : useP S p i = p := if_neg hi
    have e3 : checkErr S i = 2 := if_neg hi
    rw [e1, e2]; rw [e3] at hc; clear e1 e2 e3 hi
    go_enter Tryz.func157, Tryz.ntmps157
    go_wp2_with (first
      | (go_at_call 110; refine hc.mono ?_; rintro e u ⟨rfl, rfl⟩))
    go_returns
    exact ⟨rfl, Stp.refl _ _, hs⟩
def DS.new (n : Nat) : DS := ⟨n, fun _ => Blk.zero, fun _ => [], 0⟩
theorem new_anyD (n : Nat) (q : Option Addr) (w : World) (h1 : 1 ≤ n) (h2 : n ≤ 2048) :
    Calls Tryz.prog 20 #[.int .i64 n, .pointer q] w fun e w' => e = .returned (.tuple #[.pointer (some ⟨w.heap.size + 2, 0, none⟩), .int .i64 0]) ∧ Below w.heap.size w w' ∧ w'.heap.size = w.heap.size + 3 ∧
      Disk w' (w.heap.size + 2) (.pointer q) (DS.new n) (fun x => w.heap.size ≤ x ∧ x < w.heap.size + 3) := by
  have h1' : (1 : Int) ≤ (n : Int) := by omega
  have mk1 : ∀ u : World, (Instr.makeMap 118 none).run Tryz.prog u = .ok (.map (some u.heap.size)) (u.alloc (.map #[] 0)) := fun u => rfl
  have mk2 : ∀ u : World, (Instr.makeMap 119 none).run Tryz.prog u = .ok (.map (some u.heap.size)) (u.alloc (.map #[] 0)) := fun u => rfl
  have h2' : (n : Int) ≤ 2048 := by omega
  go_enter Tryz.func20, Tryz.ntmps20
  go_wp2
  go_ret2
  have hs1 : ∀ u : World, Stp (fun _ => False) u u := fun u => Stp.refl _ u
  refine ⟨rfl, by go_grown, by simp, w.heap.size, w.heap.size + 1, fun _ => none, ⟨by simp [go_sem, DS.new], by simp [go_sem], by simp [go_sem], by simp [go_sem], by simp [go_sem, DS.new], by simp [go_sem], ?_, ⟨h1, h2, fun _ _ => rfl, fun _ _ => rfl⟩, by omega, by omega, by omega, by omega, by simp, fun _ _ => rfl, fun k hk => absurd rfl hk, fun k k' r e => by cases e⟩, ?_⟩
  · have e : stFD (DS.new n) = fun _ => none := by funext k; simp [stFD, DS.new]
    rw [e]
    exact ((MpI.made w _ _).step (Stp.of_alloc _ _ (fun _ => False)) id).step (Stp.of_alloc _ _ (fun _ => False)) id
  · have := ((MpI.made (w.alloc (.map #[] 0)) Tryz.prog 3).step (Stp.of_alloc _ (.cells #[.int .i64 n, .pointer q, .map (some w.heap.size), .map (some (w.heap.size + 1)), .int .i64 0] 121) (fun _ => False)) id)
    simpa using this
theorem len_anyD {F : Nat → Prop} {w : World} {g : Nat} {sp : Value} {S : DS} (h : Disk w g sp S F) :
    Calls Tryz.prog 80 #[.pointer (some ⟨g, 0, none⟩)] w fun e w' => e = .returned (.int .i64 S.n) ∧ w = w' := by
  obtain ⟨m1, m2, f, h, hm⟩ := h
  have c0 := h.c0
  go_enter Tryz.func80, Tryz.ntmps80
  go_wp2
  go_returns
  exact ⟨rfl, rfl⟩
def DS.shown (S : DS) (i : Int) : Blk := shownBy S i (S.wt i)
theorem shown_out {S : DS} (h : S.ok) {i : Int} (hi : ¬ S.inn i) : S.shown i = Blk.zero := by unfold DS.shown shownBy; rw [h.wt i hi, h.st i hi]; rfl
set_option maxRecDepth 100000 in
theorem read_anyD {F : Nat → Prop} {w : World} {g : Nat} {sp : Value} {S : DS} (h : Disk w g sp S F) (i : Int) (hwf : (Lit.int .i64 i).wf = true) :
    Calls Tryz.prog 81 #[.pointer (some ⟨g, 0, none⟩), .int .i64 i] w fun e w' => e = .returned (.tuple #[.agg (S.shown i).cs.toArray, .int .i64 (checkErr S i)]) ∧ Below w.heap.size w w' := by
  obtain ⟨m1, m2, f, h, hm⟩ := h
  have s0 : ∀ o, Stp (fun _ => False) w (w.alloc o) := fun o => Stp.of_alloc _ _ _
  have hc := fun o => check_anyD (h.step (s0 o) (fun _ _ => id)) i
  have c3 := h.c3
  have hlt := h.lt g h.fg
  by_cases hi : S.inn i
  · have e3 : checkErr S i = 0 := if_pos hi
    obtain ⟨a, c, e, hb⟩ := h.waits i
    rw [e3]; simp only [e3] at hc; clear e3 hi
    have hsh := fun o => shown_any (h.step (s0 o) (fun _ _ => id)) i hwf (hb.step (s0 o) (fun _ _ => id))
    go_enter Tryz.func81, Tryz.ntmps81
    go_wp2_with (first
      | (refine at_alloc (by rfl) (by rfl) ?_)
      | (go_at_call 110; refine (hc _).mono ?_; rintro e u ⟨rfl, rfl⟩)
      | (refine at_look (f := f) (by rfl) _ _ (by rfl) u64 _ (zero41 _) i (by rfl) (by rfl) (hm.step (s0 _) id) hwf ?_; rw [e])
      | (go_at_call 111; refine (hsh _).mono ?_; rintro e u ⟨rfl, hu⟩; have k1 := (Stp.of_below hu (fun _ => False)).there (there_made w) id)
      | (refine at_store (by rfl) _ _ (by rfl) _ _ (by rfl) _ (by rfl) k1 ?_))
    have k2 := World.rangeAt_setCells_same u w.heap.size 0 (shownBy S i (S.wt i)).cs (by rw [Blk.cs_len]; exact k1)
    refine bodyPost_ret (ret2 Tryz.results81 rfl rfl k2) rfl ⟨rfl, ?_⟩
    have : Stp (fun x => x = w.heap.size) w (u.setCells w.heap.size 0 (shownBy S i (S.wt i)).cs) := ((Stp.of_alloc w _ _).trans (Stp.of_below hu _)).trans (Stp.of_setCells u _ _ _ (.inl rfl))
    exact this.below (Nat.le_refl _) (by rintro x rfl; exact Nat.le_refl _)
  · have e3 : checkErr S i = 2 := if_neg hi
    rw [e3, shown_out h.ok hi]; simp only [e3] at hc; clear e3 hi
    go_enter Tryz.func81, Tryz.ntmps81
    go_wp2_with (first
      | (refine at_alloc (by rfl) (by rfl) ?_)
      | (go_at_call 110; refine (hc _).mono ?_; rintro e u ⟨rfl, rfl⟩)
      | (refine at_build (by rfl) (by rfl) ?_)
      | (refine at_store (by rfl) _ _ (by rfl) _ _ (by rfl) Blk.zero (by rfl) (there_made w) ?_; rw [setCells_made]))
    refine bodyPost_ret (ret2 Tryz.results81 rfl rfl (made_range w _ _)) rfl ⟨rfl, by go_grown⟩
end Go.Proofs.YtgdnhkdfcjpdiaaGreatDoor
