/-
  Texts of my own, joined: no statement is proved here.
-/
import Derived.Laws.CopyOwn
import Derived.Laws.Cover3
import Derived.Laws.ResultCell
import Derived.Deep.RegionHeld3
import Derived.Maps.AppendAt
import Derived.Test.YtgdnhkdfcjpdiaaGreatDoorJab
import Derived.Test.YtgdnhkdfcjpdiaaGreatDoorJac
set_option linter.unusedSimpArgs false
set_option linter.unusedVariables false
namespace Go.Proofs.YtgdnhkdfcjpdiaaGreatDoor
open Go.ChangeShapes Go.WideShapes Go.ChangeAt Go.RowKit
structure Pt where
  id : Int
  at' : Int
  off : Int
  data : List Int
  kind : Int
  needs : List Int
  own : Int
  child : Int
  wr : Bool
def Pt.zero : Pt := ⟨0, 0, 0, [], 0, [], 0, 0, false⟩
def wfi (x : Int) : Prop := (Lit.int .i64 x).wf = true
theorem wfi_of {x : Int} (h : -9223372036854775808 ≤ x ∧ x ≤ 9223372036854775807) : wfi x := by
  unfold wfi; simp [Lit.wf, IntKind.min, IntKind.max, IntKind.bits, IntKind.signed]; omega
theorem wfi_to {x : Int} (h : wfi x) : -9223372036854775808 ≤ x ∧ x ≤ 9223372036854775807 := by
  unfold wfi at h; simp [Lit.wf, IntKind.min, IntKind.max, IntKind.bits, IntKind.signed] at h; omega
def fit (p : Pt) : Bool := decide (0 ≤ p.at') && decide (p.at' < 2048) && decide (0 ≤ p.kind) && decide (p.kind ≤ 6) && decide (0 < (p.data.length : Int)) && decide (0 ≤ p.off) && decide (p.off ≤ (if p.kind = 0 then 64 else 54) - (p.data.length : Int))
theorem fit_to {p : Pt} (h : fit p = true) : 0 ≤ p.at' ∧ p.at' < 2048 ∧ 0 ≤ p.kind ∧ p.kind ≤ 6 ∧ 0 < (p.data.length : Int) ∧ 0 ≤ p.off ∧ p.off + (p.data.length : Int) ≤ 64 := by
  unfold fit at h
  simp only [Bool.and_eq_true, decide_eq_true_eq] at h
  obtain ⟨⟨⟨⟨⟨⟨h1, h2⟩, h3⟩, h4⟩, h5⟩, h6⟩, h7⟩ := h
  refine ⟨h1, h2, h3, h4, h5, h6, ?_⟩
  split at h7 <;> omega
def givn (last : Int) (l : List Int) : Bool := l.all fun x => decide (1 ≤ x) && decide (x ≤ last)
def fnd (l : List Pt) (i : Int) : Option Pt := l.find? fun p => p.id == i
def has (l : List Pt) (i : Int) : Bool := l.any fun p => p.id == i
def inS (s : Int) (p : Pt) : Bool := p.at' == s && !p.wr
def wtP (l : List Pt) (s : Int) : List Pt := l.filter (inS s)
def ids (l : List Pt) : List Int := l.map (·.id)
def wts (l : List Pt) (s : Int) : List Int := ids (wtP l s)
def meet (a b : Pt) : Bool := a.at' == b.at' && (a.kind != b.kind || (decide (a.off < b.off + (b.data.length : Int)) && decide (b.off < a.off + (a.data.length : Int))))
def held (l : List Pt) (p : Pt) : Bool := p.needs.any (has l)
def rdS (l : List Pt) : List Pt → List Pt → List Pt
  | _, [] => []
  | late, p :: r => if held l p || late.any (fun q => meet q p) then rdS l (late ++ [p]) r else p :: rdS l late r
def rdy (l : List Pt) (s : Int) : List Int := ids (rdS l [] (wtP l s))
structure GZ where
  last : Int
  l : List Pt
def GZ.new : GZ := ⟨0, []⟩
def GZ.addOk (Z : GZ) (p : Pt) : Bool := fit p && givn Z.last p.needs
def GZ.add (Z : GZ) (p : Pt) : GZ := if Z.addOk p then ⟨Z.last + 1, Z.l ++ [{ p with id := Z.last + 1, wr := false }]⟩ else Z
def GZ.addN (Z : GZ) (p : Pt) : Int := if Z.addOk p then Z.last + 1 else 0
def GZ.addE (Z : GZ) (p : Pt) : Int := if Z.addOk p then 0 else 2
structure GZ.ok (Z : GZ) (t : Int) : Prop where
  srt : Z.l.Pairwise fun a b => a.id < b.id
  rng : ∀ p ∈ Z.l, 1 ≤ p.id ∧ p.id ≤ Z.last
  ft : ∀ p ∈ Z.l, fit p = true
  nds : ∀ p ∈ Z.l, ∀ x ∈ p.needs, 1 ≤ x ∧ x < p.id
  wf : ∀ p ∈ Z.l, wfi p.own ∧ wfi p.child
  l0 : 0 ≤ Z.last
  lt : Z.last ≤ t
section
variable {l : List Pt} {p q : Pt} {i s : Int}
theorem fnd_mem (h : fnd l i = some p) : p ∈ l ∧ p.id = i := by
  unfold fnd at h
  exact ⟨List.mem_of_find?_eq_some h, by have := List.find?_some h; simpa using this⟩
theorem has_fnd : has l i = (fnd l i).isSome := by
  unfold has fnd
  induction l with
  | nil => rfl
  | cons a t ih => by_cases e : a.id == i <;> simp [List.find?_cons, e, ih]
theorem fnd_of (hs : l.Pairwise fun a b => a.id < b.id) (hp : p ∈ l) : fnd l p.id = some p := by
  induction l with
  | nil => cases hp
  | cons a t ih =>
    rw [List.pairwise_cons] at hs
    unfold fnd
    rw [List.find?_cons]
    rcases List.mem_cons.1 hp with rfl | hp
    · simp
    · have := hs.1 p hp
      have e : (a.id == p.id) = false := by simp; omega
      rw [e]; exact ih hs.2 hp
theorem fnd_snoc (hn : p.id = i) (h : ∀ q ∈ l, q.id ≠ i) (k : Int) : fnd (l ++ [p]) k = if k = i then some p else fnd l k := by
  unfold fnd
  rw [List.find?_append]
  by_cases e : k = i
  · subst e
    rw [if_pos rfl]
    have : l.find? (fun p => p.id == k) = none := List.find?_eq_none.2 (fun q hq => by simpa using h q hq)
    rw [this]; simp [hn]
  · rw [if_neg e]
    have : List.find? (fun p => p.id == k) [p] = none := by simp; omega
    rw [this, Option.or_none]
theorem wts_mem {x : Int} : x ∈ wts l s ↔ ∃ p ∈ l, p.id = x ∧ p.at' = s ∧ p.wr = false := by
  unfold wts ids wtP inS
  simp only [List.mem_map, List.mem_filter, Bool.and_eq_true, beq_iff_eq, Bool.not_eq_true']
  constructor
  · rintro ⟨p, ⟨h1, h2, h3⟩, h4⟩; exact ⟨p, h1, h4, h2, h3⟩
  · rintro ⟨p, h1, h4, h2, h3⟩; exact ⟨p, ⟨h1, h2, h3⟩, h4⟩
theorem wtP_snoc (l : List Pt) (p : Pt) (s : Int) (hp : p.wr = false) : wtP (l ++ [p]) s = if s = p.at' then wtP l s ++ [p] else wtP l s := by
  unfold wtP inS
  rw [List.filter_append]
  by_cases e : s = p.at'
  · subst e; simp [hp]
  · rw [if_neg e]; simp [hp, Ne.symm e]
theorem wts_snoc (l : List Pt) (p : Pt) (s : Int) (hp : p.wr = false) : wts (l ++ [p]) s = if s = p.at' then wts l s ++ [p.id] else wts l s := by
  unfold wts
  rw [wtP_snoc l p s hp]
  split <;> simp [ids]
end
theorem rising_len : ∀ (l : List Pt) (lo hi : Int), (l.Pairwise fun a b => a.id < b.id) → (∀ p ∈ l, lo < p.id ∧ p.id ≤ hi) → lo ≤ hi → (l.length : Int) ≤ hi - lo
  | [], lo, hi, _, _, h => by simp; omega
  | a :: t, lo, hi, hs, h, h0 => by
    rw [List.pairwise_cons] at hs
    have ha := h a (by simp)
    have := rising_len t a.id hi hs.2 (fun p hp => ⟨hs.1 p hp, (h p (by simp [hp])).2⟩) ha.2
    simp only [List.length_cons]; push_cast; omega
theorem GZ.ok.few {Z : GZ} {t : Int} (h : Z.ok t) : (Z.l.length : Int) ≤ t := by
  have := rising_len Z.l 0 Z.last h.srt (fun p hp => by have := h.rng p hp; omega) h.l0
  have := h.lt
  omega
theorem GZ.ok.fewW {Z : GZ} {t : Int} (h : Z.ok t) (s : Int) : ((wtP Z.l s).length : Int) ≤ t := by
  have h1 := h.few
  have h2 : (wtP Z.l s).length ≤ Z.l.length := by unfold wtP; exact List.length_filter_le _ _
  omega
theorem setCells_heap {w : World} {g o : Nat} {t : TypeId} {cur : Array Value} (vs : List Value) (hg : w.heap[g]? = some (.cells cur t (0, 0))) (hl : o + vs.length ≤ cur.size) (h1 : ∀ v ∈ vs, v.oneCell' = true) :
    (w.setCells g o vs).heap[g]? = some (.cells (cur.toList.take o ++ vs ++ cur.toList.drop (o + vs.length)).toArray t (0, 0)) := by
  have e1 := run_storeCells_cells (P := Tryz.prog) g o vs 0 w (fun j hj => by
      rw [cell_of_row w g _ _ _ (0, 0) hg, Array.getElem?_eq_getElem (by omega)]; rfl) (fun j hj => by simp [World.frozen?, hg]) h1
  have e2 := run_storeCells_at Tryz.prog g o t vs 0 cur w hg (by omega) h1
  simp only [Nat.add_zero] at e1 e2
  rw [e1] at e2
  injection e2 with _ e2
  rw [e2]
  exact setRow_heap w g _ _ t _ hg
structure Cs (w : World) (g : Nat) (cs : List Value) : Prop where
  here : ∃ t, w.heap[g]? = some (.cells cs.toArray t (0, 0))
  one : ∀ v ∈ cs, v.oneCell' = true
section
variable {w w' : World} {g : Nat} {cs : List Value} {F : Nat → Prop}
theorem Cs.lt (h : Cs w g cs) : g < w.heap.size := by
  obtain ⟨⟨t, h⟩, _⟩ := h
  exact (Array.getElem?_eq_some_iff.1 h).1
theorem Cs.step (h : Cs w g cs) (k : Stp F w w') (hg : ¬ F g) : Cs w' g cs := by
  have hl := h.lt
  obtain ⟨⟨t, h⟩, h1⟩ := h
  exact ⟨⟨t, by rw [k.block g hl hg]; exact h⟩, h1⟩
theorem Cs.later (h : Cs w g cs) (k : Below w.heap.size w w') : Cs w' g cs := h.step (Stp.of_below k (fun _ => False)) id
theorem Cs.cell (h : Cs w g cs) (i : Nat) (v : Value) (hi : cs[i]? = some v) : w.cell? ⟨g, i, none⟩ = some v := by
  obtain ⟨⟨t, h⟩, _⟩ := h
  rw [cell_of_row w g i _ t (0, 0) h, List.getElem?_toArray]; exact hi
theorem Cs.frozen (h : Cs w g cs) (i : Nat) : w.frozen? ⟨g, i, none⟩ = false := by
  obtain ⟨⟨t, h⟩, _⟩ := h
  simp [World.frozen?, h]
theorem Cs.range (h : Cs w g cs) : w.rangeAt g 0 cs := fun j v hv => by
  rw [Nat.zero_add]; exact h.cell j v hv
theorem Cs.there (h : Cs w g cs) : w.there g 0 cs.length := fun j hj => by
  refine ⟨?_, h.frozen _⟩
  rw [Nat.zero_add, h.cell j _ (List.getElem?_eq_getElem hj)]; rfl
theorem Cs.made (w : World) (cs : List Value) (t : TypeId) (h1 : ∀ v ∈ cs, v.oneCell' = true) : Cs (w.alloc (.cells cs.toArray t)) w.heap.size cs := ⟨⟨t, heap_alloc_new w _⟩, h1⟩
theorem Cs.set (h : Cs w g cs) (i : Nat) (v : Value) (hv : v.oneCell' = true) : Cs (w.setCell ⟨g, i, none⟩ v) g (cs.set i v) := by
  obtain ⟨⟨t, h⟩, h1⟩ := h
  refine ⟨⟨t, ?_⟩, fun x hx => ?_⟩
  · rw [setCell_eq_setRow w g i _ t (0, 0) _ h, setRow_heap w g _ _ t _ h]
    simp
  · rcases List.mem_or_eq_of_mem_set hx with hx | rfl
    · exact h1 x hx
    · exact hv
theorem Cs.ne {g' : Nat} {cs' : List Value} (h : Cs w g cs) (h' : Cs w g' cs') (hl : cs.length ≠ cs'.length) : g ≠ g' := fun e => by
  obtain ⟨⟨t, h⟩, _⟩ := h
  obtain ⟨⟨t', h'⟩, _⟩ := h'
  rw [e, h'] at h
  injection h with h
  injection h with h _ _
  exact hl (by rw [← List.size_toArray, ← h, List.size_toArray])
theorem Cs.notMap {P : Program} {K : TypeId} {b : Nat} {f : Int → Option Value} (h : Cs w g cs) (hm : MpI P K w b f) : g ≠ b := fun e => by
  obtain ⟨⟨t, h⟩, _⟩ := h
  obtain ⟨D, ⟨es, clock, hh, _⟩, _⟩ := hm
  rw [e, hh] at h; cases h
theorem Cs.setCells (h : Cs w g cs) (o : Nat) (vs : List Value) (hl : o + vs.length ≤ cs.length) (h1 : ∀ v ∈ vs, v.oneCell' = true) : Cs (w.setCells g o vs) g (cs.take o ++ vs ++ cs.drop (o + vs.length)) := by
  obtain ⟨⟨t, h⟩, h2⟩ := h
  have := setCells_heap vs h (by simpa using hl) h1
  refine ⟨⟨t, by simpa using this⟩, fun v hv => ?_⟩
  rcases List.mem_append.1 hv with hv | hv
  · rcases List.mem_append.1 hv with hv | hv
    · exact h2 v (List.mem_of_mem_take hv)
    · exact h1 v hv
  · exact h2 v (List.mem_of_mem_drop hv)
end
structure Srt (T : TypeId) (n : Nat) (z : List Value) : Prop where
  und : ∃ d, Tryz.prog.underlying T = some d ∧ d.isRow = true
  size : (Tryz.prog.info? T).map (·.size) = some n
  zero : ∀ w, (zeroValue T).run Tryz.prog w = .ok (.agg z.toArray) w
  len : z.length = n
  one : ∀ v ∈ z, v.oneCell' = true
theorem loadC {T n : Nat} {z : List Value} (hT : Srt T n z) {w : World} {g : Nat} {cs : List Value} (h : Cs w g cs) (hl : cs.length = n) : (loadVar T ⟨g, 0, none⟩).run Tryz.prog w = .ok (.agg cs.toArray) w := by
  obtain ⟨d, h1, h2⟩ := hT.und
  exact run_loadVar_mid w g 0 _ cs _ h.range h1 h2 (by rw [hT.size]; simp [hl])
theorem Cs.setAll {w : World} {g : Nat} {cs : List Value} (h : Cs w g cs) (cs' : List Value) (hl : cs'.length = cs.length) (h1 : ∀ v ∈ cs', v.oneCell' = true) : Cs (w.setCells g 0 cs') g cs' := by
  have := h.setCells 0 cs' (by omega) h1
  have e : cs.take 0 ++ cs' ++ cs.drop (0 + cs'.length) = cs' := by rw [Nat.zero_add, hl]; simp
  rwa [e] at this
theorem storeC {T n : Nat} {z : List Value} (hT : Srt T n z) {w : World} {g : Nat} {cs : List Value} (h : Cs w g cs) (hl : cs.length = n) (cs' : List Value) (hl' : cs'.length = n) (h1 : ∀ v ∈ cs', v.oneCell' = true) :
    (storeVar T ⟨g, 0, none⟩ (.agg cs'.toArray)).run Tryz.prog w = .ok () (w.setCells g 0 cs') :=
  run_storeVar_mid w g 0 _ cs'.toArray (by have := h.there; simpa [hl, hl'] using this) (by rw [hT.size]; simp [hl']) (all_oneCell_toArray h1)
section
variable {ops : Array Oper} {rest : List Oper} {o : Oper} {a : Act} {w : World} {Q : Exit → Act → World → Prop}
theorem at_newC (T n : Nat) (z : List Value) (hT : Srt T n z) (hw : Region.wanted o (yielded ops a.tmps) = true) (ho : o.op = .alloc T)
    (h : ∀ g w', w.heap.size ≤ g → g < w'.heap.size → Cs w' g z → Below w.heap.size w w' → wpList Tryz.prog ops Q rest (a.put o.dst (.pointer (some ⟨g, 0, none⟩))) w') : wpList Tryz.prog ops Q (o :: rest) a w := by
  refine op_val hw _ _ ?_ (h w.heap.size (w.alloc (.cells z.toArray T)) (Nat.le_refl _) (by simp) (Cs.made _ _ _ hT.one) ((Below.refl _ _).alloc (Nat.le_refl _) _))
  have : (Instr.alloc T true (.tuple #[])).run Tryz.prog w = .ok (.pointer (some ⟨w.heap.size, 0, none⟩)) (w.alloc (.cells z.toArray T)) := by
    unfold Instr.alloc; rw [Sem.run_bind, hT.zero]; rfl
  simp only [execOp, ho, Sem.run_bind, this]; rfl
theorem at_boxC (T : Nat) (hw : Region.wanted o (yielded ops a.tmps) = true) (x : Operand) (ho : o.op = .box T x) (cs : List Value) (hx : a.eval x = .agg cs.toArray) (h1 : ∀ v ∈ cs, v.oneCell' = true)
    (h : ∀ g w', w.heap.size ≤ g → g < w'.heap.size → Cs w' g cs → Below w.heap.size w w' → wpList Tryz.prog ops Q rest (a.put o.dst (.pointer (some ⟨g, 0, none⟩))) w') : wpList Tryz.prog ops Q (o :: rest) a w := by
  refine op_val hw _ _ ?_ (h w.heap.size (w.alloc (.cells cs.toArray T)) (Nat.le_refl _) (by simp) (Cs.made _ _ _ h1) ((Below.refl _ _).alloc (Nat.le_refl _) _))
  have : (Instr.box T (.agg cs.toArray)).run Tryz.prog w = .ok (.pointer (some ⟨w.heap.size, 0, none⟩)) (w.alloc (.cells cs.toArray T)) := by
    simp [Instr.box, newVar, Value.cells, go_sem]
  simp only [execOp, ho, hx, Sem.run_bind, this]; rfl
theorem at_getC (T n : Nat) (z : List Value) (hT : Srt T n z) (hw : Region.wanted o (yielded ops a.tmps) = true) (x : Operand) (ho : o.op = .load T x) (g : Nat) (hx : a.eval x = .pointer (some ⟨g, 0, none⟩)) (cs : List Value) (hR : Cs w g cs) (hl : cs.length = n)
    (h : wpList Tryz.prog ops Q rest (a.put o.dst (.agg cs.toArray)) w) : wpList Tryz.prog ops Q (o :: rest) a w := by
  refine op_val hw _ _ ?_ h
  simp [execOp, ho, hx, Instr.loadAt, Instr.sureAddr, loadC hT hR hl]
theorem at_putC (T n : Nat) (z : List Value) (hT : Srt T n z) (hw : Region.wanted o (yielded ops a.tmps) = true) (x y : Operand) (ho : o.op = .store T x y) (g : Nat) (hx : a.eval x = .pointer (some ⟨g, 0, none⟩)) (cs' : List Value) (hy : a.eval y = .agg cs'.toArray) (hl' : cs'.length = n) (h1 : ∀ v ∈ cs', v.oneCell' = true) (cs : List Value) (hR : Cs w g cs) (hl : cs.length = n)
    (h : ∀ w', Cs w' g cs' → Stp (fun x => x = g) w w' → wpList Tryz.prog ops Q rest (a.put o.dst undef) w') : wpList Tryz.prog ops Q (o :: rest) a w := by
  refine op_unit hw _ ?_ (h (w.setCells g 0 cs') (hR.setAll cs' (by omega) h1) (stp_setCells _ _ _ _))
  simp only [execOp, ho, hx, hy, Instr.storeAt, Instr.sureAddr, Sem.run_bind, Sem.run_pure, Result.andThen_ok]
  rw [storeC hT hR hl cs' hl' h1]; rfl
theorem at_makeM (T : Nat) (hw : Region.wanted o (yielded ops a.tmps) = true) (ho : o.op = .makeMap T none)
    (h : ∀ b w', w.heap.size ≤ b → MpI Tryz.prog 3 w' b (fun _ => none) → Below w.heap.size w w' → wpList Tryz.prog ops Q rest (a.put o.dst (.map (some b))) w') : wpList Tryz.prog ops Q (o :: rest) a w := by
  refine op_val hw _ _ ?_ (h w.heap.size (w.alloc (.map #[] 0)) (Nat.le_refl _) (MpI.made w _ _) ((Below.refl _ _).alloc (Nat.le_refl _) _))
  have : (Instr.makeMap T none).run Tryz.prog w = .ok (.map (some w.heap.size)) (w.alloc (.map #[] 0)) := rfl
  simp [execOp, ho, this]
end
theorem uIntC : Tryz.prog.underlying 3 = some (.int .i64) := by kernel_rfl
theorem MpI.later {P : Program} {K : TypeId} {w w' : World} {b : Nat} {f : Int → Option Value} (h : MpI P K w b f) (k : Below w.heap.size w w') : MpI P K w' b f := h.step (Stp.of_below k (fun _ => False)) id
section
variable {ops : Array Oper} {o : Oper} {a : Act} {w : World} {S : World → Prop} {K : Act → World → Prop} {Q : Exit → Act → World → Prop} {E : Prop}
theorem yields_C (T n : Nat) (z : List Value) (hT : Srt T n z) (hw : Region.wanted o (yielded ops a.tmps) = true) (x : Operand) (ho : o.op = .load T x) (g : Nat) (hx : a.eval x = .pointer (some ⟨g, 0, none⟩)) (cs : List Value) (hl : cs.length = n) (hS : ∀ w, S w → Cs w g cs) :
    YieldsIf Tryz.prog ops S o (.agg cs.toArray) a := by
  obtain ⟨d, h1, h2⟩ := hT.und
  exact yieldsIf_load_mid hw T x ho g 0 hx cs _ (fun w h => (hS w h).range) h1 h2 (by rw [hT.size]; simp [hl])
theorem yields_M (T E : Nat) (hT : Tryz.prog.underlying T = some (.map 3 E)) (z : Value) (hz : ∀ w, (zeroValue E).run Tryz.prog w = .ok z w) (hw : Region.wanted o (yielded ops a.tmps) = true) (m x : Operand) (ho : o.op = .lookup T m x false) (b : Nat) (f : Int → Option Value) (hm : a.eval m = .map (some b)) (k : Int) (hx : a.eval x = .int .i64 k) (hk : (Lit.int .i64 k).wf = true) (hS : ∀ w, S w → MpI Tryz.prog 3 w b f) :
    YieldsIf Tryz.prog ops S o ((f k).getD z) a := by
  refine Or.inl ⟨hw, fun w hs => ?_⟩
  simp [execOp, ho, hm, hx, (hS w hs).look uIntC hT (hz w) hk]
end
section
variable {fn : Func} {p u v : Tmp} {tmps : Array Value} {w : World} {g T n : Nat} {z cs : List Value} {x y : Value}
theorem retCt (hT : Srt T n z) (h : fn.results = #[.cell p T, .tmp u]) (hp : tmps.getD p undef = .pointer (some ⟨g, 0, none⟩)) (hu : tmps.getD u undef = x) (hR : Cs w g cs) (hl : cs.length = n) : (results fn tmps).run Tryz.prog w = .ok (.tuple #[.agg cs.toArray, x]) w := by
  have hp' : tmps[p]?.getD undef = .pointer (some ⟨g, 0, none⟩) := by simpa using hp
  have hu' : tmps[u]?.getD undef = x := by simpa using hu
  simp [results, h, hp', hu', asAddr, loadC hT hR hl]
end
section
variable {ops : Array Oper} {rest : List Oper} {o : Oper} {a : Act} {w : World} {Q : Exit → Act → World → Prop}
theorem at_setC (T : Nat) (k : IntKind) (hs : ∀ w, (sizeOf T).run Tryz.prog w = .ok 1 w) (hw : Region.wanted o (yielded ops a.tmps) = true) (x y : Operand) (ho : o.op = .store T x y) (g i : Nat) (hx : a.eval x = .pointer (some ⟨g, i, none⟩)) (n : Int) (hy : a.eval y = .int k n) (cs : List Value) (hR : Cs w g cs) (hi : i < cs.length)
    (h : ∀ w', Cs w' g (cs.set i (.int k n)) → Stp (fun x => x = g) w w' → wpList Tryz.prog ops Q rest (a.put o.dst undef) w') : wpList Tryz.prog ops Q (o :: rest) a w := by
  refine op_unit hw _ ?_ (h (w.setCell ⟨g, i, none⟩ (.int k n)) (hR.set i _ rfl) ((Stp.refl (fun x => x = g) w).setCell (p := ⟨g, i, none⟩) (.inl rfl) _))
  have hc := hR.cell i _ (List.getElem?_eq_getElem hi)
  have hf := hR.frozen i
  simp [execOp, ho, hx, hy, Instr.storeAt, Instr.sureAddr]
  go_simp
theorem at_getP (T m : Nat) (hT : ∃ d, Tryz.prog.underlying T = some d ∧ d.isRow = true) (hs : (Tryz.prog.info? T).map (·.size) = some m) (hw : Region.wanted o (yielded ops a.tmps) = true) (x : Operand) (ho : o.op = .load T x) (g i : Nat) (hx : a.eval x = .pointer (some ⟨g, i, none⟩)) (cs : List Value) (hR : Cs w g cs) (part : List Value) (hp : part = (cs.drop i).take m) (hl : part.length = m)
    (h : wpList Tryz.prog ops Q rest (a.put o.dst (.agg part.toArray)) w) : wpList Tryz.prog ops Q (o :: rest) a w := by
  refine op_val hw _ _ ?_ h
  obtain ⟨d, h1, h2⟩ := hT
  have hr : w.rangeAt g i part := fun j v hv => by
    subst hp
    have hj := (List.getElem?_eq_some_iff.1 hv).1
    rw [hl] at hj
    rw [List.getElem?_take, if_pos hj, List.getElem?_drop] at hv
    exact hR.cell (i + j) v hv
  have : (loadVar T ⟨g, i, none⟩).run Tryz.prog w = .ok (.agg part.toArray) w := run_loadVar_mid w g i _ part _ hr h1 h2 (by rw [hs]; simp [hl])
  simp [execOp, ho, hx, Instr.loadAt, Instr.sureAddr, this]
end
section
variable {ops : Array Oper} {o : Oper} {a : Act} {w : World} {K : Act → World → Prop} {Q : Exit → Act → World → Prop} {E : Prop}
theorem step_newC (T n : Nat) (z : List Value) (hT : Srt T n z) (hgd : o.guard = none) (ho : o.op = .alloc T)
    (h : ∀ g w', w.heap.size ≤ g → g < w'.heap.size → Cs w' g z → Below w.heap.size w w' → K (a.put o.dst (.pointer (some ⟨g, 0, none⟩))) w') : if Region.wanted o (yielded ops a.tmps) = true then Oper.wp Tryz.prog o a w K Q else E := by
  have hw : Region.wanted o (yielded ops a.tmps) = true := by simp [Region.wanted, hgd]
  rw [if_pos hw]
  have hi : (Instr.alloc T true (.tuple #[])).run Tryz.prog w = .ok (.pointer (some ⟨w.heap.size, 0, none⟩)) (w.alloc (.cells z.toArray T)) := by
    unfold Instr.alloc; rw [Sem.run_bind, hT.zero]; rfl
  have hr : (execOp a.eval o).run Tryz.prog w = .ok (.value (.pointer (some ⟨w.heap.size, 0, none⟩))) (w.alloc (.cells z.toArray T)) := by
    simp only [execOp, ho, Sem.run_bind, hi]; rfl
  unfold Oper.wp
  rw [hr]
  exact h w.heap.size _ (Nat.le_refl _) (by simp) (Cs.made _ _ _ hT.one) ((Below.refl _ _).alloc (Nat.le_refl _) _)
theorem step_putC (T n : Nat) (z : List Value) (hT : Srt T n z) (hgd : o.guard = none) (x y : Operand) (ho : o.op = .store T x y) (g : Nat) (hx : a.eval x = .pointer (some ⟨g, 0, none⟩)) (cs' : List Value) (hy : a.eval y = .agg cs'.toArray) (hl' : cs'.length = n) (h1 : ∀ v ∈ cs', v.oneCell' = true) (cs : List Value) (hR : Cs w g cs) (hl : cs.length = n)
    (h : ∀ w', Cs w' g cs' → Stp (fun x => x = g) w w' → K (a.put o.dst undef) w') : if Region.wanted o (yielded ops a.tmps) = true then Oper.wp Tryz.prog o a w K Q else E := by
  have hw : Region.wanted o (yielded ops a.tmps) = true := by simp [Region.wanted, hgd]
  rw [if_pos hw]
  have hr : (execOp a.eval o).run Tryz.prog w = .ok .skip (w.setCells g 0 cs') := by
    simp only [execOp, ho, hx, hy, Instr.storeAt, Instr.sureAddr, Sem.run_bind, Sem.run_pure, Result.andThen_ok]
    rw [storeC hT hR hl cs' hl' h1]; rfl
  unfold Oper.wp
  rw [hr]
  exact h _ (hR.setAll cs' (by omega) h1) (stp_setCells _ _ _ _)
end
section
variable {fn : Func} {p u v : Tmp} {tmps : Array Value} {w : World} {g T n : Nat} {z cs : List Value} {x y : Value}
theorem retC (hT : Srt T n z) (h : fn.results = #[.cell p T]) (hp : tmps.getD p undef = .pointer (some ⟨g, 0, none⟩)) (hR : Cs w g cs) (hl : cs.length = n) : (results fn tmps).run Tryz.prog w = .ok (.agg cs.toArray) w := by
  have hp' : tmps[p]?.getD undef = .pointer (some ⟨g, 0, none⟩) := by simpa using hp
  simp [results, h, hp', asAddr, loadC hT hR hl]
end
theorem u3 : Tryz.prog.underlying 3 = some (.int .i64) := by kernel_rfl
section
variable {ops : Array Oper} {rest : List Oper} {o : Oper} {a : Act} {w : World} {Q : Exit → Act → World → Prop}
theorem at_drop {t : TypeId} {b : Nat} {k : Int} {R : World → Prop} (hw : Region.wanted o (yielded ops a.tmps) = true) (x y : Operand) (ho : o.op = Op.call { callee := Callee.builtin Builtin.delete, args := #[x, y], argTypes := #[t, 3] })
    (hx : a.eval x = .map (some b)) (hy : a.eval y = .int .i64 k) (hd : ∀ ty, ∃ w', (Builtin.delete_ #[t, 3] ty #[.map (some b), .int .i64 k]).run Tryz.prog w = .ok (.tuple #[]) w' ∧ R w')
    (h : ∀ w', R w' → wpList Tryz.prog ops Q rest (a.put o.dst (.tuple #[])) w') : wpList Tryz.prog ops Q (o :: rest) a w := by
  obtain ⟨w', hr, hR⟩ := hd o.type
  refine op_val hw _ w' ?_ (h w' hR)
  simp [execOp, ho, resolve, invoke, builtin, hx, hy, hr, Result.andThen]
end
theorem turned_stp {w w' : World} {b : Nat} (h : w.mapTurned w' b) : Stp (fun x => x = b) w w' := Stp.of_grown h.grown (by rintro x e; injection e with e; exact .inl e.symm)
end Go.Proofs.YtgdnhkdfcjpdiaaGreatDoor
