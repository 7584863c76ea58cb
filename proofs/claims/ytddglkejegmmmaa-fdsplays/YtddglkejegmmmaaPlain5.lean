/-
  Plain words of my own on blocks of 64 bytes, on maps keyed by numbers, and on what a step of memory keeps: no statement is proved here.
-/
import Derived.Test.YtddglkejegmmmaaPlain4
import Derived.Deep.MidRow
import Derived.Deep.WholeRow
import Derived.Maps.RangeWalk
import Derived.Deep.AppendLies
import Derived.Stop.BytesEq
namespace Go.Proofs.Ytddglkejegmmmaa
open Go.ChangeShapes Go.WideShapes Go.ChangeAt Go.RowKit
set_option linter.unusedVariables false

/-- A block of 64 bytes. -/
abbrev Blk := { l : List UInt8 // l.length = 64 }
abbrev Blk.l (b : Blk) : List UInt8 := b.val
theorem Blk.len (b : Blk) : b.l.length = 64 := b.property
theorem Blk.ext {a b : Blk} (h : a.l = b.l) : a = b := Subtype.ext h
def Blk.zero : Blk := ⟨List.replicate 64 0, by simp⟩
/-- Its cells. -/
def Blk.cs (b : Blk) : List Value := b.l.map Extern.Stop.cell
theorem Blk.cs_len (b : Blk) : b.cs.length = 64 := by unfold Blk.cs; rw [List.length_map, b.len]
theorem Blk.cs_one (b : Blk) : ∀ v ∈ b.cs, v.oneCell' = true := by
  intro v hv; unfold Blk.cs at hv; obtain ⟨x, _, rfl⟩ := List.mem_map.1 hv; rfl
theorem Blk.beq (a b : Blk) : (a.l == b.l) = decide (a = b) := by
  by_cases h : a = b
  · subst h; simp
  · have : a.l ≠ b.l := fun e => h (Blk.ext e)
    simp [h, this]
theorem Blk.arr (b : Blk) : b.cs.toArray.all (·.oneCell') = true := all_oneCell_toArray b.cs_one

/-- From w to w' no block changed but those of F; blocks may have come; the streams are as they were. -/
structure Stp (F : Nat → Prop) (w w' : World) : Prop where
  os : w'.os = w.os
  tape : w'.tape = w.tape
  output : w'.output = w.output
  size : w.heap.size ≤ w'.heap.size
  block : ∀ k, k < w.heap.size → ¬ F k → w'.heap[k]? = w.heap[k]?
section
variable {F F' : Nat → Prop} {w w' a b c : World}
theorem Stp.refl (F : Nat → Prop) (w : World) : Stp F w w := ⟨rfl, rfl, rfl, Nat.le_refl _, fun _ _ _ => rfl⟩
theorem Stp.next (h : Stp F a b) (k : Stp F' b c) (hB : ∀ x, F' x → F x ∨ a.heap.size ≤ x) : Stp F a c :=
  ⟨k.os.trans h.os, k.tape.trans h.tape, k.output.trans h.output, Nat.le_trans h.size k.size, fun i hi hn => by
    rw [k.block i (Nat.lt_of_lt_of_le hi h.size) (fun hm => by rcases hB i hm with e | e; exact hn e; omega), h.block i hi hn]⟩
theorem Stp.trans (h : Stp F a b) (k : Stp F b c) : Stp F a c := h.next k fun _ h => .inl h
theorem Stp.mono (h : Stp F a b) (hB : ∀ x, F x → F' x ∨ a.heap.size ≤ x) : Stp F' a b := (Stp.refl F' a).next h hB
theorem Stp.of_below (h : Below w.heap.size w w') (F : Nat → Prop) : Stp F w w' := ⟨h.os, h.tape, h.output, h.size, fun k hk _ => h.block k hk⟩
theorem Stp.of_step {B : List Nat} (h : Step B w w') (hB : ∀ x ∈ B, F x ∨ w.heap.size ≤ x) : Stp F w w' :=
  ⟨h.os, h.tape, h.output, h.size, fun k hk hn => h.block k hk (fun hm => by rcases hB k hm with e | e; exact hn e; omega)⟩
theorem Stp.of_grown {row : Option Nat} (h : w.grownBy w' row) (hr : ∀ x, row = some x → F x ∨ w.heap.size ≤ x) : Stp F w w' :=
  ⟨h.os, h.tape, h.output, h.size, fun k hk hn => h.block k hk (fun e => by rcases hr k e.symm with e | e; exact hn e; omega)⟩
theorem Stp.of_alloc (w : World) (o : Obj) (F : Nat → Prop) : Stp F w (w.alloc o) := Stp.of_below ((Below.refl _ w).alloc (Nat.le_refl _) o) F
theorem Stp.alloc (h : Stp F a w) (o : Obj) : Stp F a (w.alloc o) := h.trans (Stp.of_alloc w o F)
theorem Stp.setCell (h : Stp F a w) {p : Addr} (hp : F p.block ∨ a.heap.size ≤ p.block) (u : Value) : Stp F a (w.setCell p u) :=
  h.next (F' := fun x => x = p.block) ⟨rfl, rfl, rfl, by simp, fun k hk hn => Below.heap_setCell w p u k hn⟩ (by rintro x rfl; exact hp)
theorem heap_setCells (g : Nat) : ∀ (vs : List Value) (o : Nat) (w : World) (k : Nat), k ≠ g → (w.setCells g o vs).heap[k]? = w.heap[k]?
  | [], _, _, _, _ => rfl
  | v :: r, o, w, k, h => by rw [World.setCells, heap_setCells g r (o + 1) _ k h, Below.heap_setCell w _ _ _ h]
theorem size_setCells (g : Nat) : ∀ (vs : List Value) (o : Nat) (w : World), (w.setCells g o vs).heap.size = w.heap.size
  | [], _, _ => rfl
  | v :: r, o, w => by rw [World.setCells, size_setCells g r (o + 1)]; simp
theorem strm_setCells (g : Nat) : ∀ (vs : List Value) (o : Nat) (w : World), (w.setCells g o vs).os = w.os ∧ (w.setCells g o vs).tape = w.tape ∧ (w.setCells g o vs).output = w.output
  | [], _, _ => ⟨rfl, rfl, rfl⟩
  | v :: r, o, w => by rw [World.setCells]; exact strm_setCells g r (o + 1) _
theorem Stp.of_setCells (w : World) (g o : Nat) (vs : List Value) (hg : F g ∨ w.heap.size ≤ g) : Stp F w (w.setCells g o vs) :=
  ⟨(strm_setCells g vs o w).1, (strm_setCells g vs o w).2.1, (strm_setCells g vs o w).2.2, by rw [size_setCells]; exact Nat.le_refl _, fun k hk hn => heap_setCells g vs o w k (fun e => by subst e; rcases hg with e | e; exact hn e; omega)⟩
theorem Stp.drew (h : Stp F a w) : Stp F a w.drew := ⟨h.os, h.tape, h.output, h.size, h.block⟩
theorem Stp.drewN (h : Stp F a w) (k : Nat) : Stp F a (w.drewN k) := ⟨h.os, h.tape, h.output, h.size, h.block⟩
theorem Stp.cell (h : Stp F w w') {p : Addr} {v : Value} (hc : w.cell? p = some v) (hp : ¬ F p.block) : w'.cell? p = some v := by
  rw [World.cell?_of_block (w := w) (h.block p.block (World.block_lt_of_cell? w p hc) hp)]; exact hc
theorem Stp.frozen (h : Stp F w w') {p : Addr} (hl : p.block < w.heap.size) (hp : ¬ F p.block) : w'.frozen? p = w.frozen? p :=
  World.frozen?_of_block (w := w) (h.block p.block hl hp)
theorem Stp.below {N : Nat} (h : Stp F w w') (hN : N ≤ w.heap.size) (hB : ∀ x, F x → N ≤ x) : Below N w w' :=
  ⟨h.os, h.tape, h.output, h.size, fun k hk => h.block k (by omega) (fun hm => by have := hB k hm; omega)⟩
theorem Stp.range (h : Stp F w w') {g o : Nat} {cs : List Value} (hc : w.rangeAt g o cs) (hp : ¬ F g) : w'.rangeAt g o cs := fun j v hv => h.cell (hc j v hv) hp
theorem Stp.there (h : Stp F w w') {g o n : Nat} (hc : w.there g o n) (hp : ¬ F g) : w'.there g o n := fun j hj => by
  obtain ⟨h1, h2⟩ := hc j hj
  obtain ⟨u, hu⟩ := Option.isSome_iff_exists.1 h1
  exact ⟨by rw [h.cell hu hp]; rfl, by rw [h.frozen (p := ⟨g, o + j, none⟩) (World.block_lt_of_cell? w _ hu) hp]; exact h2⟩
end
/-- What an object takes behind a step: of what it had, or of what has come. -/
def Grew (F F' : Nat → Prop) (w w' : World) : Prop := ∀ x, F' x → F x ∨ (w.heap.size ≤ x ∧ x < w'.heap.size)
theorem Grew.refl (F : Nat → Prop) (w w' : World) : Grew F F w w' := fun _ h => .inl h
theorem Grew.trans {F F' F'' : Nat → Prop} {a b c : World} (h : Grew F F' a b) (k : Grew F' F'' b c) (h1 : a.heap.size ≤ b.heap.size) (h2 : b.heap.size ≤ c.heap.size) : Grew F F'' a c := fun x hx => by
  rcases k x hx with e | e
  · rcases h x e with e | e
    · exact .inl e
    · exact .inr ⟨e.1, by omega⟩
  · exact .inr ⟨by omega, e.2⟩
/-- It came behind a world and lies there whole. -/
theorem made_range (w : World) (cs : List Value) (t : TypeId) : (w.alloc (.cells cs.toArray t)).rangeAt w.heap.size 0 cs := fun j v hv => by
  rw [cell_of_row _ _ (0 + j) cs.toArray t (0, 0) (heap_alloc_new w _)]; simpa using hv
theorem made_there (w : World) (cs : Array Value) (t : TypeId) : (w.alloc (.cells cs t)).there w.heap.size 0 cs.size := fun j hj => by
  refine ⟨?_, by simp [go_sem]⟩
  rw [cell_of_row _ _ (0 + j) cs t (0, 0) (heap_alloc_new w _)]; simp [hj]

/-- Numbers as keys. -/
def keyI (k : Int) : Lit := .int .i64 k
theorem keyI_ne {a b : Int} (h : a ≠ b) : keyI a ≠ keyI b := fun e => h (by injection e)
theorem keyI_key (k : Int) : WideAt.IsKeyLit (keyI k) := trivial
theorem keyI_same (a b : Int) : (keyI a).sameKey (keyI b) = decide (a = b) := by
  by_cases h : a = b
  · subst h; rw [WideAt.sameKey_self (keyI_key a)]; simp
  · rw [Maps.sameKey_ne (keyI_ne h)]; simp [h]
/-- A map's elements, held as they are. -/
def heldElem (v : Value) : Option (DataW Value × List MemPlace) := some (.held v, [])
/-- What a map reads as: the elements at the keys. -/
def Reads (D : DataW Value) (f : Int → Option Value) : Prop :=
  ∀ k, match f k with
    | none => Maps.has D (keyI k) = false
    | some v => ∀ z, D.atKey (keyI k) z = .held v
theorem Reads.none {D : DataW Value} {f : Int → Option Value} (h : Reads D f) {k : Int} (e : f k = none) : Maps.has D (keyI k) = false := by have := h k; rw [e] at this; exact this
theorem Reads.some {D : DataW Value} {f : Int → Option Value} (h : Reads D f) {k : Int} {v : Value} (e : f k = some v) (z : DataW Value) : D.atKey (keyI k) z = .held v := by have := h k; rw [e] at this; exact this z
theorem Reads.has {D : DataW Value} {f : Int → Option Value} (h : Reads D f) (k : Int) : Maps.has D (keyI k) = (f k).isSome := by
  cases e : f k with
  | none => rw [h.none e]; rfl
  | some v => rw [Maps.has_true_of_atKey (h.some e)]; rfl
theorem reads_empty : Reads (.map []) (fun _ => Option.none) := fun k => rfl
def upd (f : Int → Option Value) (k : Int) (v : Option Value) : Int → Option Value := fun x => if x = k then v else f x
theorem Reads.put {D : DataW Value} {f : Int → Option Value} (h : Reads D f) (hD : Maps.IsMap D) (k : Int) (v : Value) : Reads (D.put (keyI k) (.held v)) (upd f k (Option.some v)) := fun x => by
  unfold upd
  by_cases e : x = k
  · subst e; simp only [if_true]; intro z; exact Maps.atKey_put_same hD (keyI_key x) _ z
  · rw [if_neg e]
    cases ef : f x with
    | none => simp only []; rw [Maps.has_put_other (keyI_ne e)]; exact h.none ef
    | some u => intro z; rw [Maps.atKey_put_other (keyI_ne e)]; exact h.some ef z
theorem Reads.del {D : DataW Value} {f : Int → Option Value} (h : Reads D f) (k : Int) : Reads (D.del (keyI k)) (upd f k Option.none) := fun x => by
  unfold upd
  by_cases e : x = k
  · subst e; simp only [if_true]; exact Maps.has_del_same
  · rw [if_neg e]
    cases ef : f x with
    | none => simp only []; rw [Maps.has_del_other (keyI_ne e)]; exact h.none ef
    | some u => intro z; rw [Maps.atKey_del_other (keyI_ne e)]; exact h.some ef z
theorem Reads.inj {D : DataW Value} {f g : Int → Option Value} (h : Reads D f) (k : Reads D g) : f = g := by
  funext x
  have e1 := h.has x; have e2 := k.has x
  cases ef : f x with
  | none => rw [ef] at e1; rw [e1] at e2; cases eg : g x; rfl; rw [eg] at e2; cases e2
  | some u =>
    cases eg : g x with
    | none => rw [ef] at e1; rw [eg] at e2; rw [e1] at e2; cases e2
    | some v => have := (h.some ef .nil).symm.trans (k.some eg .nil); injection this with this; rw [this]

/-- Block b is a map keyed by numbers (of type K) that holds f; at most 4096 entries. -/
def MpI (P : Program) (K : TypeId) (w : World) (b : Nat) (f : Int → Option Value) : Prop :=
  ∃ D, w.ownsMap P K heldElem b 4096 D ∧ Reads D f
/-- .. and block r ranges over it; 'left' are the keys still to come, cnt many. -/
def RgI (P : Program) (K : TypeId) (w : World) (b r : Nat) (f : Int → Option Value) (left : Int → Bool) (cnt : Nat) : Prop :=
  ∃ D lf, w.ranges P K heldElem b r 4096 D lf cnt ∧ Reads D f ∧ ∀ k, lf (keyI k) = left k
section
variable {P : Program} {K E t : TypeId} {w w' : World} {b r : Nat} {f : Int → Option Value} {left : Int → Bool} {cnt : Nat} {F : Nat → Prop}
theorem Stp.grownNone (h : Stp F w w') {b : Nat} (hb : ¬ F b) (hl : b < w.heap.size) : w'.heap[b]? = w.heap[b]? := h.block b hl hb
theorem MpI.lt (h : MpI P K w b f) : b < w.heap.size := by obtain ⟨D, h, _⟩ := h; exact h.lt
theorem MpI.step (h : MpI P K w b f) (k : Stp F w w') (hb : ¬ F b) : MpI P K w' b f := by
  have hl := h.lt
  obtain ⟨D, ⟨es, clock, hh, rest⟩, hR⟩ := h
  exact ⟨D, ⟨es, clock, (k.block b hl hb).trans hh, rest⟩, hR⟩
theorem MpI.notCell (h : MpI P K w b f) {p : Addr} {v : Value} (hc : w.cell? p = some v) : p.block ≠ b := fun e => by
  obtain ⟨D, ⟨es, clock, hh, _⟩, _⟩ := h
  unfold World.cell? at hc; rw [e, hh] at hc; simp at hc
theorem RgI.mp (h : RgI P K w b r f left cnt) : MpI P K w b f := by obtain ⟨D, lf, h, hR, _⟩ := h; exact ⟨D, h.owns, hR⟩
theorem RgI.rlt (h : RgI P K w b r f left cnt) : r < w.heap.size := by obtain ⟨D, lf, h, _⟩ := h; exact h.lt
theorem RgI.step (h : RgI P K w b r f left cnt) (k : Stp F w w') (hb : ¬ F b) (hr : ¬ F r) : RgI P K w' b r f left cnt := by
  have hl := h.mp.lt
  have hl2 := h.rlt
  obtain ⟨D, lf, ⟨es, clock, since, seen, c0, hh, a1, a2, a3, hh2, rest⟩, hR⟩ := h
  exact ⟨D, lf, ⟨es, clock, since, seen, c0, (k.block b hl hb).trans hh, a1, a2, a3, (k.block r hl2 hr).trans hh2, rest⟩, hR⟩
theorem RgI.left_eq (h : RgI P K w b r f left cnt) : w.rangeLeft b r = cnt := by obtain ⟨D, lf, h, _⟩ := h; exact h.left_eq

theorem wfI {k : Int} (h : (Lit.int .i64 k).wf = true) (hk : P.underlying K = some (.int .i64)) : keyOf P K (.int .i64 k) = some (keyI k) := Maps.keyOf_int_mk hk h
/-- Made. -/
theorem MpI.made (w : World) (P : Program) (K : TypeId) : MpI P K (w.alloc (.map #[] 0)) w.heap.size (fun _ => Option.none) :=
  ⟨_, (World.ownsMap_made w P K heldElem).mono (by omega), reads_empty⟩
/-- Looked up. -/
theorem MpI.look (h : MpI P K w b f) (hk : P.underlying K = some (.int .i64)) (ht : P.underlying t = some (.map K E)) {z : Value} (hz : (zeroValue E).run P w = .ok z w) {k : Int} (hw : (Lit.int .i64 k).wf = true) :
    (Instr.lookup t (.map (some b)) (.int .i64 k) false).run P w = .ok ((f k).getD z) w := by
  obtain ⟨D, h, hR⟩ := h
  obtain ⟨v, ps, h1, h2⟩ := h.lookup (Maps.int_keyed hk) ht hz (zd := .held z) (zp := []) rfl (wfI hw hk)
  rw [h1]
  have e : DataW.held v = D.atKey (keyI k) (.held z) := by injection h2 with h2; injection h2
  cases ef : f k with
  | none => rw [Maps.atKey_of_not_has (hR.none ef)] at e; injection e with e; rw [e]; rfl
  | some u => rw [hR.some ef] at e; injection e with e; rw [e]; rfl
/-- Numbers below n, none twice: at most n. -/
theorem few : ∀ (n : Nat) (l : List Nat), l.Pairwise (· ≠ ·) → (∀ x ∈ l, x < n) → l.length ≤ n
  | 0, l, _, h => by cases l with | nil => simp | cons a r => exact absurd (h a (by simp)) (by omega)
  | n + 1, l, hp, h => by
    have e := few n (l.filter fun x => decide (x ≠ n)) (hp.filter _) (fun x hx => by
      have := List.mem_filter.1 hx; have := h x this.1; simp at *; omega)
    have : l.length ≤ (l.filter fun x => decide (x ≠ n)).length + 1 := by
      clear e h
      induction l with
      | nil => simp
      | cons a r ih =>
        obtain ⟨h1, h2⟩ := List.pairwise_cons.1 hp
        by_cases ha : a = n
        · subst ha
          have : r.filter (fun x => decide (x ≠ a)) = r := List.filter_eq_self.2 (fun x hx => by simp; exact (h1 x hx).symm)
          simp only [List.filter_cons, ne_eq, not_true_eq_false, decide_false, Bool.false_eq_true, if_false, List.length_cons]
          rw [show (r.filter fun x => decide (¬ x = a)) = r from this]; omega
        · simp only [List.filter_cons, ne_eq, ha, not_false_eq_true, decide_true, if_true, List.length_cons]
          have := ih h2; simp only [ne_eq] at this; omega
    omega
/-- A map whose keys are all from 0 to below 2048 has at most 2048 entries. -/
theorem own_few {D : DataW Value} {n : Nat} (h : w.ownsMap P K heldElem b n D) (hk : P.underlying K = some (.int .i64)) (hR : Reads D f) (hf : ∀ k, (f k).isSome → 0 ≤ k ∧ k < 2048) : w.ownsMap P K heldElem b 2048 D := by
  obtain ⟨es, clock, hb, Ft, hs, hD⟩ := h
  refine ⟨es, clock, hb, Ft, ?_, hD⟩
  have keys : ∀ x ∈ es.toList, ∃ k : Int, x.key = .int .i64 k ∧ 0 ≤ k ∧ k < 2048 := fun x hx => by
    obtain ⟨y, hy⟩ := Ft.reads x hx
    obtain ⟨k, e1, e2, e3⟩ := Maps.keyOf_int_inv hk (WideElems.rd_key hy)
    refine ⟨k, e1, hf k ?_⟩
    rw [← hR.has k, hD]
    exact List.any_eq_true.2 ⟨WideElems.rg P K heldElem x, mem_sorted.2 (List.mem_map.2 ⟨x, hx, rfl⟩), by rw [WideElems.rg_of hy, e2]; exact WideAt.sameKey_self (keyI_key k)⟩
  have hp : (es.toList.map fun x => (match x.key with | .int _ k => k.toNat | _ => 0)).Pairwise (· ≠ ·) := by
    rw [List.pairwise_map]
    have hpw : es.toList.Pairwise (fun x y => x.key ≠ y.key) := ((MapKept.stamped_iff es clock).1 Ft.stamped).2.2
    refine List.Pairwise.imp_of_mem ?_ hpw
    intro x y hx hy hne e
    obtain ⟨k, e1, k0, _⟩ := keys x hx
    obtain ⟨k', e2, k1, _⟩ := keys y hy
    rw [e1, e2] at e hne
    simp only at e
    exact hne (by rw [show k = k' by omega])
  have := few 2048 _ hp (fun x hx => by
    obtain ⟨y, hy, rfl⟩ := List.mem_map.1 hx
    obtain ⟨k, e1, k0, k1⟩ := keys y hy
    rw [e1]; simp only; omega)
  simpa using this
/-- Stored. -/
theorem MpI.store (h : MpI P K w b f) (hk : P.underlying K = some (.int .i64)) (ht : P.underlying t = some (.map K E)) (hf : ∀ k, (f k).isSome → 0 ≤ k ∧ k < 2048) {k : Int} (hw : (Lit.int .i64 k).wf = true) (v : Value) :
    ∃ w', (Instr.mapUpdate t (.map (some b)) (.int .i64 k) v).run P w = .ok () w' ∧ MpI P K w' b (upd f k (some v)) ∧ w.mapTurned w' b := by
  obtain ⟨D, h, hR⟩ := h
  obtain ⟨w', h1, h2, h3⟩ := (own_few h hk hR hf).store (Maps.int_keyed hk) ht (by unfold maxLen; omega) (wfI hw hk) (val := v) (d := .held v) (ps := []) rfl
  exact ⟨w', h1, ⟨_, h2.mono (by omega), hR.put h.isMap k v⟩, h3⟩
/-- Deleted. -/
theorem MpI.drop (h : MpI P K w b f) (hk : P.underlying K = some (.int .i64)) (ht : P.underlying t = some (.map K E)) {k : Int} (hw : (Lit.int .i64 k).wf = true) (ty : TypeId) :
    ∃ w', (Builtin.delete_ #[t, K] ty #[.map (some b), .int .i64 k]).run P w = .ok (.tuple #[]) w' ∧ MpI P K w' b (upd f k none) ∧ w.mapTurned w' b := by
  obtain ⟨D, h, hR⟩ := h
  obtain ⟨w', h1, h2, h3⟩ := h.drop (Maps.int_keyed hk) ht (wfI hw hk) ty
  exact ⟨w', h1, ⟨_, h2, hR.del k⟩, h3⟩
theorem RgI.drop (h : RgI P K w b r f left cnt) (hk : P.underlying K = some (.int .i64)) (ht : P.underlying t = some (.map K E)) {k : Int} (hw : (Lit.int .i64 k).wf = true) (hl : left k = false) (ty : TypeId) :
    ∃ w' cnt', (Builtin.delete_ #[t, K] ty #[.map (some b), .int .i64 k]).run P w = .ok (.tuple #[]) w' ∧ RgI P K w' b r (upd f k none) left cnt' ∧ cnt' ≤ cnt ∧ w.mapTurned w' b := by
  obtain ⟨D, lf, h, hR, hl2⟩ := h
  obtain ⟨w', cnt', h1, h2, h3, h4⟩ := h.drop (Maps.int_keyed hk) ht (wfI hw hk) ty
  refine ⟨w', cnt', h1, ⟨_, _, h2, hR.del k, fun x => ?_⟩, h3, h4⟩
  rw [keyI_same, hl2]
  by_cases e : x = k
  · subst e; simp [hl]
  · simp [e]
/-- Ranged over. -/
theorem MpI.range (h : MpI P K w b f) (hk : P.underlying K = some (.int .i64)) (ht : P.underlying t = some (.map K E)) :
    ∃ w' cnt, (Instr.range t (.map (some b))).run P w = .ok (.pointer (some ⟨w.heap.size, 0, none⟩)) w' ∧ RgI P K w' b w.heap.size f (fun k => (f k).isSome) cnt ∧ w.grownBy w' none ∧ w'.heap.size = w.heap.size + 1 := by
  obtain ⟨D, h, hR⟩ := h
  obtain ⟨w', h1, h2, h3, h4⟩ := h.range (Maps.int_keyed hk) ht
  exact ⟨w', _, h1, ⟨D, _, h2, hR, hR.has⟩, h3, h4⟩
/-- A step of the range. -/
theorem RgI.next (h : RgI P K w b r f left cnt) (hk : P.underlying K = some (.int .i64)) (ty : TypeId) :
    ((∀ k, left k = false) ∧ (Instr.next (.pointer (some ⟨r, 0, none⟩)) false ty).run P w = .ok (.tuple #[.bool false]) w) ∨
    ∃ k v w' cnt', (Lit.int .i64 k).wf = true ∧ left k = true ∧ f k = some v ∧ (Instr.next (.pointer (some ⟨r, 0, none⟩)) false ty).run P w = .ok (.tuple #[.bool true, .int .i64 k, v]) w' ∧
      RgI P K w' b r f (fun x => left x && !decide (x = k)) cnt' ∧ cnt' < cnt ∧ w.grownBy w' (some r) ∧ w'.heap.size = w.heap.size ∧ (Instr.entry (.pointer (some ⟨r, 0, none⟩))).run P w' = .ok (.tuple #[.int .i64 k, v]) w' := by
  obtain ⟨D, lf, h, hR, hl2⟩ := h
  rcases h.next (Maps.int_keyed hk) ty with ⟨h0, hl, hrun⟩ | ⟨key, v, kl, y, w', cnt', hkey, hlk, hv, hat, hrun, hrg, hlt, hgr, hsz, hen⟩
  · exact .inl ⟨fun k => by rw [← hl2]; exact hl _, hrun⟩
  · obtain ⟨k, rfl, rfl, hw⟩ := Maps.keyOf_int_inv hk hkey
    refine .inr ⟨k, v, w', cnt', hw, by rw [← hl2]; exact hlk, ?_, hrun, ⟨D, _, hrg, hR, fun x => ?_⟩, hlt, hgr, hsz, hen⟩
    · have ey : y.1 = .held v := by injection hv with hv; rw [← hv]
      cases ef : f k with
      | none => have := Maps.has_true_of_atKey hat; have h2 := hR.none ef; unfold keyI at h2; rw [this] at h2; cases h2
      | some u => have := (hR.some ef .nil).symm.trans (hat .nil); rw [ey] at this; injection this with this; rw [this]
    · show (lf (keyI x) && !(keyI x).sameKey (keyI k)) = (left x && !decide (x = k)); rw [keyI_same, hl2]
end
end Go.Proofs.Ytddglkejegmmmaa
