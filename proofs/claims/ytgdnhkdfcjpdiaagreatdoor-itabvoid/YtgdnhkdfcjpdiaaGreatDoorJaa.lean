/-
  Texts of my own, joined: no statement is proved here.
-/
import Derived.OrdersHeld
import Derived.WalkKit
import Derived.ProofKit
import Derived.OpenShut
import Derived.Handy
import Derived.Outline
import Derived.ShutString
import Derived.ChangeOld
import Derived.Below
import Derived.Laws.BitsAllLaws
import Derived.Laws.BytesArg
import Derived.WalkSpells
import Derived.WalkLawsBesides
import Derived.Deep.QuietTactic
import Derived.BigQuiet
import Derived.Deep.RegionHeld3
import Derived.Deep.DrawnRows
import Derived.Deep.Matrix
import Derived.Deep.AppendLies
import Derived.Laws.OwnMore
import Derived.Deep.SlicePairs
import Derived.Deep.MidRow
import Derived.Deep.WholeRow
import Derived.Maps.RangeWalk
import Derived.Stop.BytesEq
import Derived.Test.YtgdnhkdfcjpdiaaGreatDoorRows
set_option linter.unusedSimpArgs false
set_option linter.unusedVariables false
namespace Go.Proofs.YtgdnhkdfcjpdiaaGreatDoor
open Go.ChangeShapes Go.WideShapes Go.ChangeAt Go.RowKit
theorem zp (a : Act) (i : Tmp) (v : Value) : a.put (some i) v = { a with tmps := a.tmps.setIfInBounds i v } := rfl
theorem zq {α : Type} (l : List α) (i : Nat) (x : α) : l.toArray.setIfInBounds i x = (l.set i x).toArray := List.setIfInBounds_toArray ..
theorem zr {α : Type} (x y : α) (l : List α) : (x :: l).set 0 y = y :: l := rfl
theorem zn (a : Act) (v : Value) : a.put none v = a := rfl
theorem zs {α : Type} (x y : α) (l : List α) (n : Nat) : (x :: l).set (n + 1) y = x :: l.set n y := rfl
theorem tk {P : Program} {md : Region.Mode} {ops : Array Oper} {Q : Exit → Act → World → Prop} {S : World → Prop} {i : Nat} {oi : Oper} {v : Value} {fuel : Nat} {listed : Array Bool} {a : Act} {w : World} (hi : ops[i]? = some oi) (hy : YieldsIf P ops S oi v a) (hS : S w) (h : wpAnyH P md ops Q S fuel (listed.setIfInBounds i true) (a.put oi.dst v) w)
    (hs : Region.noSelect ops = true := by kernel_rfl) (hf : Region.free md ops listed i = true := by kernel_rfl) (hr : (Region.ready md ops listed).contains i = true := by kernel_rfl) (hQ : ∀ c a w, Q (.panic c) (a.put oi.dst v) w → Q (.panic c) a w := by exact fun _ _ _ h => h) : wpAnyH P md ops Q S (fuel + 1) listed a w :=
  wpAnyH_take hi hs hf hr hQ hy hS h
theorem z : (∀ (a : Act) (i : Tmp) (v : Value), a.put (some i) v = { a with tmps := a.tmps.setIfInBounds i v }) ∧ (∀ (a : Act) (v : Value), a.put none v = a) ∧ (∀ (α : Type) (l : List α) (i : Nat) (x : α), l.toArray.setIfInBounds i x = (l.set i x).toArray) ∧ (∀ (α : Type) (x y : α) (l : List α), (x :: l).set 0 y = y :: l) ∧ (∀ (α : Type) (x y : α) (l : List α) (n : Nat), (x :: l).set (n + 1) y = x :: l.set n y) :=
  ⟨zp, zn, fun _ => zq, fun _ => zr, fun _ => zs⟩
theorem gi {ops : Array Oper} {i : Nat} {o : Oper} {r : List Oper} (h : ops.toList.drop i = o :: r) : ops[i]? = some o := by
  have e : (ops.toList.drop i)[0]? = some o := by rw [h]; rfl
  rw [List.getElem?_drop, Nat.add_zero, Array.getElem?_toList] at e; exact e
theorem tm {P : Program} {md : Region.Mode} {ops : Array Oper} {Q : Exit → Act → World → Prop} {S : World → Prop} {oi : Oper} {r : List Oper} {fuel : Nat} {listed : Array Bool} {a : Act} {w : World} (i : Nat) (v : Value) (hi : ops.toList.drop i = oi :: r) (hy : YieldsIf P ops S oi v a) (h : wpAnyH P md ops Q S fuel (listed.setIfInBounds i true) (a.put oi.dst v) w)
    (hS : S w := by assumption) (hs : Region.noSelect ops = true := by kernel_rfl) (hf : Region.free md ops listed i = true := by kernel_rfl) (hr : (Region.ready md ops listed).contains i = true := by kernel_rfl) (hQ : ∀ c a w, Q (.panic c) (a.put oi.dst v) w → Q (.panic c) a w := by exact fun _ _ _ h => h) : wpAnyH P md ops Q S (fuel + 1) listed a w :=
  wpAnyH_take (gi hi) hs hf hr hQ hy hS h
theorem tl {P : Program} {md : Region.Mode} {ops : Array Oper} {Q : Exit → Act → World → Prop} {S : World → Prop} {oi : Oper} {r : List Oper} {fuel : Nat} {listed : Array Bool} {a : Act} {w : World} (i : Nat) (v : Value) (hi : ops.toList.drop i = oi :: r) (h : wpAnyH P md ops Q S fuel (listed.setIfInBounds i true) (a.put oi.dst v) w)
    (y : ∀ u, S u → (execOp a.eval oi).run P u = .ok (.value v) u := by intro u hu; go_simp) (hw : Region.wanted oi (yielded ops a.tmps) = true := by rfl) (hS : S w := by assumption) (hs : Region.noSelect ops = true := by kernel_rfl) (hf : Region.free md ops listed i = true := by kernel_rfl) (hr : (Region.ready md ops listed).contains i = true := by kernel_rfl) (hQ : ∀ c a w, Q (.panic c) (a.put oi.dst v) w → Q (.panic c) a w := by exact fun _ _ _ h => h) : wpAnyH P md ops Q S (fuel + 1) listed a w :=
  wpAnyH_take (gi hi) hs hf hr hQ (Or.inl ⟨hw, y⟩) hS h
theorem rd {P : Program} {md : Region.Mode} {ops : Array Oper} {Q : Exit → Act → World → Prop} {S : World → Prop} {fuel : Nat} {listed : Array Bool} {a : Act} {w : World} {o : Oper} {r : List Oper} (i : Nat) (hi : ops.toList.drop i = o :: r)
    (h : ∀ K' : Act → World → Prop, Shut (∀ a w, S w → (S w → wpAnyH P md ops Q S fuel (listed.setIfInBounds i true) a w) → K' a w) → if Region.wanted o (yielded ops a.tmps) = true then Oper.wp P o a w K' Q else K' (a.put o.dst undef) w) (hr : Region.ready md ops listed = [i] := by kernel_rfl) : wpAnyH P md ops Q S (fuel + 1) listed a w :=
  wpAnyH_ready hr (by simp) (AllReadyH.cons (gi hi) h AllReadyH.nil)
end Go.Proofs.YtgdnhkdfcjpdiaaGreatDoor
namespace Go.Proofs.YtgdnhkdfcjpdiaaGreatDoor
open Go.ChangeShapes Go.WideShapes Go.ChangeAt Go.RowKit
structure Bs (w : World) (a : Option Addr) (n c : Nat) (l : List Int) : Prop where
  len : l.length = n
  le : n ≤ c
  cap : c ≤ maxLen
  nil : a = none → c = 0
  byte : ∀ x ∈ l, 0 ≤ x ∧ x ≤ 255
  cell : 0 < n → ∃ b o, a = some ⟨b, o, none⟩ ∧ ∀ i, i < n → w.cell? ⟨b, o + i, none⟩ = some (.int .u8 (l.getD i 0))
theorem Bs.range {w : World} {a : Option Addr} {n c : Nat} {l : List Int} (h : Bs w a n c l) (i : Nat) : 0 ≤ l.getD i 0 ∧ l.getD i 0 ≤ 255 := by
  by_cases hi : i < l.length
  · rw [List.getD_eq_getElem?_getD, List.getElem?_eq_getElem hi]; exact h.byte _ (List.getElem_mem hi)
  · rw [List.getD_eq_getElem?_getD, List.getElem?_eq_none (by omega)]; simp
theorem Bs.range' {w : World} {a : Option Addr} {n c : Nat} {l : List Int} (h : Bs w a n c l) (i : Nat) : 0 ≤ l[i]?.getD 0 ∧ l[i]?.getD 0 ≤ 255 := by
  have := h.range i; rwa [List.getD_eq_getElem?_getD] at this
theorem Bs.later {w w' : World} {a : Option Addr} {n c : Nat} {l : List Int} (h : Bs w a n c l) (hb : Below w.heap.size w w') : Bs w' a n c l := by
  refine ⟨h.len, h.le, h.cap, h.nil, h.byte, fun hn => ?_⟩
  obtain ⟨b, o, rfl, hc⟩ := h.cell hn
  refine ⟨b, o, rfl, fun i hi => ?_⟩
  rw [hb.cell (p := ⟨b, o + i, none⟩) (World.block_lt_of_cell? w ⟨b, o + i, none⟩ (hc i hi))]
  exact hc i hi
theorem bstep {B B' : Nat} {a b c : World} (h : Below B a b) (k : Below B' b c) (hB : B ≤ B') : Below B a c := h.trans (k.mono hB)
theorem Bs.nilSlice (w : World) : Bs w none 0 0 [] := ⟨rfl, Nat.le_refl _, by decide, fun _ => rfl, (fun _ h => by cases h), fun h => absurd h (by omega)⟩
theorem ret_int {k : IntKind} {a b : Int} (h : a = b) : Ending.returned (.int k a) = .returned (.int k b) := by rw [h]
theorem ret_tup2 {k k' : IntKind} {a b c d : Int} (h : a = b) (h' : c = d) : Ending.returned (.tuple #[.int k a, .int k' c]) = .returned (.tuple #[.int k b, .int k' d]) := by rw [h, h']
def le2 (l : List Int) (k : Nat) : Int := l.getD k 0 + 256 * l.getD (k + 1) 0
def le4 (l : List Int) (k : Nat) : Int := l.getD k 0 + 256 * l.getD (k + 1) 0 + 65536 * l.getD (k + 2) 0 + 16777216 * l.getD (k + 3) 0
theorem or32 (i : Nat) (x y : Int) (h0 : 0 ≤ x) (h1 : x < 2 ^ i) (h2 : 0 ≤ y) (h3 : y < 4294967296) (h4 : y % 2 ^ i = 0) (hx : x < 4294967296) : bits .or .u32 x y = x + y := by
  rw [u32_or x y h0 hx h2 h3]
  obtain ⟨a, rfl⟩ := Int.eq_ofNat_of_zero_le h0
  obtain ⟨b, rfl⟩ := Int.eq_ofNat_of_zero_le h2
  have hb : b % 2 ^ i = 0 := by exact_mod_cast h4
  have ha : a < 2 ^ i := by exact_mod_cast h1
  have := nat_join i b a hb ha
  simp only [Int.toNat_natCast]
  rw [Nat.or_comm, this]; omega
theorem or_le2 (x y : Int) (r0 : 0 ≤ x ∧ x ≤ 255) (r1 : 0 ≤ y ∧ y ≤ 255) : bits .or .u32 (bits .or .u32 0 x) (y * 256) = x + 256 * y := by
  rw [or32 0 0 x (by omega) (by decide) (by omega) (by omega) (by omega) (by decide), or32 8 (0 + x) (y * 256) (by omega) (by omega) (by omega) (by omega) (by omega) (by omega)]; omega
theorem or_le4 (x y z u : Int) (r0 : 0 ≤ x ∧ x ≤ 255) (r1 : 0 ≤ y ∧ y ≤ 255) (r2 : 0 ≤ z ∧ z ≤ 255) (r3 : 0 ≤ u ∧ u ≤ 255) :
    bits .or .u32 (bits .or .u32 (bits .or .u32 (bits .or .u32 0 x) (y * 256)) (z * 65536)) (u * 16777216) = x + 256 * y + 65536 * z + 16777216 * u := by
  rw [or_le2 x y r0 r1, or32 16 (x + 256 * y) (z * 65536) (by omega) (by omega) (by omega) (by omega) (by omega) (by omega),
    or32 24 (x + 256 * y + z * 65536) (u * 16777216) (by omega) (by omega) (by omega) (by omega) (by omega) (by omega)]; omega
def p2 (i : Nat) : Int := 2 ^ (i % 8)
def bitB (l : List Int) (i : Nat) : Bool := l.getD (i / 8) 0 / p2 i % 2 == 1
def cnt (l : List Int) : Nat → Int
  | 0 => 0
  | m + 1 => cnt l m + if bitB l m then 1 else 0
def fz (l : List Int) : Nat → Nat → Int
  | 0, _ => -1
  | f + 1, i => if bitB l i then fz l f (i + 1) else i
theorem own_bs {w : World} {base : Nat} {e : TypeId} {v : Value} {n : Nat} {l : List Int} (h : w.ownsRow base e 1 v n (l.map (Value.int .u8))) (hl : ∀ x ∈ l, 0 ≤ x ∧ x ≤ 255) :
    ∃ a c, v = .slice a n c ∧ Bs w a n c l := by
  obtain ⟨h1, h2⟩ := h
  have hlen : l.length = n := by simpa using h1
  rcases h2 with ⟨rfl, rfl⟩ | ⟨g, cap, cur, rfl, hb, hg, hle, hm, hs, ht⟩
  · exact ⟨none, 0, rfl, hlen, Nat.le_refl _, by decide, fun _ => rfl, hl, fun h => absurd h (by omega)⟩
  · refine ⟨_, cap, rfl, hlen, hle, hm, (fun h => by cases h), hl, fun hn => ⟨g, 0, rfl, fun i hi => ?_⟩⟩
    rw [Nat.zero_add, cell_of_row w g i cur e (0, 0) hg]
    have e1 : (cur.toList.take (n * 1))[i]? = (l.map (Value.int .u8))[i]? := by rw [ht]
    rw [List.getElem?_take, if_pos (by omega)] at e1
    rw [← Array.getElem?_toList, e1, List.getElem?_map, List.getElem?_eq_getElem (by omega)]
    simp [List.getD_eq_getElem?_getD, List.getElem?_eq_getElem (show i < l.length by omega)]
theorem ret_bool {a b : Bool} (h : a = b) : Ending.returned (.bool a) = .returned (.bool b) := by rw [h]
def putX (x : Int) (i : Nat) (on : Bool) : Int := if on = (x / p2 i % 2 == 1) then x else if on then x + p2 i else x - p2 i
def putB (l : List Int) (i : Nat) (on : Bool) : List Int := l.set (i / 8) (putX (l.getD (i / 8) 0) i on)
theorem le2_range {w : World} {a : Option Addr} {n c : Nat} {l : List Int} (h : Bs w a n c l) (k : Nat) : 0 ≤ le2 l k ∧ le2 l k ≤ 65535 := by
  have := h.range k; have := h.range (k + 1); unfold le2; omega
theorem le4_range {w : World} {a : Option Addr} {n c : Nat} {l : List Int} (h : Bs w a n c l) (k : Nat) : 0 ≤ le4 l k ∧ le4 l k ≤ 4294967295 := by
  have := h.range k; have := h.range (k + 1); have := h.range (k + 2); have := h.range (k + 3); unfold le4; omega
theorem four_range {x y u v : Int} (h : 0 ≤ x ∧ x ≤ 255) (h' : 0 ≤ y ∧ y ≤ 255) (h2 : 0 ≤ u ∧ u ≤ 255) (h3 : 0 ≤ v ∧ v ≤ 255) : ∀ z ∈ [x, y, u, v], 0 ≤ z ∧ z ≤ 255 := by
  intro z hz; simp at hz; rcases hz with rfl | rfl | rfl | rfl <;> assumption
theorem bundrew {B : Nat} {a w : World} (h : Below B a.drew w) : Below B a w := ⟨h.os, h.tape, h.output, h.size, h.block⟩
theorem bnext {B : Nat} {W w w' : World} (h : Below B W w) (k : Below w.heap.size w w') (hB : B ≤ W.heap.size) : Below B W w' :=
  bstep h k (Nat.le_trans hB h.size)
structure Bss (w : World) (a : Option Addr) (n c : Nat) (L : List (List Int)) : Prop where
  len : L.length = n
  le : n ≤ c
  cap : c ≤ maxLen
  cell : 0 < n → ∃ b o, a = some ⟨b, o, none⟩ ∧ ∀ i, i < n → ∃ x y z, w.cell? ⟨b, o + i, none⟩ = some (.slice x y z) ∧ Bs w x y z (L.getD i [])
theorem Bss.later {w w' : World} {a : Option Addr} {n c : Nat} {L : List (List Int)} (h : Bss w a n c L) (hb : Below w.heap.size w w') : Bss w' a n c L := by
  refine ⟨h.len, h.le, h.cap, fun hn => ?_⟩
  obtain ⟨b, o, rfl, hc⟩ := h.cell hn
  refine ⟨b, o, rfl, fun i hi => ?_⟩
  obtain ⟨x, y, z, h1, h2⟩ := hc i hi
  refine ⟨x, y, z, ?_, h2.later hb⟩
  rw [hb.cell (p := ⟨b, o + i, none⟩) (World.block_lt_of_cell? w ⟨b, o + i, none⟩ h1)]
  exact h1
theorem Bss.byte {w : World} {a : Option Addr} {n c : Nat} {L : List (List Int)} (h : Bss w a n c L) : ∀ l ∈ L, ∀ x ∈ l, 0 ≤ x ∧ x ≤ 255 := by
  intro l hl
  obtain ⟨i, hi, rfl⟩ := List.getElem_of_mem hl
  have hn := h.len
  obtain ⟨b, o, rfl, hc⟩ := h.cell (by omega)
  obtain ⟨x, y, z, h1, h2⟩ := hc i (by omega)
  have := h2.byte
  rwa [List.getD_eq_getElem?_getD, List.getElem?_eq_getElem hi] at this
theorem flat_take (L : List (List Int)) (k : Nat) (h : k < L.length) : (L.take (k + 1)).flatten = (L.take k).flatten ++ L.getD k [] := by
  rw [List.take_add_one, List.getElem?_eq_getElem h, List.flatten_append, List.getD_eq_getElem?_getD, List.getElem?_eq_getElem h]
  simp
theorem flat_byte {L : List (List Int)} (h : ∀ l ∈ L, ∀ x ∈ l, 0 ≤ x ∧ x ≤ 255) (k : Nat) : ∀ x ∈ (L.take k).flatten, 0 ≤ x ∧ x ≤ 255 := by
  intro x hx
  obtain ⟨l, hl, hxl⟩ := List.mem_flatten.1 hx
  exact h l (List.mem_of_mem_take hl) x hxl
theorem bss_alloc (w : World) (e : TypeId) (vs : List Value) (L : List (List Int)) (hl : vs.length = L.length) (hm : L.length ≤ maxLen) (h : ∀ i, i < L.length → ∃ x y z, vs[i]? = some (.slice x y z) ∧ Bs w x y z (L.getD i [])) :
    Bss (w.alloc (.cells vs.toArray e)) (some ⟨w.heap.size, 0, none⟩) L.length L.length L := by
  refine ⟨rfl, Nat.le_refl _, hm, fun _ => ⟨_, 0, rfl, fun i hi => ?_⟩⟩
  obtain ⟨x, y, z, h1, h2⟩ := h i hi
  refine ⟨x, y, z, ?_, h2.later ((Below.refl _ w).alloc (Nat.le_refl _) _)⟩
  rw [cell_of_row _ _ _ _ e (0, 0) (heap_alloc_new w _), Nat.zero_add, List.getElem?_toArray, h1]
structure Keep (B : List Nat) (w w' : World) : Prop where
  size : w.heap.size ≤ w'.heap.size
  block : ∀ k, k < w.heap.size → k ∉ B → w'.heap[k]? = w.heap[k]?
theorem keep_below {w w' : World} (h : Below w.heap.size w w') (B : List Nat) : Keep B w w' := ⟨h.size, fun k hk _ => h.block k hk⟩
theorem own_keep {B : List Nat} {w w' : World} {base : Nat} {e : TypeId} {size g n cap : Nat} {xs : List Value} (h : w.ownsRow base e size (.slice (some ⟨g, 0, none⟩) n cap) n xs) (hk : Keep B w w') (hg : g ∉ B) :
    w'.ownsRow base e size (.slice (some ⟨g, 0, none⟩) n cap) n xs := by
  obtain ⟨h1, h2⟩ := h
  refine ⟨h1, ?_⟩
  rcases h2 with ⟨h2, _⟩ | ⟨g', cap', cur, hv, hb, hg', hr⟩
  · cases h2
  · refine .inr ⟨g', cap', cur, hv, hb, ?_, hr⟩
    injection hv with hv; injection hv with hv; injection hv with hv; subst hv
    rw [hk.block g (by
      rcases Nat.lt_or_ge g w.heap.size with hlt | hge
      · exact hlt
      · rw [Array.getElem?_eq_none hge] at hg'; cases hg') hg]
    exact hg'
theorem own_lt {w : World} {base : Nat} {e : TypeId} {size g n cap : Nat} {xs : List Value} (h : w.ownsRow base e size (.slice (some ⟨g, 0, none⟩) n cap) n xs) : base ≤ g ∧ g < w.heap.size := h.lt g rfl
theorem own_bs' {w : World} {base : Nat} {e : TypeId} {g n cap : Nat} {l : List Int} (h : w.ownsRow base e 1 (.slice (some ⟨g, 0, none⟩) n cap) n (l.map (Value.int .u8))) (hl : ∀ x ∈ l, 0 ≤ x ∧ x ≤ 255) : Bs w (some ⟨g, 0, none⟩) n cap l := by
  obtain ⟨a, c, hv, hb⟩ := own_bs h hl
  injection hv with h1 h2 h3
  subst h1; subst h3; exact hb
theorem own_some {w : World} {base : Nat} {e : TypeId} {size : Nat} {v : Value} {n : Nat} {xs : List Value} (h : w.ownsRow base e size v n xs) (hv : v ≠ .slice none 0 0) : ∃ g cap, v = .slice (some ⟨g, 0, none⟩) n cap ∧ n ≤ cap ∧ cap ≤ maxLen := by
  rcases h.2 with ⟨h0, _⟩ | ⟨g, cap, cur, hv', hb, hg, hle, hm, _⟩
  · exact absurd h0 hv
  · exact ⟨g, cap, hv', hle, hm⟩
theorem Bs.cells {w : World} {x : Addr} {n c : Nat} {l : List Int} (h : Bs w (some x) n c l) : ∀ j u, (l.map (Value.int .u8))[j]? = some u → w.cell? (x.add j) = some u := by
  intro j u hj
  have hjl : j < l.length := by have := (List.getElem?_eq_some_iff.1 hj).1; simpa using this
  obtain ⟨b, off, hx, hc⟩ := h.cell (by have := h.len; omega)
  obtain rfl : x = ⟨b, off, none⟩ := by simpa using hx
  rw [Addr.add_lit, hc j (by have := h.len; omega), ← hj, List.getElem?_map, List.getElem?_eq_getElem hjl]
  simp [List.getD_eq_getElem?_getD, List.getElem?_eq_getElem hjl]
structure Step (B : List Nat) (w w' : World) : Prop where
  os : w'.os = w.os
  tape : w'.tape = w.tape
  output : w'.output = w.output
  size : w.heap.size ≤ w'.heap.size
  block : ∀ k, k < w.heap.size → k ∉ B → w'.heap[k]? = w.heap[k]?
theorem Step.refl (B : List Nat) (w : World) : Step B w w := ⟨rfl, rfl, rfl, Nat.le_refl _, fun _ _ _ => rfl⟩
theorem Step.next {B B' : List Nat} {a b c : World} (h : Step B a b) (k : Step B' b c) (hB : ∀ x ∈ B', x ∈ B ∨ a.heap.size ≤ x) : Step B a c :=
  ⟨k.os.trans h.os, k.tape.trans h.tape, k.output.trans h.output, Nat.le_trans h.size k.size, fun i hi hn => by
    rw [k.block i (Nat.lt_of_lt_of_le hi h.size) (fun hm => by rcases hB i hm with e | e; exact hn e; omega), h.block i hi hn]⟩
theorem Step.trans {B : List Nat} {a b c : World} (h : Step B a b) (k : Step B b c) : Step B a c := h.next k fun _ h => .inl h
theorem step_below {w w' : World} (h : Below w.heap.size w w') (B : List Nat) : Step B w w' := ⟨h.os, h.tape, h.output, h.size, fun k hk _ => h.block k hk⟩
theorem step_alloc (w : World) (o : Obj) (B : List Nat) : Step B w (w.alloc o) := step_below ((Below.refl _ w).alloc (Nat.le_refl _) o) B
theorem step_setCell (w : World) (p : Addr) (u : Value) (B : List Nat) (hp : p.block ∈ B ∨ w.heap.size ≤ p.block) : Step B w (w.setCell p u) :=
  ⟨rfl, rfl, rfl, by simp, fun k hk hn => Below.heap_setCell w p u k (fun e => by rcases hp with h | h; exact hn (e ▸ h); omega)⟩
theorem Step.alloc {B : List Nat} {a w : World} (h : Step B a w) (o : Obj) : Step B a (w.alloc o) := h.trans (step_alloc w o B)
theorem Step.setCell {B : List Nat} {a w : World} (h : Step B a w) {p : Addr} (hp : p.block ∈ B ∨ a.heap.size ≤ p.block) (u : Value) : Step B a (w.setCell p u) := by
  refine h.next (B' := [p.block]) (step_setCell w p u _ (.inl (by simp))) ?_
  intro x hx; simp at hx; subst hx; exact hp
theorem Step.drew {B : List Nat} {a w : World} (h : Step B a w) : Step B a w.drew := ⟨h.os, h.tape, h.output, h.size, h.block⟩
theorem Step.cell {B : List Nat} {w w' : World} (h : Step B w w') {p : Addr} {v : Value} (hc : w.cell? p = some v) (hp : p.block ∉ B) : w'.cell? p = some v := by
  rw [World.cell?_of_block (w := w) (h.block p.block (World.block_lt_of_cell? w p hc) hp)]; exact hc
theorem Step.frozen {B : List Nat} {w w' : World} (h : Step B w w') {p : Addr} (hl : p.block < w.heap.size) (hp : p.block ∉ B) : w'.frozen? p = w.frozen? p :=
  World.frozen?_of_block (w := w) (h.block p.block hl hp)
abbrev Blk := { l : List UInt8 // l.length = 64 }
abbrev Blk.l (b : Blk) : List UInt8 := b.val
theorem Blk.len (b : Blk) : b.l.length = 64 := b.property
theorem Blk.ext {a b : Blk} (h : a.l = b.l) : a = b := Subtype.ext h
def Blk.zero : Blk := ⟨List.replicate 64 0, by simp⟩
def Blk.cs (b : Blk) : List Value := b.l.map Extern.Stop.cell
theorem Blk.cs_len (b : Blk) : b.cs.length = 64 := by unfold Blk.cs; rw [List.length_map, b.len]
theorem Blk.cs_one (b : Blk) : ∀ v ∈ b.cs, v.oneCell' = true := by
  intro v hv; unfold Blk.cs at hv; obtain ⟨x, _, rfl⟩ := List.mem_map.1 hv; rfl
theorem Blk.beq (a b : Blk) : (a.l == b.l) = decide (a = b) := by
  by_cases h : a = b
  · subst h; simp
  · have : a.l ≠ b.l := fun e => h (Blk.ext e)
    simp [h, this]
theorem Blk.arr (b : Blk) : b.cs.toArray.all (·.oneCell') = true := all_oneCell_toArray b.cs_one
structure Stp (F : Nat → Prop) (w w' : World) : Prop where
  os : w'.os = w.os
  tape : w'.tape = w.tape
  output : w'.output = w.output
  size : w.heap.size ≤ w'.heap.size
  block : ∀ k, k < w.heap.size → ¬ F k → w'.heap[k]? = w.heap[k]?
section
variable {F F' : Nat → Prop} {w w' a b c : World}
theorem Stp.refl (F : Nat → Prop) (w : World) : Stp F w w := ⟨rfl, rfl, rfl, Nat.le_refl _, fun _ _ _ => rfl⟩
theorem Stp.next (h : Stp F a b) (k : Stp F' b c) (hB : ∀ x, F' x → F x ∨ a.heap.size ≤ x) : Stp F a c :=
  ⟨k.os.trans h.os, k.tape.trans h.tape, k.output.trans h.output, Nat.le_trans h.size k.size, fun i hi hn => by
    rw [k.block i (Nat.lt_of_lt_of_le hi h.size) (fun hm => by rcases hB i hm with e | e; exact hn e; omega), h.block i hi hn]⟩
theorem Stp.trans (h : Stp F a b) (k : Stp F b c) : Stp F a c := h.next k fun _ h => .inl h
theorem Stp.mono (h : Stp F a b) (hB : ∀ x, F x → F' x ∨ a.heap.size ≤ x) : Stp F' a b := (Stp.refl F' a).next h hB
theorem Stp.of_below (h : Below w.heap.size w w') (F : Nat → Prop) : Stp F w w' := ⟨h.os, h.tape, h.output, h.size, fun k hk _ => h.block k hk⟩
theorem Stp.of_step {B : List Nat} (h : Step B w w') (hB : ∀ x ∈ B, F x ∨ w.heap.size ≤ x) : Stp F w w' :=
  ⟨h.os, h.tape, h.output, h.size, fun k hk hn => h.block k hk (fun hm => by rcases hB k hm with e | e; exact hn e; omega)⟩
theorem Stp.of_grown {row : Option Nat} (h : w.grownBy w' row) (hr : ∀ x, row = some x → F x ∨ w.heap.size ≤ x) : Stp F w w' :=
  ⟨h.os, h.tape, h.output, h.size, fun k hk hn => h.block k hk (fun e => by rcases hr k e.symm with e | e; exact hn e; omega)⟩
theorem Stp.of_alloc (w : World) (o : Obj) (F : Nat → Prop) : Stp F w (w.alloc o) := Stp.of_below ((Below.refl _ w).alloc (Nat.le_refl _) o) F
theorem Stp.alloc (h : Stp F a w) (o : Obj) : Stp F a (w.alloc o) := h.trans (Stp.of_alloc w o F)
theorem Stp.setCell (h : Stp F a w) {p : Addr} (hp : F p.block ∨ a.heap.size ≤ p.block) (u : Value) : Stp F a (w.setCell p u) :=
  h.next (F' := fun x => x = p.block) ⟨rfl, rfl, rfl, by simp, fun k hk hn => Below.heap_setCell w p u k hn⟩ (by rintro x rfl; exact hp)
theorem heap_setCells (g : Nat) : ∀ (vs : List Value) (o : Nat) (w : World) (k : Nat), k ≠ g → (w.setCells g o vs).heap[k]? = w.heap[k]?
  | [], _, _, _, _ => rfl
  | v :: r, o, w, k, h => by rw [World.setCells, heap_setCells g r (o + 1) _ k h, Below.heap_setCell w _ _ _ h]
theorem size_setCells (g : Nat) : ∀ (vs : List Value) (o : Nat) (w : World), (w.setCells g o vs).heap.size = w.heap.size
  | [], _, _ => rfl
  | v :: r, o, w => by rw [World.setCells, size_setCells g r (o + 1)]; simp
theorem strm_setCells (g : Nat) : ∀ (vs : List Value) (o : Nat) (w : World), (w.setCells g o vs).os = w.os ∧ (w.setCells g o vs).tape = w.tape ∧ (w.setCells g o vs).output = w.output
  | [], _, _ => ⟨rfl, rfl, rfl⟩
  | v :: r, o, w => by rw [World.setCells]; exact strm_setCells g r (o + 1) _
theorem Stp.of_setCells (w : World) (g o : Nat) (vs : List Value) (hg : F g ∨ w.heap.size ≤ g) : Stp F w (w.setCells g o vs) :=
  ⟨(strm_setCells g vs o w).1, (strm_setCells g vs o w).2.1, (strm_setCells g vs o w).2.2, by rw [size_setCells]; exact Nat.le_refl _, fun k hk hn => heap_setCells g vs o w k (fun e => by subst e; rcases hg with e | e; exact hn e; omega)⟩
theorem Stp.drew (h : Stp F a w) : Stp F a w.drew := ⟨h.os, h.tape, h.output, h.size, h.block⟩
theorem Stp.drewN (h : Stp F a w) (k : Nat) : Stp F a (w.drewN k) := ⟨h.os, h.tape, h.output, h.size, h.block⟩
theorem Stp.cell (h : Stp F w w') {p : Addr} {v : Value} (hc : w.cell? p = some v) (hp : ¬ F p.block) : w'.cell? p = some v := by
  rw [World.cell?_of_block (w := w) (h.block p.block (World.block_lt_of_cell? w p hc) hp)]; exact hc
theorem Stp.frozen (h : Stp F w w') {p : Addr} (hl : p.block < w.heap.size) (hp : ¬ F p.block) : w'.frozen? p = w.frozen? p :=
  World.frozen?_of_block (w := w) (h.block p.block hl hp)
theorem Stp.below {N : Nat} (h : Stp F w w') (hN : N ≤ w.heap.size) (hB : ∀ x, F x → N ≤ x) : Below N w w' :=
  ⟨h.os, h.tape, h.output, h.size, fun k hk => h.block k (by omega) (fun hm => by have := hB k hm; omega)⟩
theorem Stp.range (h : Stp F w w') {g o : Nat} {cs : List Value} (hc : w.rangeAt g o cs) (hp : ¬ F g) : w'.rangeAt g o cs := fun j v hv => h.cell (hc j v hv) hp
theorem Stp.there (h : Stp F w w') {g o n : Nat} (hc : w.there g o n) (hp : ¬ F g) : w'.there g o n := fun j hj => by
  obtain ⟨h1, h2⟩ := hc j hj
  obtain ⟨u, hu⟩ := Option.isSome_iff_exists.1 h1
  exact ⟨by rw [h.cell hu hp]; rfl, by rw [h.frozen (p := ⟨g, o + j, none⟩) (World.block_lt_of_cell? w _ hu) hp]; exact h2⟩
end
def Grew (F F' : Nat → Prop) (w w' : World) : Prop := ∀ x, F' x → F x ∨ (w.heap.size ≤ x ∧ x < w'.heap.size)
theorem Grew.refl (F : Nat → Prop) (w w' : World) : Grew F F w w' := fun _ h => .inl h
theorem Grew.trans {F F' F'' : Nat → Prop} {a b c : World} (h : Grew F F' a b) (k : Grew F' F'' b c) (h1 : a.heap.size ≤ b.heap.size) (h2 : b.heap.size ≤ c.heap.size) : Grew F F'' a c := fun x hx => by
  rcases k x hx with e | e
  · rcases h x e with e | e
    · exact .inl e
    · exact .inr ⟨e.1, by omega⟩
  · exact .inr ⟨by omega, e.2⟩
theorem made_range (w : World) (cs : List Value) (t : TypeId) : (w.alloc (.cells cs.toArray t)).rangeAt w.heap.size 0 cs := fun j v hv => by
  rw [cell_of_row _ _ (0 + j) cs.toArray t (0, 0) (heap_alloc_new w _)]; simpa using hv
theorem made_there (w : World) (cs : Array Value) (t : TypeId) : (w.alloc (.cells cs t)).there w.heap.size 0 cs.size := fun j hj => by
  refine ⟨?_, by simp [go_sem]⟩
  rw [cell_of_row _ _ (0 + j) cs t (0, 0) (heap_alloc_new w _)]; simp [hj]
def keyI (k : Int) : Lit := .int .i64 k
theorem keyI_ne {a b : Int} (h : a ≠ b) : keyI a ≠ keyI b := fun e => h (by injection e)
theorem keyI_key (k : Int) : WideAt.IsKeyLit (keyI k) := trivial
def heldElem (v : Value) : Option (DataW Value × List MemPlace) := some (.held v, [])
def Reads (D : DataW Value) (f : Int → Option Value) : Prop :=
  ∀ k, match f k with
    | none => Maps.has D (keyI k) = false
    | some v => ∀ z, D.atKey (keyI k) z = .held v
theorem Reads.none {D : DataW Value} {f : Int → Option Value} (h : Reads D f) {k : Int} (e : f k = none) : Maps.has D (keyI k) = false := by have := h k; rw [e] at this; exact this
theorem Reads.some {D : DataW Value} {f : Int → Option Value} (h : Reads D f) {k : Int} {v : Value} (e : f k = some v) (z : DataW Value) : D.atKey (keyI k) z = .held v := by have := h k; rw [e] at this; exact this z
theorem Reads.has {D : DataW Value} {f : Int → Option Value} (h : Reads D f) (k : Int) : Maps.has D (keyI k) = (f k).isSome := by
  cases e : f k with
  | none => rw [h.none e]; rfl
  | some v => rw [Maps.has_true_of_atKey (h.some e)]; rfl
theorem reads_empty : Reads (.map []) (fun _ => Option.none) := fun k => rfl
def upd (f : Int → Option Value) (k : Int) (v : Option Value) : Int → Option Value := fun x => if x = k then v else f x
theorem Reads.put {D : DataW Value} {f : Int → Option Value} (h : Reads D f) (hD : Maps.IsMap D) (k : Int) (v : Value) : Reads (D.put (keyI k) (.held v)) (upd f k (Option.some v)) := fun x => by
  unfold upd
  by_cases e : x = k
  · subst e; simp only [if_true]; intro z; exact Maps.atKey_put_same hD (keyI_key x) _ z
  · rw [if_neg e]
    cases ef : f x with
    | none => simp only []; rw [Maps.has_put_other (keyI_ne e)]; exact h.none ef
    | some u => intro z; rw [Maps.atKey_put_other (keyI_ne e)]; exact h.some ef z
theorem Reads.del {D : DataW Value} {f : Int → Option Value} (h : Reads D f) (k : Int) : Reads (D.del (keyI k)) (upd f k Option.none) := fun x => by
  unfold upd
  by_cases e : x = k
  · subst e; simp only [if_true]; exact Maps.has_del_same
  · rw [if_neg e]
    cases ef : f x with
    | none => simp only []; rw [Maps.has_del_other (keyI_ne e)]; exact h.none ef
    | some u => intro z; rw [Maps.atKey_del_other (keyI_ne e)]; exact h.some ef z
def MpI (P : Program) (K : TypeId) (w : World) (b : Nat) (f : Int → Option Value) : Prop :=
  ∃ D, w.ownsMap P K heldElem b 4096 D ∧ Reads D f
section
variable {P : Program} {K E t : TypeId} {w w' : World} {b r : Nat} {f : Int → Option Value} {left : Int → Bool} {cnt : Nat} {F : Nat → Prop}
theorem MpI.lt (h : MpI P K w b f) : b < w.heap.size := by obtain ⟨D, h, _⟩ := h; exact h.lt
theorem MpI.step (h : MpI P K w b f) (k : Stp F w w') (hb : ¬ F b) : MpI P K w' b f := by
  have hl := h.lt
  obtain ⟨D, ⟨es, clock, hh, rest⟩, hR⟩ := h
  exact ⟨D, ⟨es, clock, (k.block b hl hb).trans hh, rest⟩, hR⟩
theorem MpI.notCell (h : MpI P K w b f) {p : Addr} {v : Value} (hc : w.cell? p = some v) : p.block ≠ b := fun e => by
  obtain ⟨D, ⟨es, clock, hh, _⟩, _⟩ := h
  unfold World.cell? at hc; rw [e, hh] at hc; simp at hc
theorem wfI {k : Int} (h : (Lit.int .i64 k).wf = true) (hk : P.underlying K = some (.int .i64)) : keyOf P K (.int .i64 k) = some (keyI k) := Maps.keyOf_int_mk hk h
theorem MpI.made (w : World) (P : Program) (K : TypeId) : MpI P K (w.alloc (.map #[] 0)) w.heap.size (fun _ => Option.none) :=
  ⟨_, (World.ownsMap_made w P K heldElem).mono (by omega), reads_empty⟩
theorem MpI.look (h : MpI P K w b f) (hk : P.underlying K = some (.int .i64)) (ht : P.underlying t = some (.map K E)) {z : Value} (hz : (zeroValue E).run P w = .ok z w) {k : Int} (hw : (Lit.int .i64 k).wf = true) :
    (Instr.lookup t (.map (some b)) (.int .i64 k) false).run P w = .ok ((f k).getD z) w := by
  obtain ⟨D, h, hR⟩ := h
  obtain ⟨v, ps, h1, h2⟩ := h.lookup (Maps.int_keyed hk) ht hz (zd := .held z) (zp := []) rfl (wfI hw hk)
  rw [h1]
  have e : DataW.held v = D.atKey (keyI k) (.held z) := by injection h2 with h2; injection h2
  cases ef : f k with
  | none => rw [Maps.atKey_of_not_has (hR.none ef)] at e; injection e with e; rw [e]; rfl
  | some u => rw [hR.some ef] at e; injection e with e; rw [e]; rfl
theorem few : ∀ (n : Nat) (l : List Nat), l.Pairwise (· ≠ ·) → (∀ x ∈ l, x < n) → l.length ≤ n
  | 0, l, _, h => by cases l with | nil => simp | cons a r => exact absurd (h a (by simp)) (by omega)
  | n + 1, l, hp, h => by
    have e := few n (l.filter fun x => decide (x ≠ n)) (hp.filter _) (fun x hx => by
      have := List.mem_filter.1 hx; have := h x this.1; simp at *; omega)
    have : l.length ≤ (l.filter fun x => decide (x ≠ n)).length + 1 := by
      clear e h
      induction l with
      | nil => simp
      | cons a r ih =>
        obtain ⟨h1, h2⟩ := List.pairwise_cons.1 hp
        by_cases ha : a = n
        · subst ha
          have : r.filter (fun x => decide (x ≠ a)) = r := List.filter_eq_self.2 (fun x hx => by simp; exact (h1 x hx).symm)
          simp only [List.filter_cons, ne_eq, not_true_eq_false, decide_false, Bool.false_eq_true, if_false, List.length_cons]
          rw [show (r.filter fun x => decide (¬ x = a)) = r from this]; omega
        · simp only [List.filter_cons, ne_eq, ha, not_false_eq_true, decide_true, if_true, List.length_cons]
          have := ih h2; simp only [ne_eq] at this; omega
    omega
theorem own_few {D : DataW Value} {n : Nat} (h : w.ownsMap P K heldElem b n D) (hk : P.underlying K = some (.int .i64)) (hR : Reads D f) (hf : ∀ k, (f k).isSome → 0 ≤ k ∧ k < 2048) : w.ownsMap P K heldElem b 2048 D := by
  obtain ⟨es, clock, hb, Ft, hs, hD⟩ := h
  refine ⟨es, clock, hb, Ft, ?_, hD⟩
  have keys : ∀ x ∈ es.toList, ∃ k : Int, x.key = .int .i64 k ∧ 0 ≤ k ∧ k < 2048 := fun x hx => by
    obtain ⟨y, hy⟩ := Ft.reads x hx
    obtain ⟨k, e1, e2, e3⟩ := Maps.keyOf_int_inv hk (WideElems.rd_key hy)
    refine ⟨k, e1, hf k ?_⟩
    rw [← hR.has k, hD]
    exact List.any_eq_true.2 ⟨WideElems.rg P K heldElem x, mem_sorted.2 (List.mem_map.2 ⟨x, hx, rfl⟩), by rw [WideElems.rg_of hy, e2]; exact WideAt.sameKey_self (keyI_key k)⟩
  have hp : (es.toList.map fun x => (match x.key with | .int _ k => k.toNat | _ => 0)).Pairwise (· ≠ ·) := by
    rw [List.pairwise_map]
    have hpw : es.toList.Pairwise (fun x y => x.key ≠ y.key) := ((MapKept.stamped_iff es clock).1 Ft.stamped).2.2
    refine List.Pairwise.imp_of_mem ?_ hpw
    intro x y hx hy hne e
    obtain ⟨k, e1, k0, _⟩ := keys x hx
    obtain ⟨k', e2, k1, _⟩ := keys y hy
    rw [e1, e2] at e hne
    simp only at e
    exact hne (by rw [show k = k' by omega])
  have := few 2048 _ hp (fun x hx => by
    obtain ⟨y, hy, rfl⟩ := List.mem_map.1 hx
    obtain ⟨k, e1, k0, k1⟩ := keys y hy
    rw [e1]; simp only; omega)
  simpa using this
theorem MpI.store (h : MpI P K w b f) (hk : P.underlying K = some (.int .i64)) (ht : P.underlying t = some (.map K E)) (hf : ∀ k, (f k).isSome → 0 ≤ k ∧ k < 2048) {k : Int} (hw : (Lit.int .i64 k).wf = true) (v : Value) :
    ∃ w', (Instr.mapUpdate t (.map (some b)) (.int .i64 k) v).run P w = .ok () w' ∧ MpI P K w' b (upd f k (some v)) ∧ w.mapTurned w' b := by
  obtain ⟨D, h, hR⟩ := h
  obtain ⟨w', h1, h2, h3⟩ := (own_few h hk hR hf).store (Maps.int_keyed hk) ht (by unfold maxLen; omega) (wfI hw hk) (val := v) (d := .held v) (ps := []) rfl
  exact ⟨w', h1, ⟨_, h2.mono (by omega), hR.put h.isMap k v⟩, h3⟩
theorem MpI.drop (h : MpI P K w b f) (hk : P.underlying K = some (.int .i64)) (ht : P.underlying t = some (.map K E)) {k : Int} (hw : (Lit.int .i64 k).wf = true) (ty : TypeId) :
    ∃ w', (Builtin.delete_ #[t, K] ty #[.map (some b), .int .i64 k]).run P w = .ok (.tuple #[]) w' ∧ MpI P K w' b (upd f k none) ∧ w.mapTurned w' b := by
  obtain ⟨D, h, hR⟩ := h
  obtain ⟨w', h1, h2, h3⟩ := h.drop (Maps.int_keyed hk) ht (wfI hw hk) ty
  exact ⟨w', h1, ⟨_, h2, hR.del k⟩, h3⟩
end
structure Ins (w : World) (a : Option Addr) (n c : Nat) (l : List Int) : Prop where
  len : l.length = n
  le : n ≤ c
  cap : c ≤ maxLen
  wf : ∀ x ∈ l, (Lit.int .i64 x).wf = true
  cell : 0 < n → ∃ b o, a = some ⟨b, o, none⟩ ∧ ∀ i, i < n → w.cell? ⟨b, o + i, none⟩ = some (.int .i64 (l.getD i 0))
theorem Ins.nilSlice (w : World) : Ins w none 0 0 [] := ⟨rfl, Nat.le_refl _, by decide, (fun _ h => by cases h), fun h => absurd h (by omega)⟩
theorem Ins.step {F : Nat → Prop} {w w' : World} {a : Option Addr} {n c : Nat} {l : List Int} (h : Ins w a n c l) (k : Stp F w w') (hF : ∀ x : Addr, 0 < n → a = some x → ¬ F x.block) : Ins w' a n c l :=
  ⟨h.len, h.le, h.cap, h.wf, fun hn => by obtain ⟨b, o, rfl, hc⟩ := h.cell hn; exact ⟨b, o, rfl, fun i hi => k.cell (hc i hi) (hF ⟨b, o, none⟩ hn rfl)⟩⟩
end Go.Proofs.YtgdnhkdfcjpdiaaGreatDoor
