/-
  Texts of my own, joined: no statement is proved here.
-/
import Derived.OrdersHeld
import Derived.WalkKit
import Derived.ProofKit
import Derived.OpenShut
import Derived.Handy
import Derived.Outline
import Derived.ShutString
import Derived.ChangeOld
import Derived.Below
import Derived.Laws.BitsAllLaws
import Derived.Laws.BytesArg
import Derived.WalkSpells
import Derived.WalkLawsBesides
import Derived.Deep.QuietTactic
import Derived.BigQuiet
import Derived.Deep.RegionHeld3
import Derived.Deep.DrawnRows
import Derived.Deep.Matrix
import Derived.Deep.AppendLies
import Derived.Laws.OwnMore
import Derived.Deep.SlicePairs
set_option linter.unusedSimpArgs false
set_option linter.unusedVariables false
namespace Go.Proofs.YtennaimdffohfaaGreatDoor
open Go.ChangeShapes Go.WideShapes Go.ChangeAt Go.RowKit
theorem zp (a : Act) (i : Tmp) (v : Value) : a.put (some i) v = { a with tmps := a.tmps.setIfInBounds i v } := rfl
theorem zq {α : Type} (l : List α) (i : Nat) (x : α) : l.toArray.setIfInBounds i x = (l.set i x).toArray := List.setIfInBounds_toArray ..
theorem zr {α : Type} (x y : α) (l : List α) : (x :: l).set 0 y = y :: l := rfl
theorem zn (a : Act) (v : Value) : a.put none v = a := rfl
theorem zs {α : Type} (x y : α) (l : List α) (n : Nat) : (x :: l).set (n + 1) y = x :: l.set n y := rfl
theorem tk {P : Program} {md : Region.Mode} {ops : Array Oper} {Q : Exit → Act → World → Prop} {S : World → Prop} {i : Nat} {oi : Oper} {v : Value} {fuel : Nat} {listed : Array Bool} {a : Act} {w : World} (hi : ops[i]? = some oi) (hy : YieldsIf P ops S oi v a) (hS : S w) (h : wpAnyH P md ops Q S fuel (listed.setIfInBounds i true) (a.put oi.dst v) w)
    (hs : Region.noSelect ops = true := by kernel_rfl) (hf : Region.free md ops listed i = true := by kernel_rfl) (hr : (Region.ready md ops listed).contains i = true := by kernel_rfl) (hQ : ∀ c a w, Q (.panic c) (a.put oi.dst v) w → Q (.panic c) a w := by exact fun _ _ _ h => h) : wpAnyH P md ops Q S (fuel + 1) listed a w :=
  wpAnyH_take hi hs hf hr hQ hy hS h
theorem z : (∀ (a : Act) (i : Tmp) (v : Value), a.put (some i) v = { a with tmps := a.tmps.setIfInBounds i v }) ∧ (∀ (a : Act) (v : Value), a.put none v = a) ∧ (∀ (α : Type) (l : List α) (i : Nat) (x : α), l.toArray.setIfInBounds i x = (l.set i x).toArray) ∧ (∀ (α : Type) (x y : α) (l : List α), (x :: l).set 0 y = y :: l) ∧ (∀ (α : Type) (x y : α) (l : List α) (n : Nat), (x :: l).set (n + 1) y = x :: l.set n y) :=
  ⟨zp, zn, fun _ => zq, fun _ => zr, fun _ => zs⟩
theorem gi {ops : Array Oper} {i : Nat} {o : Oper} {r : List Oper} (h : ops.toList.drop i = o :: r) : ops[i]? = some o := by
  have e : (ops.toList.drop i)[0]? = some o := by rw [h]; rfl
  rw [List.getElem?_drop, Nat.add_zero, Array.getElem?_toList] at e; exact e
theorem tm {P : Program} {md : Region.Mode} {ops : Array Oper} {Q : Exit → Act → World → Prop} {S : World → Prop} {oi : Oper} {r : List Oper} {fuel : Nat} {listed : Array Bool} {a : Act} {w : World} (i : Nat) (v : Value) (hi : ops.toList.drop i = oi :: r) (hy : YieldsIf P ops S oi v a) (h : wpAnyH P md ops Q S fuel (listed.setIfInBounds i true) (a.put oi.dst v) w)
    (hS : S w := by assumption) (hs : Region.noSelect ops = true := by kernel_rfl) (hf : Region.free md ops listed i = true := by kernel_rfl) (hr : (Region.ready md ops listed).contains i = true := by kernel_rfl) (hQ : ∀ c a w, Q (.panic c) (a.put oi.dst v) w → Q (.panic c) a w := by exact fun _ _ _ h => h) : wpAnyH P md ops Q S (fuel + 1) listed a w :=
  wpAnyH_take (gi hi) hs hf hr hQ hy hS h
theorem tl {P : Program} {md : Region.Mode} {ops : Array Oper} {Q : Exit → Act → World → Prop} {S : World → Prop} {oi : Oper} {r : List Oper} {fuel : Nat} {listed : Array Bool} {a : Act} {w : World} (i : Nat) (v : Value) (hi : ops.toList.drop i = oi :: r) (h : wpAnyH P md ops Q S fuel (listed.setIfInBounds i true) (a.put oi.dst v) w)
    (y : ∀ u, S u → (execOp a.eval oi).run P u = .ok (.value v) u := by intro u hu; go_simp) (hw : Region.wanted oi (yielded ops a.tmps) = true := by rfl) (hS : S w := by assumption) (hs : Region.noSelect ops = true := by kernel_rfl) (hf : Region.free md ops listed i = true := by kernel_rfl) (hr : (Region.ready md ops listed).contains i = true := by kernel_rfl) (hQ : ∀ c a w, Q (.panic c) (a.put oi.dst v) w → Q (.panic c) a w := by exact fun _ _ _ h => h) : wpAnyH P md ops Q S (fuel + 1) listed a w :=
  wpAnyH_take (gi hi) hs hf hr hQ (Or.inl ⟨hw, y⟩) hS h
theorem rd {P : Program} {md : Region.Mode} {ops : Array Oper} {Q : Exit → Act → World → Prop} {S : World → Prop} {fuel : Nat} {listed : Array Bool} {a : Act} {w : World} {o : Oper} {r : List Oper} (i : Nat) (hi : ops.toList.drop i = o :: r)
    (h : ∀ K' : Act → World → Prop, Shut (∀ a w, S w → (S w → wpAnyH P md ops Q S fuel (listed.setIfInBounds i true) a w) → K' a w) → if Region.wanted o (yielded ops a.tmps) = true then Oper.wp P o a w K' Q else K' (a.put o.dst undef) w) (hr : Region.ready md ops listed = [i] := by kernel_rfl) : wpAnyH P md ops Q S (fuel + 1) listed a w :=
  wpAnyH_ready hr (by simp) (AllReadyH.cons (gi hi) h AllReadyH.nil)
end Go.Proofs.YtennaimdffohfaaGreatDoor
namespace Go.Proofs.YtennaimdffohfaaGreatDoor
open Go.ChangeShapes Go.WideShapes Go.ChangeAt Go.RowKit
structure Bs (w : World) (a : Option Addr) (n c : Nat) (l : List Int) : Prop where
  len : l.length = n
  le : n ≤ c
  cap : c ≤ maxLen
  nil : a = none → c = 0
  byte : ∀ x ∈ l, 0 ≤ x ∧ x ≤ 255
  cell : 0 < n → ∃ b o, a = some ⟨b, o, none⟩ ∧ ∀ i, i < n → w.cell? ⟨b, o + i, none⟩ = some (.int .u8 (l.getD i 0))
theorem Bs.range {w : World} {a : Option Addr} {n c : Nat} {l : List Int} (h : Bs w a n c l) (i : Nat) : 0 ≤ l.getD i 0 ∧ l.getD i 0 ≤ 255 := by
  by_cases hi : i < l.length
  · rw [List.getD_eq_getElem?_getD, List.getElem?_eq_getElem hi]; exact h.byte _ (List.getElem_mem hi)
  · rw [List.getD_eq_getElem?_getD, List.getElem?_eq_none (by omega)]; simp
theorem Bs.range' {w : World} {a : Option Addr} {n c : Nat} {l : List Int} (h : Bs w a n c l) (i : Nat) : 0 ≤ l[i]?.getD 0 ∧ l[i]?.getD 0 ≤ 255 := by
  have := h.range i; rwa [List.getD_eq_getElem?_getD] at this
theorem Bs.later {w w' : World} {a : Option Addr} {n c : Nat} {l : List Int} (h : Bs w a n c l) (hb : Below w.heap.size w w') : Bs w' a n c l := by
  refine ⟨h.len, h.le, h.cap, h.nil, h.byte, fun hn => ?_⟩
  obtain ⟨b, o, rfl, hc⟩ := h.cell hn
  refine ⟨b, o, rfl, fun i hi => ?_⟩
  rw [hb.cell (p := ⟨b, o + i, none⟩) (World.block_lt_of_cell? w ⟨b, o + i, none⟩ (hc i hi))]
  exact hc i hi
theorem below_drewN (w : World) (k : Nat) : Below w.heap.size w (w.drewN k) := ⟨rfl, rfl, rfl, Nat.le_refl _, fun _ _ => rfl⟩
theorem bstep {B B' : Nat} {a b c : World} (h : Below B a b) (k : Below B' b c) (hB : B ≤ B') : Below B a c := h.trans (k.mono hB)
theorem Bs.drewN {w : World} {a : Option Addr} {n c : Nat} {l : List Int} (h : Bs w a n c l) (k : Nat) : Bs (w.drewN k) a n c l := h.later (below_drewN w k)
theorem Bs.news {w : World} {x : Addr} {n c : Nat} {l : List Int} (h : Bs w (some x) n c l) (o : Obj) (j : Nat) (u : Value) (hj : (l.map (Value.int .u8))[j]? = some u) : (w.alloc o).cell? (x.add j) = some u := by
  have hjl : j < l.length := by have := (List.getElem?_eq_some_iff.1 hj).1; simpa using this
  obtain ⟨b, off, hx, hc⟩ := h.cell (by have := h.len; omega)
  obtain rfl : x = ⟨b, off, none⟩ := by simpa using hx
  have hcj := hc j (by have := h.len; omega)
  rw [Addr.add_lit, World.cell?_of_block (Below.heap_alloc w o b (World.block_lt_of_cell? w ⟨b, off + j, none⟩ hcj)), hcj]
  rw [← hj, List.getElem?_map, List.getElem?_eq_getElem hjl]
  simp [List.getD_eq_getElem?_getD, List.getElem?_eq_getElem hjl]
theorem Bs.nilSlice (w : World) : Bs w none 0 0 [] := ⟨rfl, Nat.le_refl _, by decide, fun _ => rfl, (fun _ h => by cases h), fun h => absurd h (by omega)⟩
theorem ret_int {k : IntKind} {a b : Int} (h : a = b) : Ending.returned (.int k a) = .returned (.int k b) := by rw [h]
theorem ret_tup2 {k k' : IntKind} {a b c d : Int} (h : a = b) (h' : c = d) : Ending.returned (.tuple #[.int k a, .int k' c]) = .returned (.tuple #[.int k b, .int k' d]) := by rw [h, h']
def le2 (l : List Int) (k : Nat) : Int := l.getD k 0 + 256 * l.getD (k + 1) 0
def le4 (l : List Int) (k : Nat) : Int := l.getD k 0 + 256 * l.getD (k + 1) 0 + 65536 * l.getD (k + 2) 0 + 16777216 * l.getD (k + 3) 0
theorem or32 (i : Nat) (x y : Int) (h0 : 0 ≤ x) (h1 : x < 2 ^ i) (h2 : 0 ≤ y) (h3 : y < 4294967296) (h4 : y % 2 ^ i = 0) (hx : x < 4294967296) : bits .or .u32 x y = x + y := by
  rw [u32_or x y h0 hx h2 h3]
  obtain ⟨a, rfl⟩ := Int.eq_ofNat_of_zero_le h0
  obtain ⟨b, rfl⟩ := Int.eq_ofNat_of_zero_le h2
  have hb : b % 2 ^ i = 0 := by exact_mod_cast h4
  have ha : a < 2 ^ i := by exact_mod_cast h1
  have := nat_join i b a hb ha
  simp only [Int.toNat_natCast]
  rw [Nat.or_comm, this]; omega
theorem or_le2 (x y : Int) (r0 : 0 ≤ x ∧ x ≤ 255) (r1 : 0 ≤ y ∧ y ≤ 255) : bits .or .u32 (bits .or .u32 0 x) (y * 256) = x + 256 * y := by
  rw [or32 0 0 x (by omega) (by decide) (by omega) (by omega) (by omega) (by decide), or32 8 (0 + x) (y * 256) (by omega) (by omega) (by omega) (by omega) (by omega) (by omega)]; omega
theorem or_le4 (x y z u : Int) (r0 : 0 ≤ x ∧ x ≤ 255) (r1 : 0 ≤ y ∧ y ≤ 255) (r2 : 0 ≤ z ∧ z ≤ 255) (r3 : 0 ≤ u ∧ u ≤ 255) :
    bits .or .u32 (bits .or .u32 (bits .or .u32 (bits .or .u32 0 x) (y * 256)) (z * 65536)) (u * 16777216) = x + 256 * y + 65536 * z + 16777216 * u := by
  rw [or_le2 x y r0 r1, or32 16 (x + 256 * y) (z * 65536) (by omega) (by omega) (by omega) (by omega) (by omega) (by omega),
    or32 24 (x + 256 * y + z * 65536) (u * 16777216) (by omega) (by omega) (by omega) (by omega) (by omega) (by omega)]; omega
def p2 (i : Nat) : Int := 2 ^ (i % 8)
theorem p2_range (i : Nat) : 1 ≤ p2 i ∧ p2 i ≤ 128 := by
  unfold p2
  have h : i % 8 < 8 := Nat.mod_lt _ (by decide)
  match i % 8, h with
  | 0, _ | 1, _ | 2, _ | 3, _ | 4, _ | 5, _ | 6, _ | 7, _ => decide
def bitB (l : List Int) (i : Nat) : Bool := l.getD (i / 8) 0 / p2 i % 2 == 1
theorem and_bit (x : Int) (i : Nat) (h : 0 ≤ x ∧ x ≤ 255) : bits .and .u8 x (p2 i) = x / p2 i % 2 * p2 i := by
  have hp := p2_range i
  rw [u8_and x (p2 i) (by omega) (by omega) (by omega) (by omega)]
  obtain ⟨y, rfl⟩ := Int.eq_ofNat_of_zero_le h.1
  have e : (p2 i).toNat = 2 ^ (i % 8) := by unfold p2; exact_mod_cast Int.toNat_natCast (2 ^ (i % 8))
  rw [e, Int.toNat_natCast, nat_bit]
  unfold p2
  push_cast
  rfl
theorem bit_ne (x : Int) (i : Nat) : (x / p2 i % 2 * p2 i != 0) = (x / p2 i % 2 == 1) := by
  have hp := p2_range i
  have hq : x / p2 i % 2 = 0 ∨ x / p2 i % 2 = 1 := by omega
  rcases hq with h | h <;> rw [h] <;> simp <;> omega
def bnd (n : Nat) (m : Int) : Nat := min m.toNat (8 * n)
theorem bnd_le (n : Nat) (m : Int) : bnd n m ≤ 8 * n := Nat.min_le_right _ _
def cnt (l : List Int) : Nat → Int
  | 0 => 0
  | m + 1 => cnt l m + if bitB l m then 1 else 0
def fz (l : List Int) : Nat → Nat → Int
  | 0, _ => -1
  | f + 1, i => if bitB l i then fz l f (i + 1) else i
theorem own_bs {w : World} {base : Nat} {e : TypeId} {v : Value} {n : Nat} {l : List Int} (h : w.ownsRow base e 1 v n (l.map (Value.int .u8))) (hl : ∀ x ∈ l, 0 ≤ x ∧ x ≤ 255) :
    ∃ a c, v = .slice a n c ∧ Bs w a n c l := by
  obtain ⟨h1, h2⟩ := h
  have hlen : l.length = n := by simpa using h1
  rcases h2 with ⟨rfl, rfl⟩ | ⟨g, cap, cur, rfl, hb, hg, hle, hm, hs, ht⟩
  · exact ⟨none, 0, rfl, hlen, Nat.le_refl _, by decide, fun _ => rfl, hl, fun h => absurd h (by omega)⟩
  · refine ⟨_, cap, rfl, hlen, hle, hm, (fun h => by cases h), hl, fun hn => ⟨g, 0, rfl, fun i hi => ?_⟩⟩
    rw [Nat.zero_add, cell_of_row w g i cur e (0, 0) hg]
    have e1 : (cur.toList.take (n * 1))[i]? = (l.map (Value.int .u8))[i]? := by rw [ht]
    rw [List.getElem?_take, if_pos (by omega)] at e1
    rw [← Array.getElem?_toList, e1, List.getElem?_map, List.getElem?_eq_getElem (by omega)]
    simp [List.getD_eq_getElem?_getD, List.getElem?_eq_getElem (show i < l.length by omega)]
theorem ret_bool {a b : Bool} (h : a = b) : Ending.returned (.bool a) = .returned (.bool b) := by rw [h]
theorem own_form {w : World} {base : Nat} {e : TypeId} {v : Value} {n : Nat} {xs : List Value} (h : w.ownsRow base e 1 v n xs) (hn : 0 < n) :
    ∃ g cap, v = .slice (some ⟨g, 0, none⟩) n cap ∧ base ≤ g ∧ n ≤ cap ∧ cap ≤ maxLen := by
  rcases h.2 with ⟨rfl, rfl⟩ | ⟨g, cap, cur, rfl, hb, hg, hle, hm, hs, ht⟩
  · omega
  · exact ⟨g, cap, rfl, hb, hle, hm⟩
theorem own_cell {w : World} {base : Nat} {e : TypeId} {g n cap : Nat} {l : List Int} (h : w.ownsRow base e 1 (.slice (some ⟨g, 0, none⟩) n cap) n (l.map (Value.int .u8))) (j : Nat) (hj : j < n) :
    w.cell? ⟨g, j, none⟩ = some (.int .u8 (l[j]?.getD 0)) := by
  have hl : l.length = n := by have := h.1; simpa using this
  rw [h.cellAt j (by omega), List.getElem?_map, List.getElem?_eq_getElem (by omega)]
  simp
def putX (x : Int) (i : Nat) (on : Bool) : Int := if on = (x / p2 i % 2 == 1) then x else if on then x + p2 i else x - p2 i
def putB (l : List Int) (i : Nat) (on : Bool) : List Int := l.set (i / 8) (putX (l.getD (i / 8) 0) i on)
theorem or_all : ∀ x, x < 256 → ∀ k, k < 8 → x ||| 2 ^ k = if x / 2 ^ k % 2 = 1 then x else x + 2 ^ k := by decide +kernel
theorem not_all : ∀ x, x < 256 → ∀ k, k < 8 → x &&& (255 - 2 ^ k) = if x / 2 ^ k % 2 = 1 then x - 2 ^ k else x := by decide +kernel
theorem put_all : ∀ x, x < 256 → ∀ k, k < 8 → (x / 2 ^ k % 2 = 1 → 2 ^ k ≤ x) ∧ (x / 2 ^ k % 2 = 0 → x + 2 ^ k ≤ 255) := by decide +kernel
theorem p2_nat (i : Nat) : p2 i = ((2 ^ (i % 8) : Nat) : Int) := by unfold p2; push_cast; rfl
theorem bit_nat (y i : Nat) : ((y : Int) / p2 i % 2 == 1) = decide (y / 2 ^ (i % 8) % 2 = 1) := by
  rw [p2_nat, Bool.eq_iff_iff]; simp only [beq_iff_eq, decide_eq_true_eq]; omega
theorem or_bit (x : Int) (i : Nat) (h : 0 ≤ x ∧ x ≤ 255) : bits .or .u8 x (p2 i) = putX x i true := by
  have hp := p2_range i
  obtain ⟨y, rfl⟩ := Int.eq_ofNat_of_zero_le h.1
  unfold putX
  rw [u8_or _ (p2 i) (by omega) (by omega) (by omega) (by omega), bit_nat, p2_nat, Int.toNat_natCast, Int.toNat_natCast, or_all y (by omega) _ (by omega)]
  by_cases hb : y / 2 ^ (i % 8) % 2 = 1 <;> simp [hb]
theorem not_bit (x : Int) (i : Nat) (h : 0 ≤ x ∧ x ≤ 255) : bits .andNot .u8 x (p2 i) = putX x i false := by
  have hp := p2_range i
  obtain ⟨y, rfl⟩ := Int.eq_ofNat_of_zero_le h.1
  unfold putX
  rw [u8_andNot _ (p2 i) (by omega) (by omega) (by omega) (by omega), bit_nat, p2_nat, Int.toNat_natCast, Int.toNat_natCast, not_all y (by omega) _ (by omega)]
  have := put_all y (by omega) (i % 8) (by omega)
  generalize 2 ^ (i % 8) = q at *
  by_cases hb : y / q % 2 = 1
  · have := this.1 hb; simp [hb]; omega
  · simp [hb]
theorem putX_range (x : Int) (i : Nat) (on : Bool) (h : 0 ≤ x ∧ x ≤ 255) : 0 ≤ putX x i on ∧ putX x i on ≤ 255 := by
  obtain ⟨y, rfl⟩ := Int.eq_ofNat_of_zero_le h.1
  have := put_all y (by omega) (i % 8) (by omega)
  unfold putX
  rw [bit_nat, p2_nat]
  generalize 2 ^ (i % 8) = q at *
  by_cases hb : y / q % 2 = 1
  · have := this.1 hb; cases on <;> simp [hb] <;> omega
  · have := this.2 (by omega); cases on <;> simp [hb] <;> omega
theorem putB_range {l : List Int} (h : ∀ x ∈ l, 0 ≤ x ∧ x ≤ 255) (i : Nat) (on : Bool) : ∀ x ∈ putB l i on, 0 ≤ x ∧ x ≤ 255 := by
  intro x hx
  unfold putB at hx
  rcases List.mem_or_eq_of_mem_set hx with h1 | rfl
  · exact h x h1
  · apply putX_range
    by_cases hi : i / 8 < l.length
    · rw [List.getD_eq_getElem?_getD, List.getElem?_eq_getElem hi]; exact h _ (List.getElem_mem hi)
    · rw [List.getD_eq_getElem?_getD, List.getElem?_eq_none (by omega)]; simp
theorem put_end {w w1 : World} {B : Nat} {e : TypeId} {g n cap i : Nat} {l : List Int} {on : Bool} (hown : w1.ownsRow B e 1 (.slice (some ⟨g, 0, none⟩) n cap) n (l.map (Value.int .u8))) (hbel : Below B w w1) (hg : B ≤ g)
    (y : Int) (hy : y = putX (l[i / 8]?.getD 0) i on) :
    ((w1.setCell ⟨g, i / 8, none⟩ (.int .u8 y)).drew).ownsRow B e 1 (.slice (some ⟨g, 0, none⟩) n cap) n ((putB l i on).map (Value.int .u8)) ∧ Below B w ((w1.setCell ⟨g, i / 8, none⟩ (.int .u8 y)).drew) := by
  have h := (hown.stored (i / 8) (.int .u8 y)).1
  refine ⟨?_, (hbel.setCell hg _).drew⟩
  unfold putB
  rw [List.getD_eq_getElem?_getD, List.map_set, ← hy]
  exact h
theorem le2_range {w : World} {a : Option Addr} {n c : Nat} {l : List Int} (h : Bs w a n c l) (k : Nat) : 0 ≤ le2 l k ∧ le2 l k ≤ 65535 := by
  have := h.range k; have := h.range (k + 1); unfold le2; omega
theorem le4_range {w : World} {a : Option Addr} {n c : Nat} {l : List Int} (h : Bs w a n c l) (k : Nat) : 0 ≤ le4 l k ∧ le4 l k ≤ 4294967295 := by
  have := h.range k; have := h.range (k + 1); have := h.range (k + 2); have := h.range (k + 3); unfold le4; omega
theorem four_range {x y u v : Int} (h : 0 ≤ x ∧ x ≤ 255) (h' : 0 ≤ y ∧ y ≤ 255) (h2 : 0 ≤ u ∧ u ≤ 255) (h3 : 0 ≤ v ∧ v ≤ 255) : ∀ z ∈ [x, y, u, v], 0 ≤ z ∧ z ≤ 255 := by
  intro z hz; simp at hz; rcases hz with rfl | rfl | rfl | rfl <;> assumption
theorem bundrew {B : Nat} {a w : World} (h : Below B a.drew w) : Below B a w := ⟨h.os, h.tape, h.output, h.size, h.block⟩
theorem bnext {B : Nat} {W w w' : World} (h : Below B W w) (k : Below w.heap.size w w') (hB : B ≤ W.heap.size) : Below B W w' :=
  bstep h k (Nat.le_trans hB h.size)
structure Bss (w : World) (a : Option Addr) (n c : Nat) (L : List (List Int)) : Prop where
  len : L.length = n
  le : n ≤ c
  cap : c ≤ maxLen
  cell : 0 < n → ∃ b o, a = some ⟨b, o, none⟩ ∧ ∀ i, i < n → ∃ x y z, w.cell? ⟨b, o + i, none⟩ = some (.slice x y z) ∧ Bs w x y z (L.getD i [])
theorem Bss.later {w w' : World} {a : Option Addr} {n c : Nat} {L : List (List Int)} (h : Bss w a n c L) (hb : Below w.heap.size w w') : Bss w' a n c L := by
  refine ⟨h.len, h.le, h.cap, fun hn => ?_⟩
  obtain ⟨b, o, rfl, hc⟩ := h.cell hn
  refine ⟨b, o, rfl, fun i hi => ?_⟩
  obtain ⟨x, y, z, h1, h2⟩ := hc i hi
  refine ⟨x, y, z, ?_, h2.later hb⟩
  rw [hb.cell (p := ⟨b, o + i, none⟩) (World.block_lt_of_cell? w ⟨b, o + i, none⟩ h1)]
  exact h1
theorem Bss.byte {w : World} {a : Option Addr} {n c : Nat} {L : List (List Int)} (h : Bss w a n c L) : ∀ l ∈ L, ∀ x ∈ l, 0 ≤ x ∧ x ≤ 255 := by
  intro l hl
  obtain ⟨i, hi, rfl⟩ := List.getElem_of_mem hl
  have hn := h.len
  obtain ⟨b, o, rfl, hc⟩ := h.cell (by omega)
  obtain ⟨x, y, z, h1, h2⟩ := hc i (by omega)
  have := h2.byte
  rwa [List.getD_eq_getElem?_getD, List.getElem?_eq_getElem hi] at this
theorem flat_take (L : List (List Int)) (k : Nat) (h : k < L.length) : (L.take (k + 1)).flatten = (L.take k).flatten ++ L.getD k [] := by
  rw [List.take_add_one, List.getElem?_eq_getElem h, List.flatten_append, List.getD_eq_getElem?_getD, List.getElem?_eq_getElem h]
  simp
theorem flat_byte {L : List (List Int)} (h : ∀ l ∈ L, ∀ x ∈ l, 0 ≤ x ∧ x ≤ 255) (k : Nat) : ∀ x ∈ (L.take k).flatten, 0 ≤ x ∧ x ≤ 255 := by
  intro x hx
  obtain ⟨l, hl, hxl⟩ := List.mem_flatten.1 hx
  exact h l (List.mem_of_mem_take hl) x hxl
theorem bss_alloc (w : World) (e : TypeId) (vs : List Value) (L : List (List Int)) (hl : vs.length = L.length) (hm : L.length ≤ maxLen) (h : ∀ i, i < L.length → ∃ x y z, vs[i]? = some (.slice x y z) ∧ Bs w x y z (L.getD i [])) :
    Bss (w.alloc (.cells vs.toArray e)) (some ⟨w.heap.size, 0, none⟩) L.length L.length L := by
  refine ⟨rfl, Nat.le_refl _, hm, fun _ => ⟨_, 0, rfl, fun i hi => ?_⟩⟩
  obtain ⟨x, y, z, h1, h2⟩ := h i hi
  refine ⟨x, y, z, ?_, h2.later ((Below.refl _ w).alloc (Nat.le_refl _) _)⟩
  rw [cell_of_row _ _ _ _ e (0, 0) (heap_alloc_new w _), Nat.zero_add, List.getElem?_toArray, h1]
structure Keep (B : List Nat) (w w' : World) : Prop where
  size : w.heap.size ≤ w'.heap.size
  block : ∀ k, k < w.heap.size → k ∉ B → w'.heap[k]? = w.heap[k]?
theorem keep_below {w w' : World} (h : Below w.heap.size w w') (B : List Nat) : Keep B w w' := ⟨h.size, fun k hk _ => h.block k hk⟩
theorem own_keep {B : List Nat} {w w' : World} {base : Nat} {e : TypeId} {size g n cap : Nat} {xs : List Value} (h : w.ownsRow base e size (.slice (some ⟨g, 0, none⟩) n cap) n xs) (hk : Keep B w w') (hg : g ∉ B) :
    w'.ownsRow base e size (.slice (some ⟨g, 0, none⟩) n cap) n xs := by
  obtain ⟨h1, h2⟩ := h
  refine ⟨h1, ?_⟩
  rcases h2 with ⟨h2, _⟩ | ⟨g', cap', cur, hv, hb, hg', hr⟩
  · cases h2
  · refine .inr ⟨g', cap', cur, hv, hb, ?_, hr⟩
    injection hv with hv; injection hv with hv; injection hv with hv; subst hv
    rw [hk.block g (by
      rcases Nat.lt_or_ge g w.heap.size with hlt | hge
      · exact hlt
      · rw [Array.getElem?_eq_none hge] at hg'; cases hg') hg]
    exact hg'
theorem own_lt {w : World} {base : Nat} {e : TypeId} {size g n cap : Nat} {xs : List Value} (h : w.ownsRow base e size (.slice (some ⟨g, 0, none⟩) n cap) n xs) : base ≤ g ∧ g < w.heap.size := h.lt g rfl
theorem own_bs' {w : World} {base : Nat} {e : TypeId} {g n cap : Nat} {l : List Int} (h : w.ownsRow base e 1 (.slice (some ⟨g, 0, none⟩) n cap) n (l.map (Value.int .u8))) (hl : ∀ x ∈ l, 0 ≤ x ∧ x ≤ 255) : Bs w (some ⟨g, 0, none⟩) n cap l := by
  obtain ⟨a, c, hv, hb⟩ := own_bs h hl
  injection hv with h1 h2 h3
  subst h1; subst h3; exact hb
theorem own_some {w : World} {base : Nat} {e : TypeId} {size : Nat} {v : Value} {n : Nat} {xs : List Value} (h : w.ownsRow base e size v n xs) (hv : v ≠ .slice none 0 0) : ∃ g cap, v = .slice (some ⟨g, 0, none⟩) n cap ∧ n ≤ cap ∧ cap ≤ maxLen := by
  rcases h.2 with ⟨h0, _⟩ | ⟨g, cap, cur, hv', hb, hg, hle, hm, _⟩
  · exact absurd h0 hv
  · exact ⟨g, cap, hv', hle, hm⟩
theorem Bs.cells {w : World} {x : Addr} {n c : Nat} {l : List Int} (h : Bs w (some x) n c l) : ∀ j u, (l.map (Value.int .u8))[j]? = some u → w.cell? (x.add j) = some u := by
  intro j u hj
  have hjl : j < l.length := by have := (List.getElem?_eq_some_iff.1 hj).1; simpa using this
  obtain ⟨b, off, hx, hc⟩ := h.cell (by have := h.len; omega)
  obtain rfl : x = ⟨b, off, none⟩ := by simpa using hx
  rw [Addr.add_lit, hc j (by have := h.len; omega), ← hj, List.getElem?_map, List.getElem?_eq_getElem hjl]
  simp [List.getD_eq_getElem?_getD, List.getElem?_eq_getElem hjl]
structure Step (B : List Nat) (w w' : World) : Prop where
  os : w'.os = w.os
  tape : w'.tape = w.tape
  output : w'.output = w.output
  size : w.heap.size ≤ w'.heap.size
  block : ∀ k, k < w.heap.size → k ∉ B → w'.heap[k]? = w.heap[k]?
theorem Step.refl (B : List Nat) (w : World) : Step B w w := ⟨rfl, rfl, rfl, Nat.le_refl _, fun _ _ _ => rfl⟩
theorem Step.next {B B' : List Nat} {a b c : World} (h : Step B a b) (k : Step B' b c) (hB : ∀ x ∈ B', x ∈ B ∨ a.heap.size ≤ x) : Step B a c :=
  ⟨k.os.trans h.os, k.tape.trans h.tape, k.output.trans h.output, Nat.le_trans h.size k.size, fun i hi hn => by
    rw [k.block i (Nat.lt_of_lt_of_le hi h.size) (fun hm => by rcases hB i hm with e | e; exact hn e; omega), h.block i hi hn]⟩
theorem Step.trans {B : List Nat} {a b c : World} (h : Step B a b) (k : Step B b c) : Step B a c := h.next k fun _ h => .inl h
theorem step_below {w w' : World} (h : Below w.heap.size w w') (B : List Nat) : Step B w w' := ⟨h.os, h.tape, h.output, h.size, fun k hk _ => h.block k hk⟩
theorem step_alloc (w : World) (o : Obj) (B : List Nat) : Step B w (w.alloc o) := step_below ((Below.refl _ w).alloc (Nat.le_refl _) o) B
theorem step_setCell (w : World) (p : Addr) (u : Value) (B : List Nat) (hp : p.block ∈ B ∨ w.heap.size ≤ p.block) : Step B w (w.setCell p u) :=
  ⟨rfl, rfl, rfl, by simp, fun k hk hn => Below.heap_setCell w p u k (fun e => by rcases hp with h | h; exact hn (e ▸ h); omega)⟩
theorem Step.alloc {B : List Nat} {a w : World} (h : Step B a w) (o : Obj) : Step B a (w.alloc o) := h.trans (step_alloc w o B)
theorem Step.setCell {B : List Nat} {a w : World} (h : Step B a w) {p : Addr} (hp : p.block ∈ B ∨ a.heap.size ≤ p.block) (u : Value) : Step B a (w.setCell p u) := by
  refine h.next (B' := [p.block]) (step_setCell w p u _ (.inl (by simp))) ?_
  intro x hx; simp at hx; subst hx; exact hp
theorem Step.drew {B : List Nat} {a w : World} (h : Step B a w) : Step B a w.drew := ⟨h.os, h.tape, h.output, h.size, h.block⟩
theorem Step.cell {B : List Nat} {w w' : World} (h : Step B w w') {p : Addr} {v : Value} (hc : w.cell? p = some v) (hp : p.block ∉ B) : w'.cell? p = some v := by
  rw [World.cell?_of_block (w := w) (h.block p.block (World.block_lt_of_cell? w p hc) hp)]; exact hc
theorem Step.frozen {B : List Nat} {w w' : World} (h : Step B w w') {p : Addr} (hl : p.block < w.heap.size) (hp : p.block ∉ B) : w'.frozen? p = w.frozen? p :=
  World.frozen?_of_block (w := w) (h.block p.block hl hp)
end Go.Proofs.YtennaimdffohfaaGreatDoor
