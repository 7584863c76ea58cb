/-
  Plain words of my own on byte slices in memory and on the numbers that they hold: no statement is proved here.
-/
import Derived.WalkKit
import Derived.ProofKit
import Derived.OpenShut
import Derived.Handy
import Derived.Outline
import Derived.ShutString
import Derived.ChangeOld
import Derived.Below
import Derived.Laws.BitsAllLaws
import Derived.Laws.BytesArg
import Derived.WalkSpells
import Derived.WalkLawsBesides
import Derived.Deep.QuietTactic
import Derived.BigQuiet
import Derived.Deep.RegionHeld3
import Derived.Deep.DrawnRows
namespace Go.Proofs.Ytddglkejegmmmaa
open Go.ChangeShapes Go.WideShapes Go.ChangeAt Go.RowKit

/-- The slice 'a, n, c' reads as the bytes l in the world w. -/
structure Bs (w : World) (a : Option Addr) (n c : Nat) (l : List Int) : Prop where
  len : l.length = n
  le : n ≤ c
  cap : c ≤ maxLen
  nil : a = none → c = 0
  byte : ∀ x ∈ l, 0 ≤ x ∧ x ≤ 255
  cell : 0 < n → ∃ b o, a = some ⟨b, o, none⟩ ∧ ∀ i, i < n → w.cell? ⟨b, o + i, none⟩ = some (.int .u8 (l.getD i 0))

theorem Bs.range {w : World} {a : Option Addr} {n c : Nat} {l : List Int} (h : Bs w a n c l) (i : Nat) : 0 ≤ l.getD i 0 ∧ l.getD i 0 ≤ 255 := by
  by_cases hi : i < l.length
  · rw [List.getD_eq_getElem?_getD, List.getElem?_eq_getElem hi]; exact h.byte _ (List.getElem_mem hi)
  · rw [List.getD_eq_getElem?_getD, List.getElem?_eq_none (by omega)]; simp

/-- The same, in the walk's own spelling. -/
theorem Bs.range' {w : World} {a : Option Addr} {n c : Nat} {l : List Int} (h : Bs w a n c l) (i : Nat) : 0 ≤ l[i]?.getD 0 ∧ l[i]?.getD 0 ≤ 255 := by
  have := h.range i; rwa [List.getD_eq_getElem?_getD] at this

/-- What a slice holds, it holds in every later world that left its memory as it was. -/
theorem Bs.later {w w' : World} {a : Option Addr} {n c : Nat} {l : List Int} (h : Bs w a n c l) (hb : Below w.heap.size w w') : Bs w' a n c l := by
  refine ⟨h.len, h.le, h.cap, h.nil, h.byte, fun hn => ?_⟩
  obtain ⟨b, o, rfl, hc⟩ := h.cell hn
  refine ⟨b, o, rfl, fun i hi => ?_⟩
  rw [hb.cell (p := ⟨b, o + i, none⟩) (World.block_lt_of_cell? w ⟨b, o + i, none⟩ (hc i hi))]
  exact hc i hi

theorem below_drewN (w : World) (k : Nat) : Below w.heap.size w (w.drewN k) := ⟨rfl, rfl, rfl, Nat.le_refl _, fun _ _ => rfl⟩
theorem bdrewN {B : Nat} {a w : World} (h : Below B a w) (k : Nat) : Below B a (w.drewN k) := ⟨h.os, h.tape, h.output, h.size, h.block⟩
theorem bstep {B B' : Nat} {a b c : World} (h : Below B a b) (k : Below B' b c) (hB : B ≤ B') : Below B a c := h.trans (k.mono hB)
theorem Bs.drewN {w : World} {a : Option Addr} {n c : Nat} {l : List Int} (h : Bs w a n c l) (k : Nat) : Bs (w.drewN k) a n c l := h.later (below_drewN w k)

theorem Bs.convert {P : Program} {w : World} {a : Option Addr} {n c : Nat} {l : List Int} (h : Bs w a n c l) (src e dst : TypeId)
    (hs : P.underlying src = some (.slice e)) (he : P.underlying e = some (.int .u8)) (hd : P.underlying dst = some .string) :
    (convert src dst (.slice a n c)).run P w = .ok (.string (strOfNums l)) w := by
  rcases Nat.eq_zero_or_pos n with hn | hn
  · subst hn
    obtain rfl : l = [] := List.eq_nil_of_length_eq_zero h.len
    rw [run_convert_bytes_string w src dst e _ 0 c hs he hd]
    cases a <;> simp [Conv.bytesToString, loadCells]
    all_goals rfl
  · obtain ⟨b, o, rfl, hc⟩ := h.cell hn
    exact run_convert_bytes_arg (P := P) w src e hs he b o n c l h.len hc dst hd

/-- The cells that an append takes from it, also behind a new block. -/
theorem Bs.news {w : World} {x : Addr} {n c : Nat} {l : List Int} (h : Bs w (some x) n c l) (o : Obj) (j : Nat) (u : Value) (hj : (l.map (Value.int .u8))[j]? = some u) : (w.alloc o).cell? (x.add j) = some u := by
  have hjl : j < l.length := by have := (List.getElem?_eq_some_iff.1 hj).1; simpa using this
  obtain ⟨b, off, hx, hc⟩ := h.cell (by have := h.len; omega)
  obtain rfl : x = ⟨b, off, none⟩ := by simpa using hx
  have hcj := hc j (by have := h.len; omega)
  rw [Addr.add_lit, World.cell?_of_block (Below.heap_alloc w o b (World.block_lt_of_cell? w ⟨b, off + j, none⟩ hcj)), hcj]
  rw [← hj, List.getElem?_map, List.getElem?_eq_getElem hjl]
  simp [List.getD_eq_getElem?_getD, List.getElem?_eq_getElem hjl]

theorem Bs.nilSlice (w : World) : Bs w none 0 0 [] := ⟨rfl, Nat.le_refl _, by decide, fun _ => rfl, (fun _ h => by cases h), fun h => absurd h (by omega)⟩


theorem ret_int {k : IntKind} {a b : Int} (h : a = b) : Ending.returned (.int k a) = .returned (.int k b) := by rw [h]

theorem ret_tup2 {k k' : IntKind} {a b c d : Int} (h : a = b) (h' : c = d) : Ending.returned (.tuple #[.int k a, .int k' c]) = .returned (.tuple #[.int k b, .int k' d]) := by rw [h, h']
theorem pow_range (k : Nat) (h : k < 60) : 1 ≤ (2 : Int) ^ k ∧ (2 : Int) ^ k ≤ 576460752303423488 := by
  have h1 : 2 ^ k ≤ 2 ^ 59 := Nat.pow_le_pow_right (by decide) (by omega)
  have h2 : 0 < 2 ^ k := Nat.pow_pos (by decide)
  have h3 : ((2 ^ k : Nat) : Int) = (2 : Int) ^ k := by push_cast; rfl
  rw [← h3]; omega

/-- Two, and four, bytes from a place on, the lowest first. -/
def le2 (l : List Int) (k : Nat) : Int := l.getD k 0 + 256 * l.getD (k + 1) 0
def le4 (l : List Int) (k : Nat) : Int := l.getD k 0 + 256 * l.getD (k + 1) 0 + 65536 * l.getD (k + 2) 0 + 16777216 * l.getD (k + 3) 0

/-- 'or' of numbers whose bits lie apart is their sum. -/
theorem or32 (i : Nat) (x y : Int) (h0 : 0 ≤ x) (h1 : x < 2 ^ i) (h2 : 0 ≤ y) (h3 : y < 4294967296) (h4 : y % 2 ^ i = 0) (hx : x < 4294967296) : bits .or .u32 x y = x + y := by
  rw [u32_or x y h0 hx h2 h3]
  obtain ⟨a, rfl⟩ := Int.eq_ofNat_of_zero_le h0
  obtain ⟨b, rfl⟩ := Int.eq_ofNat_of_zero_le h2
  have hb : b % 2 ^ i = 0 := by exact_mod_cast h4
  have ha : a < 2 ^ i := by exact_mod_cast h1
  have := nat_join i b a hb ha
  simp only [Int.toNat_natCast]
  rw [Nat.or_comm, this]; omega
theorem or_le2 (x y : Int) (r0 : 0 ≤ x ∧ x ≤ 255) (r1 : 0 ≤ y ∧ y ≤ 255) : bits .or .u32 (bits .or .u32 0 x) (y * 256) = x + 256 * y := by
  rw [or32 0 0 x (by omega) (by decide) (by omega) (by omega) (by omega) (by decide), or32 8 (0 + x) (y * 256) (by omega) (by omega) (by omega) (by omega) (by omega) (by omega)]; omega
theorem or_le4 (x y z u : Int) (r0 : 0 ≤ x ∧ x ≤ 255) (r1 : 0 ≤ y ∧ y ≤ 255) (r2 : 0 ≤ z ∧ z ≤ 255) (r3 : 0 ≤ u ∧ u ≤ 255) :
    bits .or .u32 (bits .or .u32 (bits .or .u32 (bits .or .u32 0 x) (y * 256)) (z * 65536)) (u * 16777216) = x + 256 * y + 65536 * z + 16777216 * u := by
  rw [or_le2 x y r0 r1, or32 16 (x + 256 * y) (z * 65536) (by omega) (by omega) (by omega) (by omega) (by omega) (by omega),
    or32 24 (x + 256 * y + z * 65536) (u * 16777216) (by omega) (by omega) (by omega) (by omega) (by omega) (by omega)]; omega

/-- 2 to the i modulo 8. -/
def p2 (i : Nat) : Int := 2 ^ (i % 8)
theorem p2_range (i : Nat) : 1 ≤ p2 i ∧ p2 i ≤ 128 := by
  unfold p2
  have h : i % 8 < 8 := Nat.mod_lt _ (by decide)
  match i % 8, h with
  | 0, _ | 1, _ | 2, _ | 3, _ | 4, _ | 5, _ | 6, _ | 7, _ => decide
/-- Bit i of the bytes l. -/
def bitB (l : List Int) (i : Nat) : Bool := l.getD (i / 8) 0 / p2 i % 2 == 1
theorem and_bit (x : Int) (i : Nat) (h : 0 ≤ x ∧ x ≤ 255) : bits .and .u8 x (p2 i) = x / p2 i % 2 * p2 i := by
  have hp := p2_range i
  rw [u8_and x (p2 i) (by omega) (by omega) (by omega) (by omega)]
  obtain ⟨y, rfl⟩ := Int.eq_ofNat_of_zero_le h.1
  have e : (p2 i).toNat = 2 ^ (i % 8) := by unfold p2; exact_mod_cast Int.toNat_natCast (2 ^ (i % 8))
  rw [e, Int.toNat_natCast, nat_bit]
  unfold p2
  push_cast
  rfl
theorem bit_ne (x : Int) (i : Nat) : (x / p2 i % 2 * p2 i != 0) = (x / p2 i % 2 == 1) := by
  have hp := p2_range i
  have hq : x / p2 i % 2 = 0 ∨ x / p2 i % 2 = 1 := by omega
  rcases hq with h | h <;> rw [h] <;> simp <;> omega
/-- How many of the first m bits there are, where n bytes are. -/
def bnd (n : Nat) (m : Int) : Nat := min m.toNat (8 * n)
theorem bnd_le (n : Nat) (m : Int) : bnd n m ≤ 8 * n := Nat.min_le_right _ _
/-- How many of the first m bits are 1. -/
def cnt (l : List Int) : Nat → Int
  | 0 => 0
  | m + 1 => cnt l m + if bitB l m then 1 else 0
theorem cnt_range (l : List Int) : ∀ m, 0 ≤ cnt l m ∧ cnt l m ≤ m
  | 0 => by simp [cnt]
  | m + 1 => by have := cnt_range l m; simp only [cnt]; split <;> omega
/-- The first bit that is 0, of so many from i on. -/
def fz (l : List Int) : Nat → Nat → Int
  | 0, _ => -1
  | f + 1, i => if bitB l i then fz l f (i + 1) else i
/-- What the call owns, it reads. -/
theorem own_bs {w : World} {base : Nat} {e : TypeId} {v : Value} {n : Nat} {l : List Int} (h : w.ownsRow base e 1 v n (l.map (Value.int .u8))) (hl : ∀ x ∈ l, 0 ≤ x ∧ x ≤ 255) :
    ∃ a c, v = .slice a n c ∧ Bs w a n c l := by
  obtain ⟨h1, h2⟩ := h
  have hlen : l.length = n := by simpa using h1
  rcases h2 with ⟨rfl, rfl⟩ | ⟨g, cap, cur, rfl, hb, hg, hle, hm, hs, ht⟩
  · exact ⟨none, 0, rfl, hlen, Nat.le_refl _, by decide, fun _ => rfl, hl, fun h => absurd h (by omega)⟩
  · refine ⟨_, cap, rfl, hlen, hle, hm, (fun h => by cases h), hl, fun hn => ⟨g, 0, rfl, fun i hi => ?_⟩⟩
    rw [Nat.zero_add, cell_of_row w g i cur e (0, 0) hg]
    have e1 : (cur.toList.take (n * 1))[i]? = (l.map (Value.int .u8))[i]? := by rw [ht]
    rw [List.getElem?_take, if_pos (by omega)] at e1
    rw [← Array.getElem?_toList, e1, List.getElem?_map, List.getElem?_eq_getElem (by omega)]
    simp [List.getD_eq_getElem?_getD, List.getElem?_eq_getElem (show i < l.length by omega)]
/-- Bytes that are told apart by their texts are other bytes. -/
theorem str_eq {l l' : List Int} (h : ∀ x ∈ l, 0 ≤ x ∧ x ≤ 255) (h' : ∀ x ∈ l', 0 ≤ x ∧ x ≤ 255) : ((strOfNums l).toList == (strOfNums l').toList) = decide (l = l') := by
  rw [ByteArray.toList_eq, ByteArray.toList_eq, strOfNums_data, strOfNums_data]
  by_cases e : l = l'
  · subst e; simp
  · have : l.map (fun n => UInt8.ofNat n.toNat) ≠ l'.map (fun n => UInt8.ofNat n.toNat) := fun hm => e (by
      have inj : ∀ (a b : List Int), (∀ x ∈ a, 0 ≤ x ∧ x ≤ 255) → (∀ x ∈ b, 0 ≤ x ∧ x ≤ 255) → a.map (fun n => UInt8.ofNat n.toNat) = b.map (fun n => UInt8.ofNat n.toNat) → a = b := by
        intro a
        induction a with
        | nil => intro b _ _ hb; cases b with
          | nil => rfl
          | cons _ _ => simp at hb
        | cons x xs ih =>
          intro b ha hb he
          cases b with
          | nil => simp at he
          | cons y ys =>
            simp only [List.map_cons, List.cons.injEq] at he
            have hx := ha x (by simp); have hy := hb y (by simp)
            have h8 : (UInt8.ofNat x.toNat).toNat = (UInt8.ofNat y.toNat).toNat := by rw [he.1]
            rw [UInt8.toNat_ofNat', UInt8.toNat_ofNat'] at h8
            rw [show x = y by omega, ih ys (fun z hz => ha z (by simp [hz])) (fun z hz => hb z (by simp [hz])) he.2]
      exact inj l l' h h' hm)
    simp [e, this]
theorem ret_bool {a b : Bool} (h : a = b) : Ending.returned (.bool a) = .returned (.bool b) := by rw [h]
theorem own_form {w : World} {base : Nat} {e : TypeId} {v : Value} {n : Nat} {xs : List Value} (h : w.ownsRow base e 1 v n xs) (hn : 0 < n) :
    ∃ g cap, v = .slice (some ⟨g, 0, none⟩) n cap ∧ base ≤ g ∧ n ≤ cap ∧ cap ≤ maxLen := by
  rcases h.2 with ⟨rfl, rfl⟩ | ⟨g, cap, cur, rfl, hb, hg, hle, hm, hs, ht⟩
  · omega
  · exact ⟨g, cap, rfl, hb, hle, hm⟩
theorem own_cell {w : World} {base : Nat} {e : TypeId} {g n cap : Nat} {l : List Int} (h : w.ownsRow base e 1 (.slice (some ⟨g, 0, none⟩) n cap) n (l.map (Value.int .u8))) (j : Nat) (hj : j < n) :
    w.cell? ⟨g, j, none⟩ = some (.int .u8 (l[j]?.getD 0)) := by
  have hl : l.length = n := by have := h.1; simpa using this
  rw [h.cellAt j (by omega), List.getElem?_map, List.getElem?_eq_getElem (by omega)]
  simp
/-- The bytes l with bit i as 'on' says. -/
def putX (x : Int) (i : Nat) (on : Bool) : Int := if on = (x / p2 i % 2 == 1) then x else if on then x + p2 i else x - p2 i
def putB (l : List Int) (i : Nat) (on : Bool) : List Int := l.set (i / 8) (putX (l.getD (i / 8) 0) i on)
theorem or_all : ∀ x, x < 256 → ∀ k, k < 8 → x ||| 2 ^ k = if x / 2 ^ k % 2 = 1 then x else x + 2 ^ k := by decide +kernel
theorem not_all : ∀ x, x < 256 → ∀ k, k < 8 → x &&& (255 - 2 ^ k) = if x / 2 ^ k % 2 = 1 then x - 2 ^ k else x := by decide +kernel
theorem put_all : ∀ x, x < 256 → ∀ k, k < 8 → (x / 2 ^ k % 2 = 1 → 2 ^ k ≤ x) ∧ (x / 2 ^ k % 2 = 0 → x + 2 ^ k ≤ 255) := by decide +kernel
theorem p2_nat (i : Nat) : p2 i = ((2 ^ (i % 8) : Nat) : Int) := by unfold p2; push_cast; rfl
theorem bit_nat (y i : Nat) : ((y : Int) / p2 i % 2 == 1) = decide (y / 2 ^ (i % 8) % 2 = 1) := by
  rw [p2_nat, Bool.eq_iff_iff]; simp only [beq_iff_eq, decide_eq_true_eq]; omega
theorem or_bit (x : Int) (i : Nat) (h : 0 ≤ x ∧ x ≤ 255) : bits .or .u8 x (p2 i) = putX x i true := by
  have hp := p2_range i
  obtain ⟨y, rfl⟩ := Int.eq_ofNat_of_zero_le h.1
  unfold putX
  rw [u8_or _ (p2 i) (by omega) (by omega) (by omega) (by omega), bit_nat, p2_nat, Int.toNat_natCast, Int.toNat_natCast, or_all y (by omega) _ (by omega)]
  by_cases hb : y / 2 ^ (i % 8) % 2 = 1 <;> simp [hb]
theorem not_bit (x : Int) (i : Nat) (h : 0 ≤ x ∧ x ≤ 255) : bits .andNot .u8 x (p2 i) = putX x i false := by
  have hp := p2_range i
  obtain ⟨y, rfl⟩ := Int.eq_ofNat_of_zero_le h.1
  unfold putX
  rw [u8_andNot _ (p2 i) (by omega) (by omega) (by omega) (by omega), bit_nat, p2_nat, Int.toNat_natCast, Int.toNat_natCast, not_all y (by omega) _ (by omega)]
  have := put_all y (by omega) (i % 8) (by omega)
  generalize 2 ^ (i % 8) = q at *
  by_cases hb : y / q % 2 = 1
  · have := this.1 hb; simp [hb]; omega
  · simp [hb]
theorem putX_range (x : Int) (i : Nat) (on : Bool) (h : 0 ≤ x ∧ x ≤ 255) : 0 ≤ putX x i on ∧ putX x i on ≤ 255 := by
  obtain ⟨y, rfl⟩ := Int.eq_ofNat_of_zero_le h.1
  have := put_all y (by omega) (i % 8) (by omega)
  unfold putX
  rw [bit_nat, p2_nat]
  generalize 2 ^ (i % 8) = q at *
  by_cases hb : y / q % 2 = 1
  · have := this.1 hb; cases on <;> simp [hb] <;> omega
  · have := this.2 (by omega); cases on <;> simp [hb] <;> omega
theorem putB_range {l : List Int} (h : ∀ x ∈ l, 0 ≤ x ∧ x ≤ 255) (i : Nat) (on : Bool) : ∀ x ∈ putB l i on, 0 ≤ x ∧ x ≤ 255 := by
  intro x hx
  unfold putB at hx
  rcases List.mem_or_eq_of_mem_set hx with h1 | rfl
  · exact h x h1
  · apply putX_range
    by_cases hi : i / 8 < l.length
    · rw [List.getD_eq_getElem?_getD, List.getElem?_eq_getElem hi]; exact h _ (List.getElem_mem hi)
    · rw [List.getD_eq_getElem?_getD, List.getElem?_eq_none (by omega)]; simp
theorem put_end {w w1 : World} {B : Nat} {e : TypeId} {g n cap i : Nat} {l : List Int} {on : Bool} (hown : w1.ownsRow B e 1 (.slice (some ⟨g, 0, none⟩) n cap) n (l.map (Value.int .u8))) (hbel : Below B w w1) (hg : B ≤ g)
    (y : Int) (hy : y = putX (l[i / 8]?.getD 0) i on) :
    ((w1.setCell ⟨g, i / 8, none⟩ (.int .u8 y)).drew).ownsRow B e 1 (.slice (some ⟨g, 0, none⟩) n cap) n ((putB l i on).map (Value.int .u8)) ∧ Below B w ((w1.setCell ⟨g, i / 8, none⟩ (.int .u8 y)).drew) := by
  have h := (hown.stored (i / 8) (.int .u8 y)).1
  refine ⟨?_, (hbel.setCell hg _).drew⟩
  unfold putB
  rw [List.getD_eq_getElem?_getD, List.map_set, ← hy]
  exact h
theorem putB_same (l : List Int) (i : Nat) (on : Bool) (h : bitB l i = on) : putB l i on = l := by
  unfold putB putX bitB at *
  rw [if_pos h.symm]
  by_cases hi : i / 8 < l.length
  · rw [List.getD_eq_getElem?_getD, List.getElem?_eq_getElem hi, Option.getD_some, List.set_getElem_self]
  · rw [List.set_eq_of_length_le (by omega)]
theorem putX_up (x : Int) (i : Nat) (h : (x / p2 i % 2 == 1) = false) : x + p2 i = putX x i true := by unfold putX; simp [h]
theorem putX_down (x : Int) (i : Nat) (h : (x / p2 i % 2 == 1) = true) : x - p2 i = putX x i false := by unfold putX; simp [h]
theorem le2_range {w : World} {a : Option Addr} {n c : Nat} {l : List Int} (h : Bs w a n c l) (k : Nat) : 0 ≤ le2 l k ∧ le2 l k ≤ 65535 := by
  have := h.range k; have := h.range (k + 1); unfold le2; omega
theorem le4_range {w : World} {a : Option Addr} {n c : Nat} {l : List Int} (h : Bs w a n c l) (k : Nat) : 0 ≤ le4 l k ∧ le4 l k ≤ 4294967295 := by
  have := h.range k; have := h.range (k + 1); have := h.range (k + 2); have := h.range (k + 3); unfold le4; omega
/-- A slice that was laid just now. -/
theorem bs_made (w : World) (e : TypeId) (l : List Int) (hl : ∀ x ∈ l, 0 ≤ x ∧ x ≤ 255) (hm : l.length ≤ maxLen) : Bs (w.alloc (.cells (l.map (Value.int .u8)).toArray e)) (some ⟨w.heap.size, 0, none⟩) l.length l.length l := by
  refine ⟨rfl, Nat.le_refl _, hm, (fun h => by cases h), hl, fun _ => ⟨_, 0, rfl, fun i hi => ?_⟩⟩
  rw [cell_of_row _ _ _ _ e (0, 0) (heap_alloc_new w _), Nat.zero_add, List.getElem?_toArray, List.getElem?_map, List.getElem?_eq_getElem hi]
  simp [List.getD_eq_getElem?_getD, List.getElem?_eq_getElem hi]
theorem bs_at {w w' : World} {g : Nat} {e : TypeId} (l : List Int) (hl : ∀ x ∈ l, 0 ≤ x ∧ x ≤ 255) (hm : l.length ≤ maxLen) (hg : w.heap.size = g) (hb : Below (g + 1) (w.alloc (.cells (l.map (Value.int .u8)).toArray e)) w') :
    Bs w' (some ⟨g, 0, none⟩) l.length l.length l := by
  subst hg; exact (bs_made w e l hl hm).later (by simpa using hb)
theorem two_range {x y : Int} (h : 0 ≤ x ∧ x ≤ 255) (h' : 0 ≤ y ∧ y ≤ 255) : ∀ z ∈ [x, y], 0 ≤ z ∧ z ≤ 255 := by
  intro z hz; simp at hz; rcases hz with rfl | rfl <;> assumption
theorem four_range {x y u v : Int} (h : 0 ≤ x ∧ x ≤ 255) (h' : 0 ≤ y ∧ y ≤ 255) (h2 : 0 ≤ u ∧ u ≤ 255) (h3 : 0 ≤ v ∧ v ≤ 255) : ∀ z ∈ [x, y, u, v], 0 ≤ z ∧ z ≤ 255 := by
  intro z hz; simp at hz; rcases hz with rfl | rfl | rfl | rfl <;> assumption
end Go.Proofs.Ytddglkejegmmmaa
