/-
  Plain words of my own on inodes: their bytes, their slots in a load, their fields: no statement is proved here.
-/
import Derived.Test.YtadeocphkihamaaSealM
import Derived.Laws.CopyOwn
namespace Go.Proofs.Ytadeocphkihamaa
set_option linter.unusedVariables false
set_option maxRecDepth 100000

/-- A number's two bytes, the lowest first; and back. -/
def lo2 (x : Nat) : List UInt8 := [UInt8.ofNat (x % 256), UInt8.ofNat (x / 256 % 256)]
def at2 (l : List UInt8) (k : Nat) : Nat := (l.getD k 0).toNat + 256 * (l.getD (k + 1) 0).toNat
theorem at2_lt (l : List UInt8) (k : Nat) : at2 l k < 65536 := by
  have := (l.getD k 0).toNat_lt; have := (l.getD (k + 1) 0).toNat_lt; unfold at2; omega
theorem back2 (x : Nat) (h : x < 65536) : (UInt8.ofNat (x % 256)).toNat + 256 * (UInt8.ofNat (x / 256 % 256)).toNat = x := by
  rw [u8_to (by omega), u8_to (by omega)]; omega
theorem ints_lo2 {x : Nat} (h : x < 65536) : ints (lo2 x) = [(x : Int) % 256, (x : Int) / 256] := by
  unfold ints lo2
  simp only [List.map_cons, List.map_nil]
  rw [u8_to (by omega), u8_to (by omega)]
  congr 2; omega
/-- An inode. -/
structure Ino where
  k : UInt8
  n : UInt8
  s : UInt32
  d0 : UInt16
  d1 : UInt16
  d2 : UInt16
  d3 : UInt16
  p : UInt16
  q : UInt16
def Ino.zero : Ino := ⟨0, 0, 0, 0, 0, 0, 0, 0, 0⟩
/-- Its cells. -/
def Ino.cs (x : Ino) : List Value := [.int .u8 (x.k.toNat : Int), .int .u8 (x.n.toNat : Int), .int .u32 (x.s.toNat : Int), .int .u16 (x.d0.toNat : Int), .int .u16 (x.d1.toNat : Int), .int .u16 (x.d2.toNat : Int), .int .u16 (x.d3.toNat : Int), .int .u16 (x.p.toNat : Int), .int .u16 (x.q.toNat : Int)]
theorem Ino.cs_one (x : Ino) : ∀ v ∈ x.cs, v.oneCell' = true := by
  intro v hv
  simp only [Ino.cs, List.mem_cons, List.not_mem_nil, or_false] at hv
  rcases hv with rfl | rfl | rfl | rfl | rfl | rfl | rfl | rfl | rfl <;> rfl
/-- Its bytes. -/
def iL (x : Ino) : List UInt8 := [x.k, x.n] ++ u4 x.s.toNat ++ lo2 x.d0.toNat ++ lo2 x.d1.toNat ++ lo2 x.d2.toNat ++ lo2 x.d3.toNat ++ lo2 x.p.toNat ++ lo2 x.q.toNat
theorem iL_len (x : Ino) : (iL x).length = 18 := rfl
/-- The inode of bytes. -/
def pt (l : List UInt8) (k : Nat) : UInt16 := UInt16.ofNat (at2 l k)
def qt (l : List UInt8) (k : Nat) : UInt32 := UInt32.ofNat (get4 l k)
def gI (l : List UInt8) : Ino := ⟨l.getD 0 0, l.getD 1 0, qt l 2, pt l 6, pt l 8, pt l 10, pt l 12, pt l 14, pt l 16⟩
theorem u16_back (x : UInt16) : UInt16.ofNat ((UInt8.ofNat (x.toNat % 256)).toNat + 256 * (UInt8.ofNat (x.toNat / 256 % 256)).toNat) = x := by
  have := x.toNat_lt
  rw [back2 _ (by omega)]; exact UInt16.ofNat_toNat
theorem u32_back (x : UInt32) : UInt32.ofNat (num4 (UInt8.ofNat (x.toNat % 256)) (UInt8.ofNat (x.toNat / 256 % 256)) (UInt8.ofNat (x.toNat / 65536 % 256)) (UInt8.ofNat (x.toNat / 16777216 % 256))) = x := by
  have := x.toNat_lt
  rw [num4_u4 (by omega)]; exact UInt32.ofNat_toNat
theorem gI_iL (x : Ino) : gI (iL x) = x := by
  obtain ⟨k, n, s, d0, d1, d2, d3, p, q⟩ := x
  show Ino.mk k n (UInt32.ofNat (num4 _ _ _ _)) (UInt16.ofNat (_ + 256 * _)) (UInt16.ofNat (_ + 256 * _)) (UInt16.ofNat (_ + 256 * _)) (UInt16.ofNat (_ + 256 * _)) (UInt16.ofNat (_ + 256 * _)) (UInt16.ofNat (_ + 256 * _)) = _
  congr 1
  · exact u32_back s
  · exact u16_back d0
  · exact u16_back d1
  · exact u16_back d2
  · exact u16_back d3
  · exact u16_back p
  · exact u16_back q
/-- Whether an inode may be. -/
abbrev Ino.nil (x : Ino) : Prop := x.k.toNat = 0 ∧ x.n.toNat = 0 ∧ x.s.toNat = 0 ∧ x.d0.toNat = 0 ∧ x.d1.toNat = 0 ∧ x.d2.toNat = 0 ∧ x.d3.toNat = 0 ∧ x.p.toNat = 0 ∧ x.q.toNat = 0
abbrev Ino.may (x : Ino) : Prop := (x.k.toNat = 0 ∧ x.nil) ∨ (x.k.toNat = 1 ∧ x.n.toNat ≤ 200 ∧ x.s.toNat ≤ 48640) ∨ (x.k.toNat = 2 ∧ x.n.toNat ≤ 200 ∧ x.s.toNat ≤ 48640 ∧ x.s.toNat % 64 = 0)
def iE (x : Ino) : Int := if x.may then 0 else 2
/-- Slots of a load. -/
abbrev isSl (k : Int) : Prop := 0 ≤ k ∧ k ≤ 2
def slE (k : Int) : Int := if isSl k then 0 else 2
def slot (p : Ld) (j : Nat) : List UInt8 := (p.l.drop (18 * j)).take 18
theorem slot_len (p : Ld) (j : Nat) (h : j ≤ 2) : (slot p j).length = 18 := by
  have := p.len; unfold slot; simp only [List.length_take, List.length_drop]; omega
def aI (p : Ld) (k : Int) : Ino := if isSl k then gI (slot p k.toNat) else Ino.zero
def puts (p : Ld) (j : Nat) (x : Ino) : Ld := if h : j ≤ 2 then ⟨splice p.l (18 * j) (iL x), by rw [length_splice _ _ _ (by rw [iL_len, p.len]; omega)]; exact p.len⟩ else p
theorem puts_l (p : Ld) (j : Nat) (x : Ino) (h : j ≤ 2) : (puts p j x).l = splice p.l (18 * j) (iL x) := by unfold puts; rw [dif_pos h]
def wI (p : Ld) (k : Int) (x : Ino) : Ld := if isSl k then puts p k.toNat x else Ld.zero
theorem getD_puts (p : Ld) (j : Nat) (x : Ino) (h : j ≤ 2) (i : Nat) : (puts p j x).l.getD i 0 = if 18 * j ≤ i ∧ i < 18 * j + 18 then (iL x).getD (i - 18 * j) 0 else p.l.getD i 0 := by
  have hp := p.len
  have hx := iL_len x
  rw [puts_l p j x h]
  unfold splice
  rw [List.getD_eq_getElem?_getD, List.getD_eq_getElem?_getD, List.getD_eq_getElem?_getD, List.getElem?_append, List.getElem?_append]
  simp only [List.length_take, List.getElem?_take, List.getElem?_drop, hx, hp]
  by_cases h1 : i < 18 * j
  · rw [if_pos (by omega), if_pos h1, if_neg (by omega)]
  · rw [if_neg (by omega)]
    by_cases h2 : i < 18 * j + 18
    · rw [if_pos (by omega), if_pos (by omega)]; congr 2; omega
    · rw [if_neg (by omega), if_neg (by omega)]; congr 2; omega
theorem part_eq (a b : List UInt8) (o n : Nat) (c : Nat) (ha : o + n ≤ a.length) (hb : c + n ≤ b.length) (h : ∀ i, i < n → a.getD (o + i) 0 = b.getD (c + i) 0) : (a.drop o).take n = (b.drop c).take n := by
  apply List.ext_getElem?
  intro i
  rw [List.getElem?_take, List.getElem?_take]
  by_cases hi : i < n
  · rw [if_pos hi, if_pos hi, List.getElem?_drop, List.getElem?_drop]
    have := h i hi
    rw [List.getD_eq_getElem?_getD, List.getD_eq_getElem?_getD, List.getElem?_eq_getElem (by omega), List.getElem?_eq_getElem (by omega)] at this
    rw [List.getElem?_eq_getElem (by omega), List.getElem?_eq_getElem (by omega)]
    exact congrArg some this
  · rw [if_neg hi, if_neg hi]
theorem slot_puts (p : Ld) (j : Nat) (x : Ino) (h : j ≤ 2) : slot (puts p j x) j = iL x := by
  have hx := iL_len x
  have hq := (puts p j x).len
  have := part_eq (puts p j x).l (iL x) (18 * j) 18 0 (by omega) (by omega) (fun i hi => by rw [getD_puts p j x h, if_pos (by omega)]; congr 1; omega)
  rw [List.drop_zero, List.take_of_length_le (l := iL x) (by omega)] at this
  exact this
theorem slot_other (p : Ld) (j i : Nat) (x : Ino) (h : j ≤ 2) (hi : i ≤ 2) (hn : i ≠ j) : slot (puts p j x) i = slot p i := by
  have hp := p.len
  have hq := (puts p j x).len
  exact part_eq _ _ _ _ _ (by omega) (by omega) (fun m hm => by rw [getD_puts p j x h, if_neg (by omega)])
/-- Fields: where each begins, and how many bytes it has. -/
abbrev isF (f : Int) : Prop := 0 ≤ f ∧ f ≤ 9
def fAt (f : Nat) : Nat := [0, 1, 2, 6, 8, 10, 12, 14, 16, 2].getD f 0
def fSz (f : Nat) : Nat := [18, 1, 4, 2, 2, 2, 2, 2, 2, 16].getD f 0
theorem f_le (f : Nat) (h : f ≤ 9) : fAt f + fSz f ≤ 18 ∧ 1 ≤ fSz f := by
  have : f = 0 ∨ f = 1 ∨ f = 2 ∨ f = 3 ∨ f = 4 ∨ f = 5 ∨ f = 6 ∨ f = 7 ∨ f = 8 ∨ f = 9 := by omega
  rcases this with rfl | rfl | rfl | rfl | rfl | rfl | rfl | rfl | rfl | rfl <;> decide
def oA (k f : Int) : Int := if isSl k ∧ isF f then 18 * k + fAt f.toNat else 0
def oZ (k f : Int) : Int := if isSl k ∧ isF f then fSz f.toNat else 0
def oE (k f : Int) : Int := if isSl k ∧ isF f then 0 else 2
def fPart (x : Ino) (f : Nat) : List UInt8 := ((iL x).drop (fAt f)).take (fSz f)
def fB (x : Ino) (f : Int) : List UInt8 := if isF f then fPart x f.toNat else []
def fN (f : Int) : Nat := if isF f then fSz f.toNat else 0
theorem fPart_len (x : Ino) (f : Nat) (h : f ≤ 9) : (fPart x f).length = fSz f := by
  have := f_le f h; have := iL_len x; unfold fPart; simp only [List.length_take, List.length_drop]; omega
theorem part_puts (p : Ld) (j : Nat) (x : Ino) (f : Nat) (h : j ≤ 2) (hf : f ≤ 9) : ((puts p j x).l.drop (18 * j + fAt f)).take (fSz f) = fPart x f := by
  have hle := f_le f hf
  have hx := iL_len x
  have hq := (puts p j x).len
  exact part_eq _ _ _ _ _ (by omega) (by omega) (fun m hm => by rw [getD_puts p j x h, if_pos (by omega)]; congr 1; omega)
end Go.Proofs.Ytadeocphkihamaa
