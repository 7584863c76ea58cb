/-
  Plain words of my own on heads and maps: what is taken, what of it is free, and whether all else is noughts: no statement is proved here.
-/
import Derived.Test.YthanenbjfcndbaaSealM
import Derived.Test.YthanenbjfcndbaaGeoA
import Derived.Laws.CopyOwn
namespace Go.Proofs.Ythanenbjfcndbaa
set_option linter.unusedVariables false

/-- Numbers as bytes. -/
def byts (l : List Int) : List UInt8 := l.map fun x => UInt8.ofNat x.toNat
theorem byts_len (l : List Int) : (byts l).length = l.length := by unfold byts; simp
theorem byts_ints (l : List UInt8) : byts (ints l) = l := by
  unfold ints byts
  rw [List.map_map]
  conv => rhs; rw [← List.map_id l]
  apply List.map_congr_left
  intro x _
  show UInt8.ofNat ((x.toNat : Int)).toNat = x
  rw [Int.toNat_natCast]; exact UInt8.ofNat_toNat
theorem ints_byts {l : List Int} (h : ∀ x ∈ l, 0 ≤ x ∧ x ≤ 255) : ints (byts l) = l := by
  unfold ints byts
  rw [List.map_map]
  conv => rhs; rw [← List.map_id l]
  apply List.map_congr_left
  intro x hx
  have := h x hx
  show ((UInt8.ofNat x.toNat).toNat : Int) = x
  rw [u8_to (by omega)]; omega
theorem ints_inj {a b : List UInt8} (h : ints a = ints b) : a = b := by rw [← byts_ints a, h, byts_ints]
theorem cells_byts {l : List Int} (h : ∀ x ∈ l, 0 ≤ x ∧ x ≤ 255) : (byts l).map Extern.Stop.cell = l.map (Value.int .u8) := by
  unfold byts
  rw [List.map_map]
  apply List.map_congr_left
  intro x hx
  have := h x hx
  show Value.int .u8 (Int.ofNat (UInt8.ofNat x.toNat).toNat) = _
  rw [u8_to (by omega)]
  congr 1
  show ((x.toNat : Nat) : Int) = x
  omega

/-- Bits of bytes, in the bytes of which they are a part. -/
theorem p2_add (a i : Nat) : p2 (8 * a + i) = p2 i := by unfold p2; rw [show (8 * a + i) % 8 = i % 8 by omega]
theorem bit_part (l : List UInt8) (a s i : Nat) (h : i / 8 < s) : bitB (ints ((l.drop a).take s)) i = bitB (ints l) (8 * a + i) := by
  unfold bitB
  rw [p2_add, ints_getD, ints_getD, show (8 * a + i) / 8 = a + i / 8 by omega]
  rw [List.getD_eq_getElem?_getD, List.getElem?_take, if_pos h, List.getElem?_drop, ← List.getD_eq_getElem?_getD]
theorem putX_add (x : Int) (a i : Nat) (on : Bool) : putX x (8 * a + i) on = putX x i on := by unfold putX; rw [p2_add]
/-- The bytes with a bit so. -/
def wB (l : List UInt8) (n : Nat) (on : Bool) : List UInt8 := byts (putB (ints l) n on)
theorem wB_len (l : List UInt8) (n : Nat) (on : Bool) : (wB l n on).length = l.length := by unfold wB putB; rw [byts_len]; simp [ints_len]
theorem wB_set (l : List UInt8) (n : Nat) (on : Bool) : wB l n on = l.set (n / 8) (UInt8.ofNat (putX ((l.getD (n / 8) 0).toNat : Int) n on).toNat) := by
  unfold wB putB
  rw [ints_getD]
  generalize putX _ n on = x
  unfold byts
  rw [List.map_set]
  show (byts (ints l)).set _ _ = _
  rw [byts_ints]
theorem set_part (l : List UInt8) (a s j : Nat) (x : UInt8) (h : a + s ≤ l.length) (hj : j < s) : splice l a (((l.drop a).take s).set j x) = l.set (a + j) x := by
  have h1 : (l.take a).length = a := by simp; omega
  have h2 : ((l.drop a).take s).length = s := by simp; omega
  have e : l = l.take a ++ ((l.drop a).take s ++ l.drop (a + s)) := by
    rw [← List.drop_drop, List.take_append_drop, List.take_append_drop]
  have e2 : l.set (a + j) x = (l.take a ++ ((l.drop a).take s ++ l.drop (a + s))).set (a + j) x := congrArg (fun y => y.set (a + j) x) e
  rw [e2, List.set_append, if_neg (by omega), h1, Nat.add_sub_cancel_left, List.set_append, if_pos (by omega)]
  unfold splice
  rw [List.length_set, h2]
theorem wB_part (l : List UInt8) (a s i : Nat) (on : Bool) (h : a + s ≤ l.length) (hi : i / 8 < s) : splice l a (wB ((l.drop a).take s) i on) = wB l (8 * a + i) on := by
  rw [wB_set, wB_set, putX_add, set_part l a s _ _ h hi, show (8 * a + i) / 8 = a + i / 8 by omega]
  congr 4
  rw [List.getD_eq_getElem?_getD, List.getElem?_take, if_pos hi, List.getElem?_drop, ← List.getD_eq_getElem?_getD]

/-- Is it a group? Its head's load, and the error. -/
abbrev grp (g : Int) : Prop := 0 ≤ g ∧ g < 8
def hL (g : Int) : Ld := if grp g then ⟨UInt8.ofNat g.toNat :: List.replicate 53 0, by simp⟩ else Ld.zero
def hE (g : Int) : Int := if grp g then 0 else 2
def hR (p : Ld) (g : Int) : Bool := decide (grp g ∧ p = hL g)
theorem hR_own (g : Int) : hR (hL g) g = decide (hE g = 0) := by
  unfold hR hE
  by_cases h : grp g
  · simp [h]
  · simp [h]
theorem hL_inj {g o : Int} (hg : grp g) (ho : grp o) (h : hL g = hL o) : o = g := by
  unfold hL at h
  rw [if_pos hg, if_pos ho] at h
  have e := congrArg Subtype.val h
  simp only [List.cons.injEq] at e
  have h8 : (UInt8.ofNat g.toNat).toNat = (UInt8.ofNat o.toNat).toNat := by rw [e.1]
  unfold grp at hg ho
  rw [u8_to (by omega), u8_to (by omega)] at h8
  omega
theorem hR_other {g : Int} (h : hE g = 0) (o : Int) : hR (hL g) o = decide (o = g) := by
  have hg : grp g := by unfold hE at h; split at h; assumption; omega
  unfold hR
  by_cases e : o = g
  · subst e; simp [hg]
  · have : ¬ (grp o ∧ hL g = hL o) := fun h => e (hL_inj hg h.1 h.2)
    simp [e, this]

/-- A place of data, or of inodes; where its map begins and how long it is, in bytes; the error; is it taken? The load with it so; its byte. -/
abbrev plc (k i : Int) : Prop := (k = 0 ∧ 0 ≤ i ∧ i < 128) ∨ (k = 4 ∧ 0 ≤ i ∧ i < 24)
def sA (k : Int) : Nat := if k = 4 then 16 else 0
def sZ (k : Int) : Nat := if k = 0 then 16 else if k = 4 then 3 else 0
def mE (k i : Int) : Int := if plc k i then 0 else 2
def pb (k i : Int) : Nat := 8 * sA k + i.toNat
def mT (p : Ld) (k i : Int) : Bool := decide (plc k i) && bitB (ints p.l) (pb k i)
def mW (p : Ld) (k i : Int) (on : Bool) : Ld := if plc k i then ⟨wB p.l (pb k i) on, by rw [wB_len, p.len]⟩ else Ld.zero
def mB (k i : Int) : Int := if plc k i then ((pb k i / 8 : Nat) : Int) else 0
/-- A map's bytes. -/
def mS (p : Ld) (k : Int) : List UInt8 := (p.l.drop (sA k)).take (sZ k)
theorem s_le (k : Int) : sA k + sZ k ≤ 54 := by
  unfold sA sZ; split <;> split <;> try omega
theorem mS_len (p : Ld) (k : Int) : (mS p k).length = sZ k := by have := s_le k; have := p.len; unfold mS; simp; omega
theorem plc_z {k i : Int} (h : plc k i) : 0 ≤ i ∧ i.toNat / 8 < sZ k ∧ i < 8 * (sZ k : Int) := by
  unfold sZ
  rcases h with ⟨rfl, h0, h1⟩ | ⟨rfl, h0, h1⟩ <;> simp <;> omega
theorem plc_of {k i : Int} (h0 : 0 ≤ i) (h1 : i < 8 * (sZ k : Int)) : plc k i := by
  unfold sZ at h1
  by_cases e0 : k = 0
  · rw [if_pos e0] at h1; exact .inl ⟨e0, h0, by omega⟩
  · rw [if_neg e0] at h1
    by_cases e4 : k = 4
    · rw [if_pos e4] at h1; exact .inr ⟨e4, h0, by omega⟩
    · rw [if_neg e4] at h1; omega
theorem mT_part (p : Ld) {k i : Int} (h : plc k i) : mT p k i = bitB (ints (mS p k)) i.toNat := by
  unfold mT mS pb
  rw [decide_eq_true h, Bool.true_and, bit_part _ _ _ _ (plc_z h).2.1]
theorem mT_no (p : Ld) {k i : Int} (h : ¬ plc k i) : mT p k i = false := by unfold mT; rw [decide_eq_false h]; rfl
theorem mW_part (p : Ld) {k i : Int} (on : Bool) (h : plc k i) : (mW p k i on).l = splice p.l (sA k) (wB (mS p k) i.toNat on) := by
  unfold mW
  rw [if_pos h]
  show wB p.l (pb k i) on = _
  unfold mS pb
  rw [wB_part _ _ _ _ _ (by have := s_le k; have := p.len; omega) (plc_z h).2.1]

/-- How many places a group has; how many are taken, free; the first that is free; is all else noughts? -/
def mN (s : Gm) (k : Int) : Nat := if s.ok then (if k = 0 then s.d.toNat else if k = 4 then 3 * s.i.toNat else 0) else 0
theorem mN_le (s : Gm) (k : Int) : mN s k ≤ 8 * sZ k := by
  unfold mN sZ
  by_cases h : s.ok
  · rw [if_pos h]; unfold Gm.ok at h
    split
    · omega
    · split <;> omega
  · rw [if_neg h]; omega
theorem mN_128 (s : Gm) (k : Int) : mN s k ≤ 128 := by
  have := mN_le s k
  have : sZ k ≤ 16 := by unfold sZ; split <;> try omega
                         split <;> omega
  omega
def mC (p : Ld) (s : Gm) (k : Int) : Int := cnt (ints (mS p k)) (mN s k)
theorem mC_range (p : Ld) (s : Gm) (k : Int) : 0 ≤ mC p s k ∧ mC p s k ≤ mN s k := cnt_range _ _
def mF (p : Ld) (s : Gm) (k : Int) : Int := mN s k - mC p s k
def m1 (p : Ld) (s : Gm) (k f : Int) : Int := fz (ints (mS p k)) (mN s k - f.toNat) f.toNat
theorem bnd_mN (s : Gm) (k : Int) : bnd (sZ k) (mN s k : Int) = mN s k := by have := mN_le s k; unfold bnd; omega
theorem plc_N {s : Gm} {k : Int} {i : Nat} (h : i < mN s k) : plc k (i : Int) := plc_of (by omega) (by have := mN_le s k; omega)
theorem mT_at {p : Ld} {s : Gm} {k : Int} {i : Nat} (h : i < mN s k) : mT p k (i : Int) = bitB (ints (mS p k)) i := by rw [mT_part p (plc_N h), Int.toNat_natCast]
/-- Is it one of a shape's bits? -/
def inB (s : Gm) (i : Nat) : Bool := decide ((i : Int) < s.d) || (decide (128 ≤ (i : Int)) && decide ((i : Int) < 128 + 3 * s.i))
def mK (p : Ld) (s : Gm) : Bool := decide (s.ok) && decide (cnt (ints p.l) 432 = mC p s 0 + mC p s 4)
/-- How many bits that are set are no shape's. -/
def cO (l : List Int) (s : Gm) : Nat → Int
  | 0 => 0
  | n + 1 => cO l s n + if bitB l n && !inB s n then 1 else 0
theorem cO_range (l : List Int) (s : Gm) : ∀ n, 0 ≤ cO l s n
  | 0 => by simp [cO]
  | n + 1 => by have := cO_range l s n; simp only [cO]; split <;> omega
theorem cO_zero (l : List Int) (s : Gm) : ∀ n, cO l s n = 0 ↔ ∀ i, i < n → (bitB l i && !inB s i) = false
  | 0 => by simp [cO]
  | n + 1 => by
    have ih := cO_zero l s n
    have hr := cO_range l s n
    simp only [cO]
    constructor
    · intro h i hi
      split at h
      · omega
      · rename_i hb
        by_cases e : i = n
        · subst e; simpa using hb
        · exact ih.1 (by omega) i (by omega)
    · intro h
      have h1 := h n (by omega)
      rw [if_neg (by rw [h1]; simp), ih.2 (fun i hi => h i (by omega))]; rfl
theorem cnt_parts (p : Ld) (s : Gm) (h : s.ok) : ∀ n, n ≤ 432 → cnt (ints p.l) n = cnt (ints (mS p 0)) (min n s.d.toNat) + cnt (ints (mS p 4)) (min (n - 128) (3 * s.i.toNat)) + cO (ints p.l) s n
  | 0, _ => by simp [cnt, cO]
  | n + 1, hn => by
    have ih := cnt_parts p s h n (by omega)
    have h' := h
    unfold Gm.ok at h'
    simp only [cnt, cO]
    rw [ih]
    by_cases h1 : n < s.d.toNat
    · have e : inB s n = true := by unfold inB; simp; omega
      have eb : bitB (ints (mS p 0)) n = bitB (ints p.l) n := by
        unfold mS; rw [bit_part _ _ _ _ (by unfold sZ; simp; omega)]; unfold sA; simp
      rw [show min (n + 1) s.d.toNat = min n s.d.toNat + 1 by omega, show min (n + 1 - 128) (3 * s.i.toNat) = min (n - 128) (3 * s.i.toNat) by omega]
      simp only [cnt, e]
      rw [show min n s.d.toNat = n by omega, eb]
      cases bitB (ints p.l) n <;> simp <;> omega
    · by_cases h2 : 128 ≤ n ∧ n < 128 + 3 * s.i.toNat
      · have e : inB s n = true := by unfold inB; simp; omega
        have eb : bitB (ints (mS p 4)) (n - 128) = bitB (ints p.l) n := by
          unfold mS; rw [bit_part _ _ _ _ (by unfold sZ; simp; omega)]; unfold sA; simp only [if_true]; rw [show 8 * 16 + (n - 128) = n by omega]
        rw [show min (n + 1) s.d.toNat = min n s.d.toNat by omega, show min (n + 1 - 128) (3 * s.i.toNat) = min (n - 128) (3 * s.i.toNat) + 1 by omega]
        simp only [cnt, e]
        rw [show min (n - 128) (3 * s.i.toNat) = n - 128 by omega, eb]
        cases bitB (ints p.l) n <;> simp <;> omega
      · have e : inB s n = false := by unfold inB; simp; omega
        rw [show min (n + 1) s.d.toNat = min n s.d.toNat by omega, show min (n + 1 - 128) (3 * s.i.toNat) = min (n - 128) (3 * s.i.toNat) by omega]
        simp only [e]
        cases bitB (ints p.l) n <;> simp <;> omega
theorem mK_ok (p : Ld) (s : Gm) (h : s.ok) : mK p s = true ↔ ∀ i, i < 432 → (bitB (ints p.l) i && !inB s i) = false := by
  rw [← cO_zero]
  have hp := cnt_parts p s h 432 (by omega)
  have h' := h
  unfold Gm.ok at h'
  unfold mK mC mN
  simp only [if_pos h, decide_eq_true h, Bool.true_and, decide_eq_true_eq]
  rw [show min 432 s.d.toNat = s.d.toNat by omega, show min (432 - 128) (3 * s.i.toNat) = 3 * s.i.toNat by omega] at hp
  rw [if_pos trivial, if_neg (by decide), if_pos trivial]
  omega
theorem mK_no (p : Ld) (s : Gm) (h : ¬ s.ok) : mK p s = false := by unfold mK; rw [decide_eq_false h]; rfl

/-- A bit that is put is as it was put, and no other one is changed. -/
theorem flip_all : ∀ x, x < 256 → ∀ k, k < 8 → ∀ k', k' < 8 → (x / 2 ^ k % 2 = 0 → (x + 2 ^ k) / 2 ^ k' % 2 = if k = k' then 1 else x / 2 ^ k' % 2) ∧ (x / 2 ^ k % 2 = 1 → (x - 2 ^ k) / 2 ^ k' % 2 = if k = k' then 0 else x / 2 ^ k' % 2) := by decide +kernel
theorem putX_bit (x : Int) (I J : Nat) (on : Bool) (h : 0 ≤ x ∧ x ≤ 255) : (putX x I on / p2 J % 2 == 1) = if I % 8 = J % 8 then on else (x / p2 J % 2 == 1) := by
  obtain ⟨y, rfl⟩ := Int.eq_ofNat_of_zero_le h.1
  have hf := flip_all y (by omega) (I % 8) (by omega) (J % 8) (by omega)
  have hp := put_all y (by omega) (I % 8) (by omega)
  unfold putX
  rw [bit_nat y I, bit_nat y J]
  by_cases hb : y / 2 ^ (I % 8) % 2 = 1
  · have h1 := hf.2 hb
    have h2 := hp.1 hb
    have e : ((y : Int) - p2 I) = ((y - 2 ^ (I % 8) : Nat) : Int) := by rw [p2_nat]; omega
    cases on
    · simp only [hb, decide_true, Bool.false_eq_true, if_false]
      rw [e, bit_nat, h1]
      by_cases hk : I % 8 = J % 8 <;> simp [hk]
    · simp only [hb, decide_true, if_true]
      rw [bit_nat]
      by_cases hk : I % 8 = J % 8
      · rw [if_pos hk, ← hk, decide_eq_true hb]
      · rw [if_neg hk]
  · have hb0 : y / 2 ^ (I % 8) % 2 = 0 := by omega
    have h1 := hf.1 hb0
    have e : ((y : Int) + p2 I) = ((y + 2 ^ (I % 8) : Nat) : Int) := by rw [p2_nat]; omega
    cases on
    · simp only [hb, decide_false, if_true]
      rw [bit_nat]
      by_cases hk : I % 8 = J % 8
      · rw [if_pos hk, ← hk, decide_eq_false hb]
      · rw [if_neg hk]
    · simp only [hb, decide_false, if_true, Bool.true_eq_false, if_false]
      rw [e, bit_nat, h1]
      by_cases hk : I % 8 = J % 8 <;> simp [hk]
theorem putB_bit (l : List Int) (I J : Nat) (on : Bool) (hl : ∀ x ∈ l, 0 ≤ x ∧ x ≤ 255) (hI : I / 8 < l.length) : bitB (putB l I on) J = if I = J then on else bitB l J := by
  have hx : 0 ≤ l.getD (I / 8) 0 ∧ l.getD (I / 8) 0 ≤ 255 := by
    rw [List.getD_eq_getElem?_getD, List.getElem?_eq_getElem hI]; exact hl _ (List.getElem_mem hI)
  unfold bitB putB
  by_cases hq : I / 8 = J / 8
  · have e : (l.set (I / 8) (putX (l.getD (I / 8) 0) I on)).getD (J / 8) 0 = putX (l.getD (I / 8) 0) I on := by
      rw [← hq, List.getD_eq_getElem?_getD, List.getElem?_set_self hI, Option.getD_some]
    rw [e, putX_bit _ I J on hx, ← hq]
    by_cases hk : I % 8 = J % 8
    · rw [if_pos hk, if_pos (by omega)]
    · rw [if_neg hk, if_neg (by omega)]
  · rw [if_neg (by omega)]
    rw [List.getD_eq_getElem?_getD, List.getElem?_set_ne hq, ← List.getD_eq_getElem?_getD]
theorem putX_same (x : Int) (n : Nat) (on : Bool) (h : (x / p2 n % 2 == 1) = on) : putX x n on = x := by unfold putX; rw [if_pos h.symm]
theorem putX_back (x : Int) (n : Nat) (h : 0 ≤ x ∧ x ≤ 255) : putX (putX x n true) n (x / p2 n % 2 == 1) = x := by
  have hb := putX_bit x n n true h
  rw [if_pos rfl] at hb
  cases hx : (x / p2 n % 2 == 1) with
  | true => rw [putX_same x n true hx, putX_same x n true hx]
  | false =>
    have e : putX x n true = x + p2 n := (putX_up x n hx).symm
    rw [← putX_down _ n hb, e]; omega
/-- A place that is taken and given back. -/
theorem ints_wB (l : List UInt8) (n : Nat) (on : Bool) : ints (wB l n on) = putB (ints l) n on := ints_byts (putB_range (ints_byte l) n on)
theorem pb_lt {k i : Int} (h : plc k i) : pb k i / 8 < 54 := by
  have h1 := plc_z h; have h2 := s_le k; unfold pb; omega
theorem mW_T {p : Ld} {k i j : Int} {on : Bool} (hi : plc k i) (hj : plc k j) : mT (mW p k i on) k j = if i = j then on else mT p k j := by
  have hl : pb k i / 8 < (ints p.l).length := by rw [ints_len, p.len]; exact pb_lt hi
  unfold mT mW
  rw [if_pos hi, decide_eq_true hj, Bool.true_and, Bool.true_and]
  show bitB (ints (wB p.l (pb k i) on)) (pb k j) = _
  rw [ints_wB, putB_bit _ _ _ _ (ints_byte _) hl]
  have h1 := (plc_z hi).1; have h2 := (plc_z hj).1
  by_cases e : i = j
  · subst e; simp
  · rw [if_neg e, if_neg (by unfold pb; omega)]
theorem mW_same {p : Ld} {k i : Int} {on : Bool} (hi : plc k i) (h : mT p k i = on) : mW p k i on = p := by
  apply Ld.ext
  unfold mW
  rw [if_pos hi]
  apply ints_inj
  show ints (wB p.l (pb k i) on) = _
  rw [ints_wB]
  refine putB_same _ _ _ ?_
  unfold mT at h; rwa [decide_eq_true hi, Bool.true_and] at h
theorem mW_back {p : Ld} {k i : Int} (hi : plc k i) : mW (mW p k i true) k i (mT p k i) = p := by
  cases h : mT p k i with
  | true => rw [mW_same hi h, mW_same hi h]
  | false =>
    apply Ld.ext
    apply ints_inj
    have hl : pb k i / 8 < p.l.length := by rw [p.len]; exact pb_lt hi
    have hlen : pb k i / 8 < (ints p.l).length := by rw [ints_len]; exact hl
    have hb : bitB (ints p.l) (pb k i) = false := by unfold mT at h; rwa [decide_eq_true hi, Bool.true_and] at h
    unfold mW
    rw [if_pos hi, if_pos hi]
    show ints (wB (wB p.l (pb k i) true) (pb k i) false) = _
    rw [ints_wB, ints_wB]
    unfold putB
    have eg : ∀ y, ((ints p.l).set (pb k i / 8) y).getD (pb k i / 8) 0 = y := fun y => by rw [List.getD_eq_getElem?_getD, List.getElem?_set_self hlen, Option.getD_some]
    rw [eg, List.set_set]
    have hx : 0 ≤ (ints p.l).getD (pb k i / 8) 0 ∧ (ints p.l).getD (pb k i / 8) 0 ≤ 255 := by
      rw [List.getD_eq_getElem?_getD, List.getElem?_eq_getElem hlen]; exact ints_byte _ _ (List.getElem_mem hlen)
    have hk := putX_back _ (pb k i) hx
    unfold bitB at hb
    rw [hb] at hk
    rw [hk, List.getD_eq_getElem?_getD, List.getElem?_eq_getElem hlen, Option.getD_some, List.set_getElem_self]
/-- Where it was free, its byte is another one. -/
theorem mW_byte {p : Ld} {k i : Int} (hi : plc k i) (h : mT p k i = false) : (((mW p k i true).l.getD (pb k i / 8) 0).toNat : Int) ≠ ((p.l.getD (pb k i / 8) 0).toNat : Int) := by
  have hl : pb k i / 8 < p.l.length := by rw [p.len]; exact pb_lt hi
  have hlen : pb k i / 8 < (ints p.l).length := by rw [ints_len]; exact hl
  have hb : bitB (ints p.l) (pb k i) = false := by unfold mT at h; rwa [decide_eq_true hi, Bool.true_and] at h
  rw [← ints_getD, ← ints_getD]
  unfold mW
  rw [if_pos hi]
  show (ints (wB p.l (pb k i) true)).getD _ 0 ≠ _
  rw [ints_wB]
  unfold putB
  rw [List.getD_eq_getElem?_getD, List.getElem?_set_self hlen, Option.getD_some]
  unfold bitB at hb
  rw [← putX_up _ _ hb]
  have := p2_range (pb k i)
  omega
theorem mW_ne {p : Ld} {k i : Int} (hi : plc k i) (h : mT p k i = false) : mW p k i true ≠ p := fun e => mW_byte hi h (by rw [e])
end Go.Proofs.Ythanenbjfcndbaa
