/-
  Plain words of my own on names, entries and their slots in a load: no statement is proved here.
-/
import Derived.Test.YtadeocphkihamaaInoM
namespace Go.Proofs.Ytadeocphkihamaa
set_option linter.unusedVariables false

/-- A text of these bytes. -/
def str (l : List UInt8) : ByteArray := ⟨l.toArray⟩
theorem str_size (l : List UInt8) : (str l).size = l.length := by unfold str; simp [ByteArray.size]
theorem str_list (l : List UInt8) : (str l).toList = l := ByteArray.toList_mk l
theorem str_get (l : List UInt8) (k : Nat) (h : k < (str l).size) : (str l)[k]'h = l.getD k 0 := by
  rw [str_size] at h
  rw [List.getD_eq_getElem?_getD, List.getElem?_eq_getElem h]
  show (str l).data[k]'_ = _
  unfold str; exact List.getElem_toArray _
theorem str_of (s : ByteArray) : s = str s.data.toList := by unfold str; simp
theorem str_cut (l : List UInt8) (k : Nat) : (str l).extract 0 k = str (l.take k) := by
  apply ByteArray.ext
  unfold str; simp
/-- What a name is. -/
abbrev okB (b : UInt8) : Prop := 33 ≤ b.toNat ∧ b.toNat ≤ 126 ∧ b.toNat ≠ 47
abbrev hdOk (l : List UInt8) : Prop := 1 ≤ l.length ∧ l.length ≤ 10 ∧ l ≠ [46] ∧ l ≠ [46, 46]
def nm (l : List UInt8) : Bool := decide (hdOk l ∧ ∀ b ∈ l, okB b)
def nE (l : List UInt8) : Int := if nm l = true then 0 else 45
theorem nm_is {l : List UInt8} (h : nm l = true) : hdOk l ∧ ∀ b ∈ l, okB b := of_decide_eq_true h
theorem nm_bad {l : List UInt8} (k : Nat) (hk : k < l.length) (h : ¬ okB (l.getD k 0)) : nm l = false := by
  refine decide_eq_false fun hh => h (hh.2 _ ?_)
  rw [List.getD_eq_getElem?_getD, List.getElem?_eq_getElem hk]; exact List.getElem_mem hk
theorem nm_all {l : List UInt8} (hd : hdOk l) (h : ∀ k, k < l.length → okB (l.getD k 0)) : nm l = true := by
  refine decide_eq_true ⟨hd, fun b hb => ?_⟩
  obtain ⟨k, hk, rfl⟩ := List.getElem_of_mem hb
  have := h k hk
  rwa [List.getD_eq_getElem?_getD, List.getElem?_eq_getElem hk] at this
theorem nm_hd {l : List UInt8} (h : ¬ hdOk l) : nm l = false := decide_eq_false fun hh => h hh.1
/-- An entry. -/
structure Ent where
  n : Int
  s : List UInt8
def Ent.zero : Ent := ⟨0, []⟩
def Ent.cs (e : Ent) : List Value := [.int .i64 e.n, .string (str e.s)]
theorem Ent.cs_one (e : Ent) : ∀ v ∈ e.cs, v.oneCell' = true := by
  intro v hv
  simp only [Ent.cs, List.mem_cons, List.not_mem_nil, or_false] at hv
  rcases hv with rfl | rfl <;> rfl
abbrev Ent.same (x y : Ent) : Prop := x.n = y.n ∧ x.s = y.s
def Ent.sameB (x y : Ent) : Bool := decide (x.same y)
theorem ent_self (x : Ent) : x.sameB x = true := decide_eq_true ⟨rfl, rfl⟩
/-- Its bytes, and whether it may be. -/
abbrev isI (n : Int) : Prop := 1 ≤ n ∧ n ≤ 65535
def dE (e : Ent) : Int := if isI e.n then nE e.s else 2
def dL (e : Ent) : List UInt8 := lo2 e.n.toNat ++ [UInt8.ofNat e.s.length] ++ e.s ++ List.replicate (10 - e.s.length) 0
def z13 : List UInt8 := List.replicate 13 0
def dB (e : Ent) : List UInt8 := if dE e = 0 then dL e else z13
theorem dE_is {e : Ent} (h : dE e = 0) : isI e.n ∧ nm e.s = true := by
  unfold dE at h
  by_cases h1 : isI e.n
  · rw [if_pos h1] at h
    refine ⟨h1, ?_⟩
    unfold nE at h
    by_cases h2 : nm e.s = true
    · exact h2
    · rw [if_neg h2] at h; cases h
  · rw [if_neg h1] at h; cases h
theorem dL_len {e : Ent} (h : e.s.length ≤ 10) : (dL e).length = 13 := by unfold dL lo2; simp; omega
theorem dB_len (e : Ent) : (dB e).length = 13 := by
  unfold dB
  by_cases h : dE e = 0
  · rw [if_pos h]; exact dL_len (nm_is (dE_is h).2).1.2.1
  · rw [if_neg h]; rfl
/-- The entry of bytes, and what a slot is. -/
def rdN (l : List UInt8) : Nat := min (l.getD 2 0).toNat 10
def rdE (l : List UInt8) : Ent := ⟨((pt l 0).toNat : Int), (l.drop 3).take (rdN l)⟩
def tI (l : List UInt8) : Int := if l = z13 then 0 else if dE (rdE l) = 0 ∧ dB (rdE l) = l then 1 else 2
def tE (l : List UInt8) : Ent := if tI l = 1 then rdE l else Ent.zero
theorem rdN_le (l : List UInt8) : rdN l ≤ 10 := by unfold rdN; omega
theorem tI_zero : tI z13 = 0 := by unfold tI; rw [if_pos rfl]
theorem rd_dL {e : Ent} (h : dE e = 0) : rdE (dL e) = e := by
  obtain ⟨⟨h1, h2⟩, h3⟩ := dE_is h
  have hl := (nm_is h3).1.2.1
  obtain ⟨n, s⟩ := e
  obtain ⟨k, rfl⟩ : ∃ k : Nat, n = k := ⟨n.toNat, by simp only at h1; omega⟩
  have e2 : (dL ⟨(k : Int), s⟩).getD 2 0 = UInt8.ofNat s.length := rfl
  have e3 : (dL ⟨(k : Int), s⟩).drop 3 = s ++ List.replicate (10 - s.length) 0 := by unfold dL lo2; simp
  have e0 : pt (dL ⟨(k : Int), s⟩) 0 = UInt16.ofNat ((UInt8.ofNat (k % 256)).toNat + 256 * (UInt8.ofNat (k / 256 % 256)).toNat) := rfl
  simp only at h1 h2 hl
  have hk : k < 65536 := by omega
  have hn : rdN (dL ⟨(k : Int), s⟩) = s.length := by
    unfold rdN; rw [e2, u8_to (by omega)]; omega
  unfold rdE
  rw [hn, e3, e0, back2 k hk, List.take_left]
  congr 1
  rw [UInt16.toNat_ofNat']; omega
theorem dL_some {e : Ent} (h : dE e = 0) : dL e ≠ z13 := by
  intro hh
  have hl := (nm_is (dE_is h).2).1
  have e2 : (dL e).getD 2 0 = UInt8.ofNat e.s.length := rfl
  rw [hh] at e2
  have : (UInt8.ofNat e.s.length).toNat = 0 := by rw [← e2]; rfl
  rw [u8_to (by have := hl.2.1; omega)] at this
  have := hl.1; omega
theorem tI_dL {e : Ent} (h : dE e = 0) : tI (dL e) = 1 := by
  unfold tI
  rw [if_neg (dL_some h), rd_dL h, if_pos ⟨h, by unfold dB; rw [if_pos h]⟩]
theorem tE_dL {e : Ent} (h : dE e = 0) : tE (dL e) = e := by
  unfold tE; rw [if_pos (tI_dL h), rd_dL h]
/-- Slots of a load. -/
abbrev isD (k : Int) : Prop := 0 ≤ k ∧ k ≤ 3
def dslot (p : Ld) (j : Nat) : List UInt8 := (p.l.drop (13 * j)).take 13
theorem dslot_len (p : Ld) (j : Nat) (h : j ≤ 3) : (dslot p j).length = 13 := by
  have := p.len; unfold dslot; simp only [List.length_take, List.length_drop]; omega
def dputs (p : Ld) (j : Nat) (b : List UInt8) : Ld := if h : j ≤ 3 ∧ b.length = 13 then ⟨splice p.l (13 * j) b, by rw [length_splice _ _ _ (by rw [h.2, p.len]; omega)]; exact p.len⟩ else p
theorem dputs_l (p : Ld) (j : Nat) (b : List UInt8) (h : j ≤ 3) (hb : b.length = 13) : (dputs p j b).l = splice p.l (13 * j) b := by unfold dputs; rw [dif_pos ⟨h, hb⟩]
theorem getD_dputs (p : Ld) (j : Nat) (b : List UInt8) (h : j ≤ 3) (hb : b.length = 13) (i : Nat) : (dputs p j b).l.getD i 0 = if 13 * j ≤ i ∧ i < 13 * j + 13 then b.getD (i - 13 * j) 0 else p.l.getD i 0 := by
  have hp := p.len
  rw [dputs_l p j b h hb]
  unfold splice
  rw [List.getD_eq_getElem?_getD, List.getD_eq_getElem?_getD, List.getD_eq_getElem?_getD, List.getElem?_append, List.getElem?_append]
  simp only [List.length_take, List.getElem?_take, List.getElem?_drop, hb, hp]
  by_cases h1 : i < 13 * j
  · rw [if_pos (by omega), if_pos h1, if_neg (by omega)]
  · rw [if_neg (by omega)]
    by_cases h2 : i < 13 * j + 13
    · rw [if_pos (by omega), if_pos (by omega)]; congr 2; omega
    · rw [if_neg (by omega), if_neg (by omega)]; congr 2; omega
theorem dslot_dputs (p : Ld) (j : Nat) (b : List UInt8) (h : j ≤ 3) (hb : b.length = 13) : dslot (dputs p j b) j = b := by
  have hq := (dputs p j b).len
  have := part_eq (dputs p j b).l b (13 * j) 13 0 (by omega) (by omega) (fun i hi => by rw [getD_dputs p j b h hb, if_pos (by omega)]; congr 1; omega)
  rw [List.drop_zero, List.take_of_length_le (l := b) (by omega)] at this
  exact this
theorem dslot_other (p : Ld) (j i : Nat) (b : List UInt8) (h : j ≤ 3) (hb : b.length = 13) (hi : i ≤ 3) (hn : i ≠ j) : dslot (dputs p j b) i = dslot p i := by
  have hp := p.len
  have hq := (dputs p j b).len
  exact part_eq _ _ _ _ _ (by omega) (by omega) (fun m hm => by rw [getD_dputs p j b h hb, if_neg (by omega)])
def atE (p : Ld) (k : Int) : Ent := if isD k then tE (dslot p k.toNat) else Ent.zero
def atI (p : Ld) (k : Int) : Int := if isD k then tI (dslot p k.toNat) else 0
def skE (k : Int) : Int := if isD k then 0 else 2
def wiE (k : Int) (e : Ent) : Int := if isD k then dE e else 2
def wiL (p : Ld) (k : Int) (e : Ent) : Ld := if isD k ∧ dE e = 0 then dputs p k.toNat (dL e) else Ld.zero
def woL (p : Ld) (k : Int) : Ld := if isD k then dputs p k.toNat z13 else Ld.zero
def ofA (k : Int) : Int := if isD k then 13 * k else 0
/-- All entries; where a name is; where there is room. -/
def alls (p : Ld) : Nat → List Ent
  | 0 => []
  | n + 1 => alls p n ++ (if tI (dslot p n) = 1 then [tE (dslot p n)] else [])
abbrev hit (p : Ld) (s : List UInt8) (k : Nat) : Prop := tI (dslot p k) = 1 ∧ (tE (dslot p k)).s = s
def fdK (p : Ld) (s : List UInt8) : Nat → Nat → Int
  | 0, _ => -1
  | m + 1, k => if hit p s k then (k : Int) else fdK p s m (k + 1)
def rmK (p : Ld) : Nat → Nat → Int
  | 0, _ => -1
  | m + 1, k => if tI (dslot p k) = 0 then (k : Int) else rmK p m (k + 1)
def fndE (p : Ld) (s : List UInt8) : Int := fdK p s 4 0
def rm (p : Ld) : Int := rmK p 4 0
theorem alls_le (p : Ld) : ∀ n, (alls p n).length ≤ n
  | 0 => Nat.le_refl _
  | n + 1 => by
    have := alls_le p n
    unfold alls
    by_cases h : tI (dslot p n) = 1
    · rw [if_pos h]; simp; omega
    · rw [if_neg h]; simp; omega
/-- The chapter's example. -/
def ab : Ent := ⟨5, [97, 98]⟩
def ldAb : Ld := dputs Ld.zero 1 (dL ab)
theorem ab_ok : dE ab = 0 := by decide +kernel
theorem ab_dB : dB ab = [5, 0, 2, 97, 98, 0, 0, 0, 0, 0, 0, 0, 0] := by decide +kernel
theorem ab_fnd : fndE ldAb [97, 98] = 1 := by decide +kernel
theorem ab_rm : rm ldAb = 0 := by decide +kernel
end Go.Proofs.Ytadeocphkihamaa
