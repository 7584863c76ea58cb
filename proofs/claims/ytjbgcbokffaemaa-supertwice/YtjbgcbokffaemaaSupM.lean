/-
  Plain words of my own on a disk's shape: its load, what a sector has of it, what is found and what must be mended: no statement is proved here.
-/
import Derived.Test.YtjbgcbokffaemaaGeoA
import Derived.Test.YtjbgcbokffaemaaSealD
namespace Go.Proofs.Ytjbgcbokffaemaa
set_option linter.unusedVariables false

/-- A number's two bytes, the lowest first; and back. -/
def u2 (x : Nat) : List UInt8 := [UInt8.ofNat (x % 256), UInt8.ofNat (x / 256)]
theorem u2_len (x : Nat) : (u2 x).length = 2 := rfl
def get2 (l : List UInt8) (k : Nat) : Nat := (l.getD k 0).toNat + 256 * (l.getD (k + 1) 0).toNat
theorem get2_lt (l : List UInt8) (k : Nat) : get2 l k < 65536 := by
  have := (l.getD k 0).toNat_lt; have := (l.getD (k + 1) 0).toNat_lt; unfold get2; omega
theorem cells_u2 {x : Nat} (h : x < 65536) : cells (u2 x) = [.int .u8 ((x : Int) % 256), .int .u8 ((x : Int) / 256)] := by
  unfold u2 cells
  simp only [List.map_cons, List.map_nil, Extern.Stop.cell]
  rw [u8_to (by omega), u8_to (by omega)]
  rw [show Int.ofNat (x % 256) = (x : Int) % 256 from by have : Int.ofNat (x % 256) = ((x % 256 : Nat) : Int) := rfl; omega, show Int.ofNat (x / 256) = (x : Int) / 256 from by have : Int.ofNat (x / 256) = ((x / 256 : Nat) : Int) := rfl; omega]
theorem Gm.ext3 {s t : Gm} (h0 : s.g = t.g) (h1 : s.i = t.i) (h2 : s.d = t.d) : s = t := by
  cases s; cases t; simp only at h0 h1 h2; subst h0; subst h1; subst h2; rfl
def Gm.zero : Gm := ⟨0, 0, 0⟩
/-- The load of a shape. -/
def ldL (s : Gm) : List UInt8 := [83, 67, 85, 80] ++ u2 s.g.toNat ++ u2 s.i.toNat ++ u2 s.d.toNat ++ List.replicate 44 0
def ldP (s : Gm) : Ld := ⟨ldL s, by unfold ldL u2; simp⟩
def spP (s : Gm) : Ld := if s.ok then ldP s else Ld.zero
/-- The shape whose load it is. -/
def nums (p : Ld) : Gm := ⟨(get2 p.l 4 : Nat), (get2 p.l 6 : Nat), (get2 p.l 8 : Nat)⟩
abbrev isS (p : Ld) : Prop := (nums p).ok ∧ ldP (nums p) = p
def sgE (p : Ld) : Int := if isS p then 0 else 22
def sgG (p : Ld) : Gm := if isS p then nums p else Gm.zero
theorem two_back (x : Nat) (h : x < 65536) : (UInt8.ofNat (x % 256)).toNat + 256 * (UInt8.ofNat (x / 256)).toNat = x := by
  rw [u8_to (by omega), u8_to (by omega)]; omega
theorem nums_ldP {s : Gm} (h : s.ok) : nums (ldP s) = s := by
  unfold Gm.ok at h
  have e : (ldP s).l = [83, 67, 85, 80, UInt8.ofNat (s.g.toNat % 256), UInt8.ofNat (s.g.toNat / 256), UInt8.ofNat (s.i.toNat % 256), UInt8.ofNat (s.i.toNat / 256), UInt8.ofNat (s.d.toNat % 256), UInt8.ofNat (s.d.toNat / 256)] ++ List.replicate 44 0 := rfl
  have e4 : get2 (ldP s).l 4 = s.g.toNat := by rw [e]; exact two_back _ (by omega)
  have e6 : get2 (ldP s).l 6 = s.i.toNat := by rw [e]; exact two_back _ (by omega)
  have e8 : get2 (ldP s).l 8 = s.d.toNat := by rw [e]; exact two_back _ (by omega)
  unfold nums
  rw [e4, e6, e8]
  exact Gm.ext3 (by show ((s.g.toNat : Nat) : Int) = s.g; omega) (by show ((s.i.toNat : Nat) : Int) = s.i; omega) (by show ((s.d.toNat : Nat) : Int) = s.d; omega)
theorem isS_ldP {s : Gm} (h : s.ok) : isS (ldP s) := by unfold isS; rw [nums_ldP h]; exact ⟨h, rfl⟩
theorem sgE_ldP {s : Gm} (h : s.ok) : sgE (ldP s) = 0 := if_pos (isS_ldP h)
theorem sgG_ldP {s : Gm} (h : s.ok) : sgG (ldP s) = s := by unfold sgG; rw [if_pos (isS_ldP h), nums_ldP h]
theorem sgE_zero {p : Ld} (h : sgE p = 0) : isS p := by
  unfold sgE at h; split at h; assumption; omega
theorem sg_of {p : Ld} (h : isS p) : (sgG p).ok ∧ ldP (sgG p) = p := by unfold sgG; rw [if_pos h]; exact h
/-- What a formatted sector has. -/
def fB (s : Gm) : Blk := if s.ok then sealK 1 1 (ldP s) else Blk.zero
/-- The shape that a sector has. -/
def siE (b : Blk) : Int := if gE 1 b = 0 then sgE (gP 1 b) else 22
def siG (b : Blk) : Gm := if gE 1 b = 0 then sgG (gP 1 b) else Gm.zero
/-- .. that a sector of a disk of n sectors has. -/
def hasB (b : Blk) (n : Nat) : Bool := decide (siE b = 0 ∧ (siG b).total = (n : Int))
theorem gE_one {b : Blk} : gE 1 b = 0 ↔ oK b = 1 := by
  unfold gE
  rw [show isK 1 = true from rfl, if_pos rfl]
  constructor
  · intro h; split at h <;> omega
  · intro h; rw [if_pos (by omega)]
theorem gP_one {b : Blk} (h : oK b = 1) : gP 1 b = oP b := by unfold gP; rw [if_pos (gE_one.2 h)]
theorem si_own {b : Blk} {s : Gm} (hs : s.ok) (h : oK b = 1) (hp : oP b = ldP s) : siE b = 0 ∧ siG b = s := by
  unfold siE siG
  rw [if_pos (gE_one.2 h), if_pos (gE_one.2 h), gP_one h, hp]
  exact ⟨sgE_ldP hs, sgG_ldP hs⟩
theorem si_ok {b : Blk} (h : siE b = 0) : (siG b).ok ∧ oK b = 1 ∧ oP b = ldP (siG b) := by
  by_cases hg : gE 1 b = 0
  · have hk := gE_one.1 hg
    unfold siE at h; rw [if_pos hg] at h
    unfold siG; rw [if_pos hg]
    have := sg_of (sgE_zero h)
    rw [gP_one hk] at *
    exact ⟨this.1, hk, this.2.symm⟩
  · unfold siE at h; rw [if_neg hg] at h; omega
theorem has_own {b : Blk} {s : Gm} {n : Nat} (hs : s.ok) (h : oK b = 1) (hp : oP b = ldP s) (hn : s.total = (n : Int)) : hasB b n = true := by
  obtain ⟨h1, h2⟩ := si_own hs h hp
  unfold hasB; rw [h1, h2]; simp [hn]
theorem has_ok {b : Blk} {n : Nat} (h : hasB b n = true) : siE b = 0 ∧ (siG b).ok ∧ (siG b).total = (n : Int) ∧ oK b = 1 ∧ oP b = ldP (siG b) := by
  unfold hasB at h
  have h := of_decide_eq_true h
  obtain ⟨a, b, c⟩ := si_ok h.1
  exact ⟨h.1, a, h.2, b, c⟩
theorem has_zero (n : Nat) : hasB Blk.zero n = false := by
  have e : oK Blk.zero = 0 := by
    unfold oK rightB
    rw [show isK (byt Blk.zero 54) = false from rfl]; rfl
  unfold hasB siE
  rw [if_neg (fun h => by have := gE_one.1 h; omega)]
  rfl
theorem total_pos {s : Gm} (h : s.ok) : 9 ≤ s.total ∧ s.total ≤ 1106 := by
  have h2 := Gm.spanB h
  have h3 := Gm.prodB h (k := s.g) (by unfold Gm.ok at h; omega) (by unfold Gm.ok at h; omega)
  have : s.total = 2 + s.g * s.span := if_pos h
  have h4 : 1 * s.span ≤ s.g * s.span := Int.mul_le_mul_of_nonneg_right (by unfold Gm.ok at h; omega) (by omega)
  omega
theorem fB_own {s : Gm} (h : s.ok) : oK (fB s) = 1 ∧ oP (fB s) = ldP s := by
  unfold fB; rw [if_pos h]
  exact ⟨seal_kind 1 1 _ (by omega) (by omega) (by omega), seal_load 1 1 _ (by omega) (by omega) (by omega)⟩
theorem pB_fB {s : Gm} (h : s.ok) : pB 1 1 (spP s) = fB s := by
  unfold pB fB spP; rw [if_pos h, if_pos h]; rfl
/-- Sectors 0 and 1. -/
def s0 (l : List Blk) : Blk := l.getD 0 Blk.zero
def s1 (l : List Blk) : Blk := l.getD 1 Blk.zero
def c0 (l : List Blk) : Bool := decide (2 ≤ l.length) && hasB (s0 l) l.length
def c1 (l : List Blk) : Bool := decide (2 ≤ l.length) && hasB (s1 l) l.length
/-- What is found. -/
def fdE (l : List Blk) : Int := if c0 l then 0 else if c1 l then 0 else 22
def fdI (l : List Blk) : Int := if c0 l then 0 else if c1 l then 1 else 0
def fdG (l : List Blk) : Gm := if c0 l then siG (s0 l) else if c1 l then siG (s1 l) else Gm.zero
theorem fd_ok {l : List Blk} (h : fdE l = 0) : 2 ≤ l.length ∧ (fdG l).ok ∧ (fdG l).total = (l.length : Int) := by
  unfold fdE at h
  unfold fdG
  cases h0 : c0 l
  · cases h1 : c1 l
    · rw [h0, h1] at h; simp at h
    · unfold c1 at h1
      simp only [Bool.and_eq_true, decide_eq_true_eq] at h1
      have := has_ok h1.2
      simp only [Bool.false_eq_true, if_false, if_true]
      exact ⟨h1.1, this.2.1, this.2.2.1⟩
  · unfold c0 at h0
    simp only [Bool.and_eq_true, decide_eq_true_eq] at h0
    have := has_ok h0.2
    simp only [if_true]
    exact ⟨h0.1, this.2.1, this.2.2.1⟩
theorem fdE_or (l : List Blk) : fdE l = 0 ∨ fdE l = 22 := by unfold fdE; split; exact .inl rfl; split; exact .inl rfl; exact .inr rfl
/-- What comes behind a sector, and whether it must be written. -/
def nx (b : Blk) (p : Ld) : Blk := pB 1 (nT b) p
def dueB (b : Blk) (p : Ld) : Bool := !decide (oK b = 1 ∧ oP b = p)
theorem nx_own (b : Blk) (p : Ld) : oK (nx b p) = 1 ∧ oP (nx b p) = p := by
  have e : nx b p = sealK 1 (nT b) p := rfl
  rw [e]
  exact ⟨seal_kind 1 _ _ (by omega) (by omega) (nT_lt b), seal_load 1 _ _ (by omega) (by omega) (nT_lt b)⟩
theorem same_nx (b : Blk) (p : Ld) : sm2 b (nx b p) = !dueB b p := by
  obtain ⟨h1, h2⟩ := nx_own b p
  unfold sm2 dueB
  rw [h1, h2, Bool.not_not]
  by_cases h : oK b = 1
  · rw [if_pos h, if_neg (by omega)]; simp [h]
  · rw [if_neg h]; simp [h]
theorem due_ref (b : Blk) (p : Ld) : (if gE 1 b = 0 then !decide (gP 1 b = p) else true) = dueB b p := by
  unfold dueB
  by_cases h : oK b = 1
  · rw [if_pos (gE_one.2 h), gP_one h]; simp [h]
  · rw [if_neg (fun e => h (gE_one.1 e))]; simp [h]
/-- What must be written. -/
def mdP (l : List Blk) : Ld := spP (fdG l)
def d0 (l : List Blk) : Bool := dueB (s0 l) (mdP l)
def d1 (l : List Blk) : Bool := dueB (s1 l) (mdP l)
def mdF (l : List Blk) : Int → Option Blk := fun k =>
  if fdE l = 0 then (if k = 0 then (if d0 l then some (nx (s0 l) (mdP l)) else none) else if k = 1 then (if d1 l then some (nx (s1 l) (mdP l)) else none) else none) else none
def mdN (l : List Blk) : Nat := if fdE l = 0 then (d0 l).toNat + (d1 l).toNat else 0
def mdL (l : List Blk) : List (Nat × Blk) :=
  if fdE l = 0 then (if d0 l then [(0, nx (s0 l) (mdP l))] else []) ++ (if d1 l then [(1, nx (s1 l) (mdP l))] else []) else []
theorem mdL_len (l : List Blk) : (mdL l).length = mdN l := by
  unfold mdL mdN; split
  · cases d0 l <;> cases d1 l <;> rfl
  · rfl
theorem mdN_le (l : List Blk) : mdN l ≤ 2 := by
  unfold mdN; split
  · cases d0 l <;> cases d1 l <;> simp
  · omega
theorem mdL_in (l : List Blk) (j : Nat) (x : Nat × Blk) (h : (mdL l)[j]? = some x) : mdF l (x.1 : Int) = some x.2 := by
  unfold mdL at h
  unfold mdF
  split at h
  · rename_i he
    rw [if_pos he]
    cases h0 : d0 l <;> cases h1 : d1 l <;> rw [h0, h1] at h
    · simp at h
    · rcases j with _ | j <;> simp at h; subst h; rfl
    · rcases j with _ | j <;> simp at h; subst h; rfl
    · rcases j with _ | _ | j <;> simp at h <;> subst h <;> rfl
  · simp at h
/-- The disk with what must be written, written. -/
def mended (l : List Blk) : List Blk := (l.set 0 ((mdF l 0).getD (s0 l))).set 1 ((mdF l 1).getD (s1 l))
theorem md_own {l : List Blk} (h : fdE l = 0) : (oK ((mdF l 0).getD (s0 l)) = 1 ∧ oP ((mdF l 0).getD (s0 l)) = ldP (fdG l)) ∧ (oK ((mdF l 1).getD (s1 l)) = 1 ∧ oP ((mdF l 1).getD (s1 l)) = ldP (fdG l)) := by
  have hp : mdP l = ldP (fdG l) := if_pos (fd_ok h).2.1
  have f0 : mdF l 0 = if d0 l then some (nx (s0 l) (mdP l)) else none := by unfold mdF; rw [if_pos h, if_pos rfl]
  have f1 : mdF l 1 = if d1 l then some (nx (s1 l) (mdP l)) else none := by unfold mdF; rw [if_pos h, if_neg (by omega), if_pos rfl]
  rw [f0, f1, ← hp]
  constructor
  · cases e : d0 l
    · unfold d0 dueB at e; simp at e; exact e
    · exact nx_own _ _
  · cases e : d1 l
    · unfold d1 dueB at e; simp at e; exact e
    · exact nx_own _ _
theorem mended_ok {l : List Blk} (h : fdE l = 0) : fdE (mended l) = 0 ∧ mdN (mended l) = 0 := by
  obtain ⟨⟨a1, a2⟩, b1, b2⟩ := md_own h
  obtain ⟨h2, hs, hn⟩ := fd_ok h
  have hl : (mended l).length = l.length := by unfold mended; simp
  have e0 : s0 (mended l) = (mdF l 0).getD (s0 l) := by
    unfold s0 mended
    rw [List.getD_eq_getElem?_getD, List.getElem?_set_ne (by omega), List.getElem?_set_self (by omega)]; rfl
  have e1 : s1 (mended l) = (mdF l 1).getD (s1 l) := by
    unfold mended
    conv => lhs; unfold s1
    rw [List.getD_eq_getElem?_getD, List.getElem?_set_self (by simp; omega)]; rfl
  have hc : c0 (mended l) = true := by
    unfold c0; rw [hl, e0, has_own hs a1 a2 hn]; simp; exact h2
  have he : fdE (mended l) = 0 := by unfold fdE; rw [hc]; rfl
  have hg : fdG (mended l) = fdG l := by
    have : fdG (mended l) = siG (s0 (mended l)) := by unfold fdG; rw [hc]; rfl
    rw [this, e0]; exact (si_own hs a1 a2).2
  have hp : mdP (mended l) = ldP (fdG l) := by unfold mdP; rw [hg]; exact if_pos hs
  refine ⟨he, ?_⟩
  unfold mdN d0 d1 dueB
  rw [if_pos he, e0, e1, hp]
  simp [a1, a2, b1, b2]
end Go.Proofs.Ytjbgcbokffaemaa
