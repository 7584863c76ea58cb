/-
  Plain words of my own on pointers in a load, on ways to a file's blocks, and on blocks that sizes need: no statement is proved here.
-/
import Derived.Test.YtaahljjmofjdmaaInoM
namespace Go.Proofs.Ytaahljjmofjdmaa
set_option linter.unusedVariables false

/-- Places of a load, and the pointers there. -/
abbrev isPl (i : Int) : Prop := 0 ≤ i ∧ i ≤ 26
def plE (i : Int) : Int := if isPl i then 0 else 2
def pG (p : Ld) (i : Int) : UInt16 := if isPl i then pt p.l (2 * i.toNat) else 0
def pS (p : Ld) (j : Nat) (x : UInt16) : Ld := if h : j ≤ 26 then ⟨splice p.l (2 * j) (lo2 x.toNat), by rw [length_splice _ _ _ (by rw [p.len]; simp [lo2]; omega)]; exact p.len⟩ else p
theorem pS_l (p : Ld) (j : Nat) (x : UInt16) (h : j ≤ 26) : (pS p j x).l = splice p.l (2 * j) (lo2 x.toNat) := by unfold pS; rw [dif_pos h]
def pW (p : Ld) (i : Int) (x : UInt16) : Ld := if isPl i then pS p i.toNat x else Ld.zero
theorem splice_two (l : List UInt8) (k : Nat) (a b : UInt8) (h : k + 2 ≤ l.length) : splice l k [a, b] = (l.set k a).set (k + 1) b := by
  obtain ⟨a1, x, y, r, rfl, rfl⟩ : ∃ a1 x y r, l = a1 ++ x :: y :: r ∧ a1.length = k := by
    refine ⟨l.take k, l[k], l[k + 1], l.drop (k + 2), ?_, by rw [List.length_take]; omega⟩
    rw [← List.drop_eq_getElem_cons, ← List.drop_eq_getElem_cons, List.take_append_drop]
  unfold splice
  rw [List.take_left' rfl, ← List.drop_drop, List.drop_left' rfl, List.set_append_right _ _ (Nat.le_refl _), List.set_append_right _ _ (by omega), Nat.sub_self, show a1.length + 1 - a1.length = 1 by omega]
  simp
/-- All pointers of a load, and how many are not 0. -/
def uptoP (f : Nat → UInt16) (k : Nat) : List UInt16 := (List.range k).map f
theorem uptoP_succ (f : Nat → UInt16) (k : Nat) : uptoP f (k + 1) = uptoP f k ++ [f k] := by simp [uptoP, List.range_succ]
theorem uptoP_len (f : Nat → UInt16) (k : Nat) : (uptoP f k).length = k := by simp [uptoP]
theorem uptoP_at (f : Nat → UInt16) (k j : Nat) (h : j < k) : (uptoP f k)[j]? = some (f j) := by simp [uptoP, h]
def usedP (l : List UInt16) : Nat := l.countP (fun x => decide (x.toNat ≠ 0))
theorem usedP_snoc (l : List UInt16) (x : UInt16) : usedP (l ++ [x]) = usedP l + (if x.toNat = 0 then 0 else 1) := by
  unfold usedP
  rw [List.countP_append, List.countP_singleton]
  by_cases h : x.toNat = 0 <;> simp [h]
theorem usedP_le (l : List UInt16) : usedP l ≤ l.length := List.countP_le_length
/-- Ways. -/
structure Wy where
  l : Int
  f : Int
  s : Int
def Wy.zero : Wy := ⟨0, 0, 0⟩
def Wy.cs (x : Wy) : List Value := [.int .i64 x.l, .int .i64 x.f, .int .i64 x.s]
theorem Wy.cs_one (x : Wy) : ∀ v ∈ x.cs, v.oneCell' = true := by
  intro v hv
  simp only [Wy.cs, List.mem_cons, List.not_mem_nil, or_false] at hv
  rcases hv with rfl | rfl | rfl <;> rfl
abbrev isBk (k : Int) : Prop := 0 ≤ k ∧ k < 760
def kE (k : Int) : Int := if isBk k then 0 else 31
def wyK (k : Int) : Wy := if isBk k then (if k < 4 then ⟨0, k, 0⟩ else if k < 31 then ⟨1, k - 4, 0⟩ else ⟨2, (k - 31) / 27, (k - 31) % 27⟩) else Wy.zero
def Wy.same (x y : Wy) : Bool := decide (x.l = y.l ∧ x.f = y.f ∧ x.s = y.s)
theorem Wy.same_self (x : Wy) : x.same x = true := decide_eq_true ⟨rfl, rfl, rfl⟩
abbrev Wy.may (x : Wy) : Prop := (x.l = 0 ∧ 0 ≤ x.f ∧ x.f < 4 ∧ x.s = 0) ∨ (x.l = 1 ∧ 0 ≤ x.f ∧ x.f < 27 ∧ x.s = 0) ∨ (x.l = 2 ∧ 0 ≤ x.f ∧ x.f < 27 ∧ 0 ≤ x.s ∧ x.s < 27)
/-- The block whose way it is. -/
def bkN (x : Wy) : Int := if x.l = 0 then x.f else if x.l = 1 then 4 + x.f else 31 + 27 * x.f + x.s
def bkK (x : Wy) : Int := if x.may then bkN x else 0
def bkE (x : Wy) : Int := if x.may then 0 else 2
theorem bk_is (x : Wy) (h : x.may) : isBk (bkN x) := by
  unfold bkN
  rcases h with ⟨h1, h2, h3, h4⟩ | ⟨h1, h2, h3, h4⟩ | ⟨h1, h2, h3, h4, h5⟩
  · rw [if_pos h1]; exact ⟨by omega, by omega⟩
  · rw [if_neg (by omega), if_pos h1]; exact ⟨by omega, by omega⟩
  · rw [if_neg (by omega), if_neg (by omega)]; exact ⟨by omega, by omega⟩
theorem wy_same (k : Int) (x : Wy) (hk : isBk k) : (wyK k).same x = true ↔ (x.may ∧ k = bkN x) := by
  obtain ⟨l, f, s⟩ := x
  unfold Wy.same wyK
  rw [if_pos hk, decide_eq_true_iff]
  obtain ⟨h0, h7⟩ := hk
  unfold bkN Wy.may
  by_cases h4 : k < 4
  · rw [if_pos h4]
    constructor
    · rintro ⟨e1, e2, e3⟩
      simp only at e1 e2 e3 ⊢
      subst e1; subst e2; subst e3
      exact ⟨.inl ⟨rfl, h0, h4, rfl⟩, by rw [if_pos rfl]⟩
    · rintro ⟨h, e⟩
      simp only at h e ⊢
      rcases h with ⟨a, b, c, d⟩ | ⟨a, b, c, d⟩ | ⟨a, b, c, d, d'⟩
      · rw [if_pos a] at e; exact ⟨a.symm, e, d.symm⟩
      · rw [if_neg (by omega), if_pos a] at e; omega
      · rw [if_neg (by omega), if_neg (by omega)] at e; omega
  · rw [if_neg h4]
    by_cases h31 : k < 31
    · rw [if_pos h31]
      constructor
      · rintro ⟨e1, e2, e3⟩
        simp only at e1 e2 e3 ⊢
        subst e1; subst e2; subst e3
        exact ⟨.inr (.inl ⟨rfl, by omega, by omega, rfl⟩), by rw [if_neg (by omega), if_pos rfl]; omega⟩
      · rintro ⟨h, e⟩
        simp only at h e ⊢
        rcases h with ⟨a, b, c, d⟩ | ⟨a, b, c, d⟩ | ⟨a, b, c, d, d'⟩
        · rw [if_pos a] at e; omega
        · rw [if_neg (by omega), if_pos a] at e; exact ⟨a.symm, by omega, d.symm⟩
        · rw [if_neg (by omega), if_neg (by omega)] at e; omega
    · rw [if_neg h31]
      constructor
      · rintro ⟨e1, e2, e3⟩
        simp only at e1 e2 e3 ⊢
        subst e1; subst e2; subst e3
        exact ⟨.inr (.inr ⟨rfl, by omega, by omega, by omega, by omega⟩), by rw [if_neg (by omega), if_neg (by omega)]; omega⟩
      · rintro ⟨h, e⟩
        simp only at h e ⊢
        rcases h with ⟨a, b, c, d⟩ | ⟨a, b, c, d⟩ | ⟨a, b, c, d, d'⟩
        · rw [if_pos a] at e; omega
        · rw [if_neg (by omega), if_pos a] at e; omega
        · rw [if_neg (by omega), if_neg (by omega)] at e; exact ⟨a.symm, by omega, by omega⟩
theorem wy_ways (k : Int) (hk : isBk k) : bkK (wyK k) = k ∧ bkE (wyK k) = 0 := by
  have := (wy_same k (wyK k) hk).1 (Wy.same_self _)
  unfold bkK bkE
  rw [if_pos this.1, if_pos this.1]
  exact ⟨this.2.symm, rfl⟩
theorem wy_one (k l : Int) (hk : isBk k) (hl : isBk l) : (wyK k).same (wyK l) = decide (k = l) := by
  by_cases h : k = l
  · subst h; rw [Wy.same_self, decide_eq_true rfl]
  · rw [decide_eq_false h]
    cases e : (wyK k).same (wyK l) with
    | false => rfl
    | true =>
      have h1 := ((wy_same k (wyK l) hk).1 e).2
      have h2 := ((wy_same l (wyK l) hl).1 (Wy.same_self _)).2
      exact absurd (h1.trans h2.symm) h
/-- What the code aims at, wrapped round. -/
def aimK (x : Wy) : Int := if x.l = 0 then x.f else if x.l = 1 then RowKit.wrap64 (4 + x.f) else if x.l = 2 then RowKit.wrap64 (RowKit.wrap64 (31 + RowKit.wrap64 (x.f * 27)) + x.s) else -1
theorem i64_small {x : Int} (h0 : -1000000 ≤ x) (h1 : x ≤ 1000000) : IntKind.i64.wrap x = x := by
  rw [IntKind.wrap_i64]; omega
theorem w64_small {x : Int} (h0 : -1000000 ≤ x) (h1 : x ≤ 1000000) : RowKit.wrap64 x = x := by
  unfold RowKit.wrap64; omega
theorem aim_may (x : Wy) (h : x.may) : aimK x = bkN x := by
  unfold aimK bkN
  rcases h with ⟨a, b, c, d⟩ | ⟨a, b, c, d⟩ | ⟨a, b, c, d, d'⟩
  · rw [if_pos a, if_pos a]
  · rw [if_neg (by omega), if_pos a, if_neg (by omega), if_pos a]; exact w64_small (by omega) (by omega)
  · rw [if_neg (by omega), if_neg (by omega), if_pos a, if_neg (by omega), if_neg (by omega), w64_small (x := x.f * 27) (by omega) (by omega), w64_small (x := 31 + x.f * 27) (by omega) (by omega), w64_small (by omega) (by omega)]; omega
theorem aim_is (x : Wy) : (kE (aimK x) = 0 ∧ (wyK (aimK x)).same x = true) ↔ x.may := by
  constructor
  · rintro ⟨h1, h2⟩
    by_cases hk : isBk (aimK x)
    · exact ((wy_same _ x hk).1 h2).1
    · unfold kE at h1; rw [if_neg hk] at h1; omega
  · intro h
    have hk : isBk (aimK x) := by rw [aim_may x h]; exact bk_is x h
    refine ⟨by unfold kE; rw [if_pos hk], (wy_same _ x hk).2 ⟨h, aim_may x h⟩⟩
/-- How many blocks a size needs. -/
def bkC (n : Int) : Int := if n ≤ 0 then 0 else (n - 1) / 64 + 1
theorem bkC_holds (n : Int) (h0 : 0 < n) : 64 * bkC n ≥ n ∧ 64 * (bkC n - 1) < n := by
  unfold bkC; rw [if_neg (by omega)]; constructor <;> omega
theorem bkC_of (k : Int) (h : 0 ≤ k) : bkC (64 * k) = k ∧ bkC (64 * k + 1) = k + 1 := by
  unfold bkC
  refine ⟨?_, by rw [if_neg (by omega)]; omega⟩
  by_cases h0 : k = 0
  · subst h0; rfl
  · rw [if_neg (by omega)]; omega
end Go.Proofs.Ytaahljjmofjdmaa
