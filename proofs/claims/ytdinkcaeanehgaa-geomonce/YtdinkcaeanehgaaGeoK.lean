/-
  Plain facts on sectors of a shape, counted in natural numbers: no statement is proved here.
-/
import Derived.Test.YtdinkcaeanehgaaGeoJ
namespace Go.Proofs.Ytdinkcaeanehgaa
open Go.ChangeShapes Go.WideShapes Go.ChangeAt Go.RowKit
set_option linter.unusedVariables false

/-- A small shape. -/
structure Sz (G I D : Nat) : Prop where
  g1 : 1 ≤ G
  g8 : G ≤ 8
  i1 : 1 ≤ I
  i8 : I ≤ 8
  d4 : 4 ≤ D
  d33 : D ≤ 33
def sh (G I D : Nat) : Gm := ⟨G, I, D⟩
theorem sh_ok {G I D : Nat} (h : Sz G I D) : (sh G I D).ok := by
  obtain ⟨a, b, c, d, e, f⟩ := h
  unfold Gm.ok sh; simp only; omega
theorem sh_span (G I D : Nat) : (sh G I D).span = ((2 + I + D : Nat) : Int) := by unfold Gm.span sh; simp only; omega
theorem sh_total {G I D : Nat} (h : Sz G I D) : (sh G I D).total = ((2 + G * (2 + I + D) : Nat) : Int) := by
  unfold Gm.total; rw [if_pos (sh_ok h), sh_span]; show (2 : Int) + (G : Int) * _ = _; rw [← Int.natCast_mul]; omega
theorem sh_inodes {G I D : Nat} (h : Sz G I D) : (sh G I D).inodes = ((G * (I * 3) : Nat) : Int) := by
  unfold Gm.inodes; rw [if_pos (sh_ok h)]; show (G : Int) * ((I : Int) * 3) = _; rw [Int.natCast_mul, Int.natCast_mul]; rfl
theorem sh_has {G I D k : Nat} (h : Sz G I D) (hk : k < G) : (sh G I D).has k := ⟨sh_ok h, by omega, by show (k : Int) < (G : Int); omega⟩
theorem sh_inG {G I D k : Nat} (h : Sz G I D) (hk : k < G) (j : Nat) : (sh G I D).inG k j = ((2 + k * (2 + I + D) + j : Nat) : Int) := by
  unfold Gm.inG; rw [if_pos (sh_has h hk), sh_span, ← Int.natCast_mul]; omega
theorem sh_data {G I D k j : Nat} (h : Sz G I D) (hk : k < G) (hj : j < D) : (sh G I D).data k j = ((2 + k * (2 + I + D) + (2 + I + j) : Nat) : Int) := by
  have hd : (sh G I D).hasD k j := ⟨sh_has h hk, by omega, by show (j : Int) < (D : Int); omega⟩
  unfold Gm.data; rw [if_pos hd, sh_span, ← Int.natCast_mul]; show (2 : Int) + _ + (2 + (I : Int) + _) = _; omega
theorem at_lt {G S k c : Nat} (hk : k < G) (hc : c < S) : 2 + k * S + c < 2 + G * S := by
  have : (k + 1) * S ≤ G * S := Nat.mul_le_mul_right _ hk
  rw [Nat.add_mul] at this; omega
theorem at_iff {S k c j : Nat} (hc : c < S) : j = 2 + k * S + c ↔ 2 ≤ j ∧ (j - 2) / S = k ∧ (j - 2) % S = c := by
  have hS : 0 < S := by omega
  constructor
  · rintro rfl
    have e : 2 + k * S + c - 2 = c + k * S := by omega
    rw [e, Nat.add_mul_div_right _ _ hS, Nat.add_mul_mod_self_right, Nat.div_eq_of_lt hc, Nat.mod_eq_of_lt hc]
    omega
  · rintro ⟨h2, rfl, rfl⟩
    have := Nat.div_add_mod (j - 2) S
    rw [Nat.mul_comm] at this; omega
theorem sh_place {G I D k c : Nat} (h : Sz G I D) (hk : k < G) (hc : c < 2 + I + D) :
    (sh G I D).pk ((2 + k * (2 + I + D) + c : Nat) : Int) = (sh G I D).kindAt c ∧ (sh G I D).pg ((2 + k * (2 + I + D) + c : Nat) : Int) = (k : Int) ∧ (sh G I D).pi ((2 + k * (2 + I + D) + c : Nat) : Int) = (sh G I D).indAt c ∧ (sh G I D).werr ((2 + k * (2 + I + D) + c : Nat) : Int) = 0 := by
  have hl := at_lt hk hc
  obtain ⟨_, e1, e2⟩ := (at_iff hc (k := k) (j := 2 + k * (2 + I + D) + c)).1 rfl
  generalize hx : 2 + k * (2 + I + D) + c = x at *
  have hw : (sh G I D).hasW (x : Int) := ⟨by omega, by rw [sh_total h]; omega⟩
  have h2 : ¬ (x : Int) < 2 := by omega
  have e3 : ((x : Int) - 2) % (sh G I D).span = (c : Int) := by rw [sh_span, show (x : Int) - 2 = ((x - 2 : Nat) : Int) by omega, ← Int.natCast_emod, e2]
  have e4 : ((x : Int) - 2) / (sh G I D).span = (k : Int) := by rw [sh_span, show (x : Int) - 2 = ((x - 2 : Nat) : Int) by omega, ← Int.natCast_ediv, e1]
  refine ⟨?_, ?_, ?_, if_pos hw⟩
  · unfold Gm.pk; rw [if_pos hw, if_neg h2, e3]
  · unfold Gm.pg; rw [if_pos hw, if_neg h2, e4]
  · unfold Gm.pi; rw [if_pos hw, if_neg h2, e3]
theorem sh_inode {G I D n : Nat} (h : Sz G I D) (hn : n < G * (I * 3)) :
    (sh G I D).grp ((n : Int) + 1) = ((n / (I * 3) : Nat) : Int) ∧ (sh G I D).idx ((n : Int) + 1) = ((n % (I * 3) : Nat) : Int) ∧ (sh G I D).slt ((n : Int) + 1) = ((n % (I * 3) % 3 : Nat) : Int) ∧
    (sh G I D).sec ((n : Int) + 1) = ((2 + n / (I * 3) * (2 + I + D) + (2 + n % (I * 3) / 3) : Nat) : Int) ∧ (sh G I D).ierr ((n : Int) + 1) = 0 := by
  have hi : (sh G I D).hasI ((n : Int) + 1) := ⟨sh_ok h, by omega, by rw [sh_inodes h]; omega⟩
  have e1 : (sh G I D).grp ((n : Int) + 1) = ((n / (I * 3) : Nat) : Int) := by
    unfold Gm.grp; rw [if_pos hi]; show ((n : Int) + 1 - 1) / ((I : Int) * 3) = _
    rw [show (n : Int) + 1 - 1 = (n : Int) by omega, show (I : Int) * 3 = ((I * 3 : Nat) : Int) by omega, ← Int.natCast_ediv]
  have e2 : (sh G I D).idx ((n : Int) + 1) = ((n % (I * 3) : Nat) : Int) := by
    unfold Gm.idx; rw [if_pos hi]; show ((n : Int) + 1 - 1) % ((I : Int) * 3) = _
    rw [show (n : Int) + 1 - 1 = (n : Int) by omega, show (I : Int) * 3 = ((I * 3 : Nat) : Int) by omega, ← Int.natCast_emod]
  refine ⟨e1, e2, ?_, ?_, if_pos hi⟩
  · unfold Gm.slt; rw [e2]; omega
  · unfold Gm.sec; rw [if_pos hi, e1, e2, sh_span, ← Int.natCast_mul]; omega

/-- What is seen within group k. -/
def got (S I k a b x : Nat) : Int := if x < 2 ∨ ((x - 2) / S < k ∧ ((x - 2) % S < 2 ∨ 2 + I ≤ (x - 2) % S)) ∨ ((x - 2) / S = k ∧ ((x - 2) % S < a ∨ (2 + I ≤ (x - 2) % S ∧ (x - 2) % S < 2 + I + b))) then 1 else 0
/-- What is seen behind n inodes. -/
def got3 (S I G n x : Nat) : Int := if x < 2 ∨ ((x - 2) / S < G ∧ ((x - 2) % S < 2 ∨ 2 + I ≤ (x - 2) % S)) ∨ (2 ≤ (x - 2) % S ∧ (x - 2) % S < 2 + I ∧ ((x - 2) / S * I + ((x - 2) % S - 2)) * 3 < n) then 1 else 0
theorem got_first (S I x : Nat) (hS : 0 < S) : got S I 0 0 0 x = if x < 2 then 1 else 0 := by
  unfold got; by_cases h : x < 2
  · rw [if_pos (.inl h), if_pos h]
  · have hq : ¬ (x - 2) / S < 0 := Nat.not_lt_zero _
    generalize (x - 2) / S = q at *
    generalize (x - 2) % S = r at *
    rw [if_neg (by omega), if_neg h]
theorem got_head (D I k x : Nat) (hI : 1 ≤ I) : got (2 + I + D) I k 0 0 (2 + k * (2 + I + D) + 0) = 0 ∧ (if x = 2 + k * (2 + I + D) + 0 then 1 else got (2 + I + D) I k 0 0 x) = got (2 + I + D) I k 1 0 x := by
  obtain ⟨a1, a2, a3⟩ := (at_iff (S := 2 + I + D) (k := k) (c := 0) (by omega)).1 rfl
  have hi := at_iff (S := 2 + I + D) (k := k) (c := 0) (j := x) (by omega)
  unfold got
  refine ⟨by rw [a2, a3]; exact if_neg (by omega), ?_⟩
  by_cases hx : x = 2 + k * (2 + I + D) + 0
  · obtain ⟨b1, b2, b3⟩ := hi.1 hx
    rw [if_pos hx, b2, b3]; exact (if_pos (by omega)).symm
  · rw [if_neg hx]
    have : ¬ (2 ≤ x ∧ (x - 2) / (2 + I + D) = k ∧ (x - 2) % (2 + I + D) = 0) := fun h => hx (hi.2 h)
    generalize (x - 2) / (2 + I + D) = q at *
    generalize (x - 2) % (2 + I + D) = r at *
    have e : (x < 2 ∨ (q < k ∧ (r < 2 ∨ 2 + I ≤ r)) ∨ (q = k ∧ (r < 0 ∨ (2 + I ≤ r ∧ r < 2 + I + 0)))) ↔ (x < 2 ∨ (q < k ∧ (r < 2 ∨ 2 + I ≤ r)) ∨ (q = k ∧ (r < 1 ∨ (2 + I ≤ r ∧ r < 2 + I + 0)))) := by omega
    simp only [e]
theorem got_maps (D I k x : Nat) (hI : 1 ≤ I) : got (2 + I + D) I k 1 0 (2 + k * (2 + I + D) + 1) = 0 ∧ (if x = 2 + k * (2 + I + D) + 1 then 1 else got (2 + I + D) I k 1 0 x) = got (2 + I + D) I k 2 0 x := by
  obtain ⟨a1, a2, a3⟩ := (at_iff (S := 2 + I + D) (k := k) (c := 1) (by omega)).1 rfl
  have hi := at_iff (S := 2 + I + D) (k := k) (c := 1) (j := x) (by omega)
  unfold got
  refine ⟨by rw [a2, a3]; exact if_neg (by omega), ?_⟩
  by_cases hx : x = 2 + k * (2 + I + D) + 1
  · obtain ⟨b1, b2, b3⟩ := hi.1 hx
    rw [if_pos hx, b2, b3]; exact (if_pos (by omega)).symm
  · rw [if_neg hx]
    have : ¬ (2 ≤ x ∧ (x - 2) / (2 + I + D) = k ∧ (x - 2) % (2 + I + D) = 1) := fun h => hx (hi.2 h)
    generalize (x - 2) / (2 + I + D) = q at *
    generalize (x - 2) % (2 + I + D) = r at *
    have e : (x < 2 ∨ (q < k ∧ (r < 2 ∨ 2 + I ≤ r)) ∨ (q = k ∧ (r < 1 ∨ (2 + I ≤ r ∧ r < 2 + I + 0)))) ↔ (x < 2 ∨ (q < k ∧ (r < 2 ∨ 2 + I ≤ r)) ∨ (q = k ∧ (r < 2 ∨ (2 + I ≤ r ∧ r < 2 + I + 0)))) := by omega
    simp only [e]
theorem got_data (D I k i x : Nat) (hi0 : i < D) : got (2 + I + D) I k 2 i (2 + k * (2 + I + D) + (2 + I + i)) = 0 ∧ (if x = 2 + k * (2 + I + D) + (2 + I + i) then 1 else got (2 + I + D) I k 2 i x) = got (2 + I + D) I k 2 (i + 1) x := by
  obtain ⟨a1, a2, a3⟩ := (at_iff (S := 2 + I + D) (k := k) (c := 2 + I + i) (by omega)).1 rfl
  have hi := at_iff (S := 2 + I + D) (k := k) (c := 2 + I + i) (j := x) (by omega)
  unfold got
  refine ⟨by rw [a2, a3]; exact if_neg (by omega), ?_⟩
  by_cases hx : x = 2 + k * (2 + I + D) + (2 + I + i)
  · obtain ⟨b1, b2, b3⟩ := hi.1 hx
    rw [if_pos hx, b2, b3]; exact (if_pos (by omega)).symm
  · rw [if_neg hx]
    have : ¬ (2 ≤ x ∧ (x - 2) / (2 + I + D) = k ∧ (x - 2) % (2 + I + D) = 2 + I + i) := fun h => hx (hi.2 h)
    generalize (x - 2) / (2 + I + D) = q at *
    generalize (x - 2) % (2 + I + D) = r at *
    have e : (x < 2 ∨ (q < k ∧ (r < 2 ∨ 2 + I ≤ r)) ∨ (q = k ∧ (r < 2 ∨ (2 + I ≤ r ∧ r < 2 + I + i)))) ↔ (x < 2 ∨ (q < k ∧ (r < 2 ∨ 2 + I ≤ r)) ∨ (q = k ∧ (r < 2 ∨ (2 + I ≤ r ∧ r < 2 + I + (i + 1))))) := by omega
    simp only [e]
theorem got_next (D I k x : Nat) : got (2 + I + D) I k 2 D x = got (2 + I + D) I (k + 1) 0 0 x := by
  unfold got
  have hr := Nat.mod_lt (x - 2) (show 0 < 2 + I + D by omega)
  generalize (x - 2) / (2 + I + D) = q at *
  generalize (x - 2) % (2 + I + D) = r at *
  have e : (x < 2 ∨ (q < k ∧ (r < 2 ∨ 2 + I ≤ r)) ∨ (q = k ∧ (r < 2 ∨ (2 + I ≤ r ∧ r < 2 + I + D)))) ↔ (x < 2 ∨ (q < k + 1 ∧ (r < 2 ∨ 2 + I ≤ r)) ∨ (q = k + 1 ∧ (r < 0 ∨ (2 + I ≤ r ∧ r < 2 + I + 0)))) := by omega
  simp only [e]
theorem got3_first (S I G x : Nat) : got S I G 0 0 x = got3 S I G 0 x := by
  unfold got got3
  generalize (x - 2) / S = q
  generalize (x - 2) % S = r
  have e : (x < 2 ∨ (q < G ∧ (r < 2 ∨ 2 + I ≤ r)) ∨ (q = G ∧ (r < 0 ∨ (2 + I ≤ r ∧ r < 2 + I + 0)))) ↔ (x < 2 ∨ (q < G ∧ (r < 2 ∨ 2 + I ≤ r)) ∨ (2 ≤ r ∧ r < 2 + I ∧ (q * I + (r - 2)) * 3 < 0)) := by omega
  simp only [e]
theorem lay_iff {I m q t : Nat} (ht : t < I) : q * I + t = m ↔ q = m / I ∧ t = m % I := by
  have hI : 0 < I := by omega
  constructor
  · rintro rfl
    rw [Nat.add_comm, Nat.add_mul_div_right _ _ hI, Nat.add_mul_mod_self_right, Nat.div_eq_of_lt ht, Nat.mod_eq_of_lt ht]; omega
  · rintro ⟨rfl, rfl⟩
    have := Nat.div_add_mod m I
    rw [Nat.mul_comm] at this; exact this
theorem third (n I : Nat) (hn : n % 3 = 0) : n / (I * 3) = n / 3 / I ∧ n % (I * 3) / 3 = n / 3 % I := by
  refine ⟨by rw [Nat.mul_comm, Nat.div_div_eq_div_mul], ?_⟩
  rw [Nat.mod_mul_left_div_self]
theorem slot_mod (n I : Nat) : n % (I * 3) % 3 = n % 3 := Nat.mod_mod_of_dvd _ ⟨I, Nat.mul_comm _ _⟩
theorem got3_skip (S I G n x : Nat) (hn : ¬ n % 3 = 0) : got3 S I G n x = got3 S I G (n + 1) x := by
  unfold got3
  generalize (x - 2) / S * I = z
  have e : (2 ≤ (x - 2) % S ∧ (x - 2) % S < 2 + I ∧ (z + ((x - 2) % S - 2)) * 3 < n) ↔ (2 ≤ (x - 2) % S ∧ (x - 2) % S < 2 + I ∧ (z + ((x - 2) % S - 2)) * 3 < n + 1) := by omega
  simp only [e]
theorem got3_set (D I G n x : Nat) (hI : 1 ≤ I) (hn : n % 3 = 0) : got3 (2 + I + D) I G n (2 + n / (I * 3) * (2 + I + D) + (2 + n % (I * 3) / 3)) = 0 ∧
    (if x = 2 + n / (I * 3) * (2 + I + D) + (2 + n % (I * 3) / 3) then 1 else got3 (2 + I + D) I G n x) = got3 (2 + I + D) I G (n + 1) x := by
  obtain ⟨t1, t2⟩ := third n I hn
  rw [t1, t2]
  have hm := Nat.mod_lt (n / 3) (show 0 < I by omega)
  obtain ⟨a1, a2, a3⟩ := (at_iff (S := 2 + I + D) (k := n / 3 / I) (c := 2 + n / 3 % I) (by omega)).1 rfl
  have hi := at_iff (S := 2 + I + D) (k := n / 3 / I) (c := 2 + n / 3 % I) (j := x) (by omega)
  have hd := Nat.div_add_mod (n / 3) I
  rw [Nat.mul_comm] at hd
  unfold got3
  constructor
  · rw [a2, a3]
    refine if_neg ?_
    generalize n / 3 / I * I = z at *
    omega
  · by_cases hx : x = 2 + n / 3 / I * (2 + I + D) + (2 + n / 3 % I)
    · obtain ⟨b1, b2, b3⟩ := hi.1 hx
      rw [if_pos hx, b2, b3]
      refine (if_pos (.inr (.inr ⟨by omega, by omega, ?_⟩))).symm
      generalize n / 3 / I * I = z at *
      omega
    · rw [if_neg hx]
      have hne : ¬ (2 ≤ x ∧ (x - 2) / (2 + I + D) = n / 3 / I ∧ (x - 2) % (2 + I + D) = 2 + n / 3 % I) := fun h => hx (hi.2 h)
      clear hi a1 a2 a3 hx
      generalize (x - 2) / (2 + I + D) = q at *
      generalize (x - 2) % (2 + I + D) = r at *
      have hz : 2 ≤ x → 2 ≤ r → r < 2 + I → ¬ q * I + (r - 2) = n / 3 := fun h2 h3 h4 h5 => by
        obtain ⟨e1, e2⟩ := (lay_iff (show r - 2 < I by omega)).1 h5
        exact hne ⟨h2, e1, by omega⟩
      generalize q * I = z at *
      have e : (x < 2 ∨ (q < G ∧ (r < 2 ∨ 2 + I ≤ r)) ∨ (2 ≤ r ∧ r < 2 + I ∧ (z + (r - 2)) * 3 < n)) ↔ (x < 2 ∨ (q < G ∧ (r < 2 ∨ 2 + I ≤ r)) ∨ (2 ≤ r ∧ r < 2 + I ∧ (z + (r - 2)) * 3 < n + 1)) := by
        by_cases h2 : 2 ≤ x
        · have := hz h2
          omega
        · omega
      simp only [e]
theorem got3_last (D I G x : Nat) (hx : x < 2 + G * (2 + I + D)) : got3 (2 + I + D) I G (G * (I * 3)) x = 1 := by
  unfold got3
  by_cases h2 : x < 2
  · exact if_pos (.inl h2)
  · have hq : (x - 2) / (2 + I + D) < G := Nat.div_lt_of_lt_mul (by rw [Nat.mul_comm]; omega)
    generalize (x - 2) / (2 + I + D) = q at *
    generalize (x - 2) % (2 + I + D) = r at *
    by_cases hr : r < 2 ∨ 2 + I ≤ r
    · exact if_pos (.inr (.inl ⟨hq, hr⟩))
    · refine if_pos (.inr (.inr ⟨by omega, by omega, ?_⟩))
      have h1 : (q + 1) * I ≤ G * I := Nat.mul_le_mul_right _ hq
      have h3 : G * (I * 3) = G * I * 3 := by rw [Nat.mul_assoc]
      rw [Nat.add_mul] at h1
      rw [h3]
      omega
end Go.Proofs.Ytdinkcaeanehgaa
