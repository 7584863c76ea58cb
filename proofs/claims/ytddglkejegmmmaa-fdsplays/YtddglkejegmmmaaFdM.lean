/-
  What a table of open files holds, as a plain function, and its turns: no statement is proved here.
-/
import Derived.Test.YtddglkejegmmmaaOwG
namespace Go.Proofs.Ytddglkejegmmmaa
open Go.ChangeShapes Go.WideShapes Go.ChangeAt Go.RowKit
set_option linter.unusedVariables false
set_option linter.unusedSimpArgs false

/-- A file that is open. -/
structure Fl where
  i : Int
  p : Int
  m : Int
def Fl.cs (f : Fl) : List Value := [.int .i64 f.i, .int .i64 f.p, .int .i64 f.m]
theorem Fl.cs_one (f : Fl) : ∀ v ∈ f.cs, v.oneCell' = true := by
  intro v hv; unfold Fl.cs at hv; simp at hv; rcases hv with rfl | rfl | rfl <;> rfl
def Fl.zero : Fl := ⟨0, 0, 0⟩
/-- What is open, by places. -/
abbrev FT := Nat → Option Fl
def fdNew : FT := fun _ => none
def fdUp (t : FT) (k : Nat) (v : Option Fl) : FT := fun j => if j = k then v else t j
def fdFrF (t : FT) : Nat → Nat → Nat
  | 0, k => k
  | n + 1, k => if (t k).isSome then fdFrF t n (k + 1) else k
/-- The first free place, or 8. -/
def fdFr (t : FT) : Nat := fdFrF t 8 0
def fdOpen (t : FT) (i m : Int) : FT := if fdFr t = 8 then t else fdUp t (fdFr t) (some ⟨i, 0, m⟩)
def fdOpenN (t : FT) : Int := if fdFr t = 8 then 0 else (fdFr t : Int)
def fdOpenE (t : FT) : Int := if fdFr t = 8 then 47 else 0
def fdHas (t : FT) (x : Int) : Option Fl := if 0 ≤ x ∧ x < 8 then t x.toNat else none
def fdGet (t : FT) (x : Int) : Fl := (fdHas t x).getD Fl.zero
def fdGetE (t : FT) (x : Int) : Int := if (fdHas t x).isSome then 0 else 46
def fdSeekE (t : FT) (x p : Int) : Int := if (fdHas t x).isSome then (if p < 0 then 2 else 0) else 46
def fdSeek (t : FT) (x p : Int) : FT := match fdHas t x with
  | some f => if p < 0 then t else fdUp t x.toNat (some ⟨f.i, p, f.m⟩)
  | none => t
def fdClose (t : FT) (x : Int) : FT := match fdHas t x with
  | some _ => fdUp t x.toNat none
  | none => t
/-- The places below k that are not free. -/
def fdUs (t : FT) : Nat → List Int
  | 0 => []
  | k + 1 => fdUs t k ++ (if (t k).isSome then [(k : Int)] else [])
/-- How many of the places below k have the inode x. -/
def fdCt (t : FT) (x : Int) : Nat → Int
  | 0 => 0
  | k + 1 => fdCt t x k + (match t k with | some f => if f.i = x then 1 else 0 | none => 0)
/-- .. of those of a list. -/
def fdCl (t : FT) (x : Int) : List Int → Int
  | [] => 0
  | y :: r => (match t y.toNat with | some f => if f.i = x then 1 else 0 | none => 0) + fdCl t x r
theorem fdFrF_eq (t : FT) : ∀ (n k j : Nat), k ≤ j → j ≤ k + n → (∀ i, k ≤ i → i < j → (t i).isSome = true) → (j = k + n ∨ t j = none) → fdFrF t n k = j
  | 0, k, j, h1, h2, _, _ => by unfold fdFrF; omega
  | n + 1, k, j, h1, h2, h3, h4 => by
    unfold fdFrF
    by_cases e : k = j
    · subst e
      rcases h4 with h4 | h4
      · omega
      · simp [h4]
    · rw [if_pos (h3 k (Nat.le_refl _) (by omega))]
      exact fdFrF_eq t n (k + 1) j (by omega) (by omega) (fun i h5 h6 => h3 i (by omega) h6) (h4.imp (fun h => by omega) id)
theorem fdFr_eq {t : FT} {j : Nat} (h1 : j ≤ 8) (h2 : ∀ i, i < j → (t i).isSome = true) (h3 : j = 8 ∨ t j = none) : fdFr t = j :=
  fdFrF_eq t 8 0 j (Nat.zero_le _) (by omega) (fun i _ h => h2 i h) (h3.imp (fun h => by omega) id)
theorem fdFrF_le (t : FT) : ∀ (n k : Nat), k ≤ fdFrF t n k ∧ fdFrF t n k ≤ k + n
  | 0, k => by unfold fdFrF; omega
  | n + 1, k => by
    unfold fdFrF
    have := fdFrF_le t n (k + 1)
    split <;> omega
theorem fdFr_le (t : FT) : fdFr t ≤ 8 := by have := fdFrF_le t 8 0; unfold fdFr; omega
theorem fdFrF_at (t : FT) : ∀ (n k : Nat), (∀ i, k ≤ i → i < fdFrF t n k → (t i).isSome = true) ∧ (fdFrF t n k = k + n ∨ t (fdFrF t n k) = none)
  | 0, k => by unfold fdFrF; exact ⟨fun i h1 h2 => by omega, .inl rfl⟩
  | n + 1, k => by
    unfold fdFrF
    by_cases e : (t k).isSome = true
    · rw [if_pos e]
      have ⟨h1, h2⟩ := fdFrF_at t n (k + 1)
      refine ⟨fun i h3 h4 => ?_, h2.imp (fun h => by omega) id⟩
      by_cases e2 : i = k
      · subst e2; exact e
      · exact h1 i (by omega) h4
    · rw [if_neg e]
      exact ⟨fun i h1 h2 => by omega, .inr (by cases h : t k with | none => rfl | some f => rw [h] at e; exact absurd rfl e)⟩
theorem fdFr_none {t : FT} (h : fdFr t ≠ 8) : t (fdFr t) = none := by
  have := (fdFrF_at t 8 0).2
  unfold fdFr at *
  rcases this with e | e
  · omega
  · exact e
theorem fdFr_low {t : FT} {k : Nat} (h : t k = none) (hk : k < 8) : fdFr t ≤ k := by
  refine Decidable.byContradiction fun e => ?_
  have := (fdFrF_at t 8 0).1 k (Nat.zero_le _) (by unfold fdFr at e; omega)
  rw [h] at this; cases this
theorem fdUs_len (t : FT) : ∀ k, (fdUs t k).length ≤ k
  | 0 => Nat.le_refl _
  | k + 1 => by unfold fdUs; rw [List.length_append]; have := fdUs_len t k; split <;> simp <;> omega
theorem fdUs_mem (t : FT) : ∀ k, ∀ x ∈ fdUs t k, ∃ j : Nat, x = (j : Int) ∧ j < k ∧ (t j).isSome = true
  | 0 => fun x h => by cases h
  | k + 1 => fun x h => by
    unfold fdUs at h
    rcases List.mem_append.1 h with h | h
    · obtain ⟨j, h1, h2, h3⟩ := fdUs_mem t k x h; exact ⟨j, h1, by omega, h3⟩
    · split at h
      · rename_i e; simp at h; exact ⟨k, h, by omega, e⟩
      · cases h
/-- .. at one place. -/
def fdC1 (t : FT) (x : Int) (y : Int) : Int := match t y.toNat with | some f => if f.i = x then 1 else 0 | none => 0
theorem fdCl_cons (t : FT) (x y : Int) (r : List Int) : fdCl t x (y :: r) = fdC1 t x y + fdCl t x r := rfl
theorem fdCl_app (t : FT) (x : Int) : ∀ (a b : List Int), fdCl t x (a ++ b) = fdCl t x a + fdCl t x b
  | [], b => by simp [fdCl]
  | y :: r, b => by rw [List.cons_append, fdCl_cons, fdCl_cons, fdCl_app t x r b]; omega
theorem fdCl_us (t : FT) (x : Int) : ∀ k, fdCl t x (fdUs t k) = fdCt t x k
  | 0 => rfl
  | k + 1 => by
    unfold fdUs fdCt
    rw [fdCl_app, fdCl_us t x k]
    congr 1
    cases h : t k with
    | none => simp [fdCl]
    | some f => simp [fdCl, h]
theorem fdCt_range (t : FT) (x : Int) : ∀ k, 0 ≤ fdCt t x k ∧ fdCt t x k ≤ k
  | 0 => by unfold fdCt; omega
  | k + 1 => by
    unfold fdCt
    have := fdCt_range t x k
    cases t k with
    | none => simp only; omega
    | some f => simp only; split <;> omega
theorem fdCl_range (t : FT) (x : Int) : ∀ l : List Int, 0 ≤ fdCl t x l ∧ fdCl t x l ≤ l.length
  | [] => by unfold fdCl; simp
  | y :: r => by
    unfold fdCl
    have := fdCl_range t x r
    rw [List.length_cons]
    cases t y.toNat with
    | none => simp only; omega
    | some f => simp only; split <;> omega
theorem fdUs_full_aux (t : FT) : ∀ k, (fdUs t k).length = k ↔ ∀ i, i < k → (t i).isSome = true
  | 0 => by simp [fdUs]
  | k + 1 => by
    unfold fdUs
    rw [List.length_append]
    have h1 := fdUs_len t k
    have ih := fdUs_full_aux t k
    by_cases e : (t k).isSome = true
    · rw [if_pos e]
      constructor
      · intro h i hi
        by_cases e2 : i = k
        · subst e2; exact e
        · exact ih.1 (by simp at h; omega) i (by omega)
      · intro h; have := ih.2 (fun i hi => h i (by omega)); simp; omega
    · rw [if_neg e]
      constructor
      · intro h; simp at h; omega
      · intro h; exact absurd (h k (by omega)) e
/-- As many as there are, just where none is free. -/
theorem fdUs_full (t : FT) : (fdUs t 8).length = 8 ↔ fdFr t = 8 := by
  rw [fdUs_full_aux]
  constructor
  · intro h; exact fdFr_eq (Nat.le_refl _) h (.inl rfl)
  · intro h i hi
    have := (fdFrF_at t 8 0).1 i (Nat.zero_le _)
    unfold fdFr at h
    rw [h] at this; exact this hi
theorem fdHas_out {t : FT} {x : Int} (h : ¬ (0 ≤ x ∧ x < 8)) : fdHas t x = none := by unfold fdHas; rw [if_neg h]
theorem fdHas_in {t : FT} {k : Nat} (h : k < 8) : fdHas t (k : Int) = t k := by unfold fdHas; rw [if_pos (by omega), Int.toNat_natCast]
end Go.Proofs.Ytddglkejegmmmaa
