/-
  The functions of layer 1 and of its reference, each with one answer for every input: no statement is proved here.
-/
import Derived.Test.YthanenbjfcndbaaNumH
import Derived.Test.YthanenbjfcndbaaNumF
import Derived.Test.YthanenbjfcndbaaPlain2
namespace Go.Proofs.Ythanenbjfcndbaa
open Go.ChangeShapes Go.WideShapes Go.ChangeAt Go.RowKit
set_option linter.unusedVariables false

def v2 (l : List Int) (n : Nat) (k : Int) : Int := if 0 ≤ k ∧ k + 2 ≤ n then le2 l k.toNat else 0
def e2 (n : Nat) (k : Int) : Int := if 0 ≤ k ∧ k + 2 ≤ n then 0 else 7
def v4 (l : List Int) (n : Nat) (k : Int) : Int := if 0 ≤ k ∧ k + 4 ≤ n then le4 l k.toNat else 0
def e4 (n : Nat) (k : Int) : Int := if 0 ≤ k ∧ k + 4 ≤ n then 0 else 7

/-- What is told of a bit: is it 1 (false, where there is none)? And the error. -/
def vb (l : List Int) (n : Nat) (i : Int) : Bool := decide (0 ≤ i ∧ i / 8 < n) && bitB l i.toNat
def eb (n : Nat) (i : Int) : Int := if 0 ≤ i ∧ i / 8 < n then 0 else 2
theorem bit_all (a : Option Addr) (n c : Nat) (l : List Int) (i : Int) (w : World) (hb : Bs w a n c l) (h1 : -9223372036854775808 ≤ i) (h2 : i ≤ 9223372036854775807) :
    Calls Try.prog 28 #[.slice a n c, .int .i64 i] w fun e w' => e = .returned (.tuple #[.bool (vb l n i), .int .i64 (eb n i)]) ∧ ∃ k, w' = w.drewN k := by
  have hle := hb.le; have hcap := hb.cap; unfold maxLen at hcap
  unfold vb eb
  by_cases h : 0 ≤ i ∧ i / 8 < n
  · rw [if_pos h, decide_eq_true h, Bool.true_and]
    obtain ⟨j, rfl⟩ := Int.eq_ofNat_of_zero_le h.1
    exact bit_ok a n c l j w hb (by omega) (by omega)
  · rw [if_neg h, decide_eq_false h, Bool.false_and]
    refine (bit_no a n c i w (by omega) h1 h2 h).mono ?_
    rintro e w' ⟨rfl, rfl⟩
    exact ⟨rfl, 0, rfl⟩
theorem rbit_all (a : Option Addr) (n c : Nat) (l : List Int) (i : Int) (w : World) (hb : Bs w a n c l) (h1 : -9223372036854775808 ≤ i) (h2 : i ≤ 9223372036854775807) :
    Calls Try.prog 31 #[.slice a n c, .int .i64 i] w fun e w' => e = .returned (.tuple #[.bool (vb l n i), .int .i64 (eb n i)]) ∧ ∃ k, w' = w.drewN k := by
  have hle := hb.le; have hcap := hb.cap; unfold maxLen at hcap
  unfold vb eb
  by_cases h : 0 ≤ i ∧ i / 8 < n
  · rw [if_pos h, decide_eq_true h, Bool.true_and]
    obtain ⟨j, rfl⟩ := Int.eq_ofNat_of_zero_le h.1
    exact rbit_ok a n c l j w hb (by omega) (by omega)
  · rw [if_neg h, decide_eq_false h, Bool.false_and]
    refine (rbit_no a n c i w (by omega) h1 h2 h).mono ?_
    rintro e w' ⟨rfl, rfl⟩
    exact ⟨rfl, 0, rfl⟩
/-- The bytes with a bit as 'on' says; none, where there is no such bit. -/
def lw (l : List Int) (n : Nat) (i : Int) (on : Bool) : List Int := if 0 ≤ i ∧ i / 8 < n then putB l i.toNat on else []
def nw (n : Nat) (i : Int) : Nat := if 0 ≤ i ∧ i / 8 < n then n else 0
theorem with_all (a : Option Addr) (n c : Nat) (l : List Int) (i : Int) (on : Bool) (w : World) (hb : Bs w a n c l) (h1 : -9223372036854775808 ≤ i) (h2 : i ≤ 9223372036854775807) (hbig : n ≤ 1000000000000) :
    Calls Try.prog 32 #[.slice a n c, .int .i64 i, .bool on] w fun e w' => ∃ a' c', e = .returned (.tuple #[.slice a' (nw n i) c', .int .i64 (eb n i)]) ∧ Bs w' a' (nw n i) c' (lw l n i on) ∧ Below w.heap.size w w' := by
  unfold lw nw eb
  by_cases h : 0 ≤ i ∧ i / 8 < n
  · rw [if_pos h, if_pos h, if_pos h]
    obtain ⟨j, rfl⟩ := Int.eq_ofNat_of_zero_le h.1
    refine (with_ok a n c l j on w hb (by omega) (by omega) hbig).mono ?_
    rintro e w' ⟨v, rfl, hown, hbel⟩
    obtain ⟨a', c', rfl, hb'⟩ := own_bs hown (putB_range hb.byte j on)
    exact ⟨a', c', rfl, hb', hbel⟩
  · rw [if_neg h, if_neg h, if_neg h]
    refine (with_no a n c i on w (by omega) h1 h2 h).mono ?_
    rintro e w' ⟨rfl, rfl⟩
    exact ⟨none, 0, rfl, Bs.nilSlice _, Below.refl _ _⟩
theorem rwith_all (a : Option Addr) (n c : Nat) (l : List Int) (i : Int) (on : Bool) (w : World) (hb : Bs w a n c l) (h1 : -9223372036854775808 ≤ i) (h2 : i ≤ 9223372036854775807) (hbig : n ≤ 1000000000000) :
    Calls Try.prog 33 #[.slice a n c, .int .i64 i, .bool on] w fun e w' => ∃ a' c', e = .returned (.tuple #[.slice a' (nw n i) c', .int .i64 (eb n i)]) ∧ Bs w' a' (nw n i) c' (lw l n i on) ∧ Below w.heap.size w w' := by
  unfold lw nw eb
  by_cases h : 0 ≤ i ∧ i / 8 < n
  · rw [if_pos h, if_pos h, if_pos h]
    obtain ⟨j, rfl⟩ := Int.eq_ofNat_of_zero_le h.1
    refine (rwith_ok a n c l j on w hb (by omega) (by omega) hbig).mono ?_
    rintro e w' ⟨v, rfl, hown, hbel⟩
    obtain ⟨a', c', rfl, hb'⟩ := own_bs hown (putB_range hb.byte j on)
    exact ⟨a', c', rfl, hb', hbel⟩
  · rw [if_neg h, if_neg h, if_neg h]
    refine (rwith_no a n c i on w (by omega) h1 h2 h).mono ?_
    rintro e w' ⟨rfl, rfl⟩
    exact ⟨none, 0, rfl, Bs.nilSlice _, Below.refl _ _⟩
end Go.Proofs.Ythanenbjfcndbaa
