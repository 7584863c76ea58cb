/-
  Plain words of my own on registers that are stepped: no statement is proved here.
-/
import Derived.WalkKit
import Derived.ProofKit
namespace Go.Proofs.Ytadeocphkihamaa
/-- One step of a register. -/
def st (r : Nat) : Nat := (r / 2) ^^^ (2197175160 * (r % 2))
/-- So many steps. -/
def sts : Nat → Nat → Nat
  | 0, r => r
  | n + 1, r => sts n (st r)
/-- A byte enters. -/
def en (r x : Nat) : Nat := sts 8 (r ^^^ x)
/-- Bytes enter. -/
def adds (r : Nat) (l : List Int) : Nat := l.foldl (fun r x => en r x.toNat) r
/-- The sum of bytes. -/
def sumOf (l : List Int) : Nat := 4294967295 - adds 4294967295 l

theorem st_lt {r : Nat} (h : r < 4294967296) : st r < 4294967296 := by
  unfold st
  have h2 : 2197175160 * (r % 2) < 2 ^ 32 := by omega
  have h1 : r / 2 < 2 ^ 32 := by omega
  exact Nat.xor_lt_two_pow h1 h2
theorem sts_lt : ∀ (n : Nat) {r : Nat}, r < 4294967296 → sts n r < 4294967296
  | 0, _, h => h
  | n + 1, _, h => sts_lt n (st_lt h)
theorem en_lt {r x : Nat} (h : r < 4294967296) (hx : x < 256) : en r x < 4294967296 := by
  unfold en
  apply sts_lt
  exact Nat.xor_lt_two_pow (n := 32) h (by omega)
theorem adds_cons (r : Nat) (x : Int) (l : List Int) : adds r (x :: l) = adds (en r x.toNat) l := rfl
theorem adds_nil (r : Nat) : adds r [] = r := rfl
theorem adds_append (r : Nat) (l l' : List Int) : adds r (l ++ l') = adds (adds r l) l' := by unfold adds; rw [List.foldl_append]
theorem adds_lt : ∀ (l : List Int) {r : Nat}, r < 4294967296 → (∀ x ∈ l, 0 ≤ x ∧ x ≤ 255) → adds r l < 4294967296
  | [], _, h, _ => h
  | x :: l, r, h, hl => by
    have hx := hl x (by simp)
    rw [adds_cons]
    exact adds_lt l (en_lt h (by omega)) (fun y hy => hl y (by simp [hy]))
theorem adds_take (r : Nat) (l : List Int) (k : Nat) (h : k < l.length) : adds r (l.take (k + 1)) = en (adds r (l.take k)) (l.getD k 0).toNat := by
  rw [List.take_add_one, List.getElem?_eq_getElem h, adds_append, List.getD_eq_getElem?_getD, List.getElem?_eq_getElem h]
  rfl
theorem sts_add : ∀ (m n r : Nat), sts (m + n) r = sts n (sts m r)
  | 0, n, r => by rw [Nat.zero_add]; rfl
  | m + 1, n, r => by rw [show m + 1 + n = (m + n) + 1 by omega]; exact sts_add m n (st r)
theorem sts_succ (n r : Nat) : sts (n + 1) r = st (sts n r) := sts_add n 1 r

theorem xor_cancel (a b : Nat) : a ^^^ (a ^^^ b) = b := by rw [← Nat.xor_assoc, Nat.xor_self, Nat.zero_xor]
theorem st_lin (a b : Nat) : st (a ^^^ b) = st a ^^^ st b := by
  unfold st
  have h1 : (a ^^^ b) / 2 = a / 2 ^^^ b / 2 := Nat.xor_div_two_pow (n := 1)
  have h2 : (a ^^^ b) % 2 = (a % 2) ^^^ (b % 2) := Nat.xor_mod_two_pow (n := 1)
  rw [h1, h2]
  have ha : a % 2 = 0 ∨ a % 2 = 1 := by omega
  have hb : b % 2 = 0 ∨ b % 2 = 1 := by omega
  generalize a / 2 = x
  generalize b / 2 = y
  rcases ha with ha | ha <;> rcases hb with hb | hb <;> rw [ha, hb]
  · simp
  · simp [Nat.xor_assoc]
  · simp; rw [Nat.xor_assoc, Nat.xor_comm y, ← Nat.xor_assoc]
  · simp; rw [Nat.xor_assoc x, ← Nat.xor_assoc 2197175160 y, Nat.xor_comm 2197175160 y, Nat.xor_assoc y, Nat.xor_self, Nat.xor_zero]
theorem st_zero : st 0 = 0 := by decide
theorem sts_zero : ∀ n, sts n 0 = 0
  | 0 => rfl
  | n + 1 => by show sts n (st 0) = 0; rw [st_zero]; exact sts_zero n
theorem sts_lin : ∀ (n a b : Nat), sts n (a ^^^ b) = sts n a ^^^ sts n b
  | 0, _, _ => rfl
  | n + 1, a, b => by show sts n (st (a ^^^ b)) = _; rw [st_lin]; exact sts_lin n _ _
theorem xor_eq_zero {a b : Nat} (h : a ^^^ b = 0) : a = b := by
  have := xor_cancel a b; rw [h, Nat.xor_zero] at this; exact this
theorem st_ker {d : Nat} (h : d < 4294967296) (hs : st d = 0) : d = 0 := by
  have := xor_eq_zero hs
  omega
theorem sts_ker : ∀ (n : Nat) {d : Nat}, d < 4294967296 → sts n d = 0 → d = 0
  | 0, _, _, hs => hs
  | n + 1, _, h, hs => st_ker h (sts_ker n (st_lt h) hs)
theorem adds_lin : ∀ (l : List Int) (r d : Nat), adds (r ^^^ d) l = adds r l ^^^ sts (8 * l.length) d
  | [], _, _ => rfl
  | x :: l, r, d => by
    have e : en (r ^^^ d) x.toNat = en r x.toNat ^^^ sts 8 d := by
      unfold en
      rw [Nat.xor_assoc, Nat.xor_comm d, ← Nat.xor_assoc, sts_lin]
    rw [adds_cons, adds_cons, e, adds_lin l, ← sts_add]
    congr 2
    simp; omega
/-- All bits turned. -/
theorem not_eq {r : Nat} (h : r < 4294967296) : 4294967295 - r = 4294967295 ^^^ r := by
  have h1 : 4294967295 - r + r = 4294967295 := by omega
  apply Nat.eq_of_testBit_eq
  intro i
  rw [show 4294967295 - r = 2 ^ 32 - (r + 1) by omega, Nat.testBit_two_pow_sub_succ (by omega), Nat.testBit_xor, show (4294967295 : Nat) = 2 ^ 32 - 1 by rfl, Nat.testBit_two_pow_sub_one]
  by_cases hi : i < 32
  · simp [hi]
  · have : r.testBit i = false := Nat.testBit_lt_two_pow (Nat.lt_of_lt_of_le h (show 2 ^ 32 ≤ 2 ^ i from Nat.pow_le_pow_right (by omega) (by omega)))
    simp [hi, this]
theorem sum_join (a b : List Int) (ha : ∀ x ∈ a, 0 ≤ x ∧ x ≤ 255) (hb : ∀ x ∈ b, 0 ≤ x ∧ x ≤ 255) : sts (8 * b.length) (sumOf a) ^^^ sumOf b = sumOf (a ++ b) := by
  have hA := adds_lt a (r := 4294967295) (by omega) ha
  have hB := adds_lt b (r := 4294967295) (by omega) hb
  have hAB := adds_lt (a ++ b) (r := 4294967295) (by omega) (fun x hx => (List.mem_append.1 hx).elim (ha x) (hb x))
  unfold sumOf
  rw [not_eq hA, not_eq hB, not_eq hAB, adds_append]
  have e : adds (adds 4294967295 a) b = adds 4294967295 b ^^^ sts (8 * b.length) (4294967295 ^^^ adds 4294967295 a) := by
    rw [← adds_lin, xor_cancel]
  rw [e]
  generalize sts (8 * b.length) (4294967295 ^^^ adds 4294967295 a) = y
  rw [Nat.xor_comm y, Nat.xor_assoc]
theorem sum_one (l : List Int) (hl : ∀ x ∈ l, 0 ≤ x ∧ x ≤ 255) (i : Nat) (hi : i < l.length) (d : Nat) (hd : d < 256) :
    (sumOf (l.set i (((l.getD i 0).toNat ^^^ d : Nat) : Int)) == sumOf l) = (d == 0) := by
  have hx := hl _ (List.getElem_mem hi)
  have hgd : l.getD i 0 = l[i] := by rw [List.getD_eq_getElem?_getD, List.getElem?_eq_getElem hi]; rfl
  rw [hgd]
  have e0 : l = l.take i ++ l[i] :: l.drop (i + 1) := by rw [← List.drop_eq_getElem_cons hi, List.take_append_drop]
  have e1 : l.set i ((l[i].toNat ^^^ d : Nat) : Int) = l.take i ++ ((l[i].toNat ^^^ d : Nat) : Int) :: l.drop (i + 1) := List.set_eq_take_append_cons_drop .. |>.trans (if_pos hi)
  have hxd : l[i].toNat ^^^ d < 256 := Nat.xor_lt_two_pow (n := 8) (by omega) hd
  have hA := adds_lt l (r := 4294967295) (by omega) hl
  have hB := adds_lt (l.set i ((l[i].toNat ^^^ d : Nat) : Int)) (r := 4294967295) (by omega) (fun x hx => by
    rcases List.mem_or_eq_of_mem_set hx with h | rfl
    · exact hl x h
    · omega)
  have key : adds 4294967295 (l.set i ((l[i].toNat ^^^ d : Nat) : Int)) = adds 4294967295 l ^^^ sts (8 * (l.drop (i + 1)).length) (sts 8 d) := by
    rw [e1]
    conv => rhs; rw [e0]
    rw [adds_append, adds_append, adds_cons, adds_cons, Int.toNat_natCast]
    have e : ∀ r, en r (l[i].toNat ^^^ d) = en r l[i].toNat ^^^ sts 8 d := fun r => by unfold en; rw [← Nat.xor_assoc, sts_lin]
    rw [e, adds_lin]
    simp
  rw [Bool.eq_iff_iff, beq_iff_eq, beq_iff_eq]
  unfold sumOf
  constructor
  · intro h
    have h' : adds 4294967295 (l.set i ((l[i].toNat ^^^ d : Nat) : Int)) = adds 4294967295 l := by omega
    rw [key] at h'
    have h2 : sts (8 * (l.drop (i + 1)).length) (sts 8 d) = 0 := by
      have := xor_cancel (adds 4294967295 l) (sts (8 * (l.drop (i + 1)).length) (sts 8 d))
      rw [h', Nat.xor_self] at this; exact this.symm
    exact sts_ker 8 (by omega) (sts_ker _ (sts_lt 8 (by omega)) h2)
  · rintro rfl
    rw [key, sts_zero, sts_zero, Nat.xor_zero]
theorem sum_lt (l : List Int) : sumOf l ≤ 4294967295 := Nat.sub_le _ _
theorem sum_nil : sumOf [] = 0 := by decide
end Go.Proofs.Ytadeocphkihamaa
