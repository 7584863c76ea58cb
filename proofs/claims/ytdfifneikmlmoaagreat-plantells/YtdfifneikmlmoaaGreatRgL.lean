/-
  What is needed, as plain lists: no statement is proved here.
-/
import Derived.Test.YtdfifneikmlmoaaGreatRgI
namespace Go.Proofs.YtdfifneikmlmoaaGreat
open Go.ChangeShapes Go.WideShapes Go.ChangeAt Go.RowKit
set_option linter.unusedVariables false
set_option linter.unusedSimpArgs false

/-- Whether a is wanted, where c are those behind it that are. -/
def wnt (is : List Int) (c : List Pt) (a : Pt) : Bool := is.contains a.id || c.any fun q => q.needs.contains a.id || (!q.wr && !a.wr && meet a q)
/-- All that is wanted. -/
def nd (is : List Int) : List Pt → List Pt
  | [] => []
  | a :: t => if wnt is (nd is t) a then a :: nd is t else nd is t
theorem nd_sub (is : List Int) : ∀ (l : List Pt) (p : Pt), p ∈ nd is l → p ∈ l
  | [], p, h => by cases h
  | a :: t, p, h => by
    unfold nd at h
    split at h
    · rcases List.mem_cons.1 h with rfl | h
      · exact List.mem_cons_self
      · exact List.mem_cons_of_mem _ (nd_sub is t p h)
    · exact List.mem_cons_of_mem _ (nd_sub is t p h)
theorem nd_len (is : List Int) : ∀ l : List Pt, (nd is l).length ≤ l.length
  | [] => Nat.le_refl _
  | a :: t => by
    have := nd_len is t
    unfold nd
    split <;> simp <;> omega
theorem nd_drop {is : List Int} {l : List Pt} {k : Nat} {p : Pt} (h : l[k]? = some p) : nd is (l.drop k) = if wnt is (nd is (l.drop (k + 1))) p then p :: nd is (l.drop (k + 1)) else nd is (l.drop (k + 1)) := by
  obtain ⟨h1, h2⟩ := List.getElem?_eq_some_iff.1 h
  rw [List.drop_eq_getElem_cons h1, nd, h2]
/-- A list of truths, place by place. -/
structure Bw (bs : List Bool) (l : List Pt) (f : Nat → Pt → Bool) : Prop where
  len : bs.length = l.length
  get : ∀ j p, l[j]? = some p → bs[j]? = some (f j p)
section
variable {bs : List Bool} {l : List Pt} {f f' : Nat → Pt → Bool}
theorem Bw.congr (h : Bw bs l f) (k : ∀ j p, l[j]? = some p → f j p = f' j p) : Bw bs l f' := ⟨h.len, fun j p hj => by rw [← k j p hj]; exact h.get j p hj⟩
theorem Bw.set (h : Bw bs l f) {i : Nat} {q : Pt} (hi : l[i]? = some q) (b : Bool) : Bw (bs.set i b) l (fun j p => if j = i then b else f j p) := by
  refine ⟨by rw [List.length_set]; exact h.len, fun j p hj => ?_⟩
  have hl := (List.getElem?_eq_some_iff.1 hi).1
  rw [List.getElem?_set]
  by_cases e : i = j
  · rw [if_pos e, if_pos (by rw [h.len]; exact hl), if_pos e.symm]
  · rw [if_neg e, if_neg (fun e' => e e'.symm)]; exact h.get j p hj
theorem Bw.none (l : List Pt) : Bw (List.replicate l.length false) l (fun _ _ => false) := ⟨by simp, fun j p hj => by
  have := (List.getElem?_eq_some_iff.1 hj).1
  rw [List.getElem?_replicate, if_pos this]⟩
end
/-- Ahead of one more number. -/
def n1 (is : List Int) (i : Nat) (_ : Nat) (p : Pt) : Bool := (is.take i).contains p.id
def n2 (is : List Int) (l : List Pt) (m : Nat) (j : Nat) (p : Pt) : Bool := wnt is (nd is (l.drop (max m (j + 1)))) p
def n3 (is : List Int) (l : List Pt) (k : Nat) (p : Pt) (i : Nat) (j : Nat) (q : Pt) : Bool := n2 is l (k + 1) j q || (decide (j < k) && (p.needs.take i).contains q.id)
def n4 (is : List Int) (l : List Pt) (k : Nat) (p : Pt) (i : Nat) (j : Nat) (q : Pt) : Bool := n2 is l (k + 1) j q || (decide (j < k) && p.needs.contains q.id) || (decide (j < i) && !p.wr && !q.wr && meet q p)
theorem con_take {l : List Int} {i : Nat} {x : Int} (h : l[i]? = some x) (y : Int) : (l.take (i + 1)).contains y = ((l.take i).contains y || y == x) := by
  rw [List.take_add_one, h, Bool.eq_iff_iff]
  simp [List.contains_iff_mem]
theorem n1_zero (is : List Int) (l : List Pt) : Bw (List.replicate l.length false) l (n1 is 0) := (Bw.none l).congr (fun j p _ => by unfold n1; simp)
theorem uniq {l : List Pt} (hs : Rise l) {i j : Nat} {p q : Pt} (hi : l[i]? = some p) (hj : l[j]? = some q) (e : p.id = q.id) : i = j := by
  have h1 := rise_get hs hi hj
  have h2 := rise_get hs hj hi
  refine Decidable.byContradiction fun hn => ?_
  by_cases hlt : i < j
  · have := h1.2 hlt; omega
  · have := h2.2 (by omega); omega
theorem n1_yes {bs : List Bool} {l : List Pt} (hs : Rise l) {is : List Int} {i k : Nat} {x : Int} {p : Pt} (h : Bw bs l (n1 is i)) (hx : is[i]? = some x) (hk : l[k]? = some p) (hp : p.id = x) : Bw (bs.set k true) l (n1 is (i + 1)) :=
  (h.set hk true).congr (fun j q hj => by
    unfold n1
    rw [con_take hx]
    by_cases e : j = k
    · subst e; rw [hk] at hj; injection hj with hj; subst hj; simp [hp]
    · rw [if_neg e]
      have : (q.id == x) = false := by
        simp only [beq_eq_false_iff_ne]
        intro e'; exact e (uniq hs hj hk (by rw [e', hp]))
      rw [this, Bool.or_false])
theorem n1_no {bs : List Bool} {l : List Pt} {is : List Int} {i : Nat} {x : Int} (h : Bw bs l (n1 is i)) (hx : is[i]? = some x) (hn : fnd l x = none) : Bw bs l (n1 is (i + 1)) :=
  h.congr (fun j q hj => by
    unfold n1
    rw [con_take hx]
    have : (q.id == x) = false := by
      simp only [beq_eq_false_iff_ne]
      exact fnd_none hn q (List.mem_of_getElem? hj)
    rw [this, Bool.or_false])
theorem n2_start {bs : List Bool} {l : List Pt} {is : List Int} (h : Bw bs l (n1 is is.length)) : Bw bs l (n2 is l l.length) :=
  h.congr (fun j p hj => by
    have := (List.getElem?_eq_some_iff.1 hj).1
    unfold n1 n2 wnt
    rw [List.take_length, Nat.max_eq_left (by omega), List.drop_length]
    simp [nd])
theorem n2_skip {bs : List Bool} {l : List Pt} {is : List Int} {k : Nat} {p : Pt} (h : Bw bs l (n2 is l (k + 1))) (hk : l[k]? = some p) (hn : wnt is (nd is (l.drop (k + 1))) p = false) : Bw bs l (n2 is l k) :=
  h.congr (fun j q hj => by
    unfold n2
    by_cases e : j < k
    · rw [Nat.max_eq_left (by omega), Nat.max_eq_left (by omega), nd_drop hk, if_neg (by rw [hn]; simp)]
    · rw [Nat.max_eq_right (by omega), Nat.max_eq_right (by omega)])
theorem n3_zero {bs : List Bool} {l : List Pt} {is : List Int} {k : Nat} {p : Pt} (h : Bw bs l (n2 is l (k + 1))) : Bw bs l (n3 is l k p 0) := h.congr (fun j q _ => by unfold n3; simp)
theorem n3_yes {bs : List Bool} {l : List Pt} (hs : Rise l) {is : List Int} {i k m : Nat} {x : Int} {p q : Pt} (h : Bw bs l (n3 is l k p i)) (hk : l[k]? = some p) (hx : p.needs[i]? = some x) (hlt : x < p.id) (hm : l[m]? = some q) (hq : q.id = x) : Bw (bs.set m true) l (n3 is l k p (i + 1)) :=
  (h.set hm true).congr (fun j q' hj => by
    unfold n3
    rw [con_take hx]
    by_cases e : j = m
    · subst e; rw [hm] at hj; injection hj with hj; subst hj
      have : j < k := (rise_get hs hm hk).1 (by omega)
      simp [hq, this]
    · rw [if_neg e]
      have : (q'.id == x) = false := by
        simp only [beq_eq_false_iff_ne]
        intro e'; exact e (uniq hs hj hm (by rw [e', hq]))
      rw [this, Bool.or_false])
theorem n3_no {bs : List Bool} {l : List Pt} {is : List Int} {i k : Nat} {x : Int} {p : Pt} (h : Bw bs l (n3 is l k p i)) (hx : p.needs[i]? = some x) (hn : fnd l x = none) : Bw bs l (n3 is l k p (i + 1)) :=
  h.congr (fun j q hj => by
    unfold n3
    rw [con_take hx]
    have : (q.id == x) = false := by
      simp only [beq_eq_false_iff_ne]
      exact fnd_none hn q (List.mem_of_getElem? hj)
    rw [this, Bool.or_false])
theorem n4_zero {bs : List Bool} {l : List Pt} {is : List Int} {k : Nat} {p : Pt} (h : Bw bs l (n3 is l k p p.needs.length)) : Bw bs l (n4 is l k p 0) := h.congr (fun j q _ => by unfold n3 n4; simp)
theorem n4_yes {bs : List Bool} {l : List Pt} {is : List Int} {i k : Nat} {p q : Pt} (h : Bw bs l (n4 is l k p i)) (hq : l[i]? = some q) (hm : (!p.wr && !q.wr && meet q p) = true) : Bw (bs.set i true) l (n4 is l k p (i + 1)) :=
  (h.set hq true).congr (fun j q' hj => by
    unfold n4
    by_cases e : j = i
    · subst e; rw [hq] at hj; injection hj with hj; subst hj
      have h1 : decide (j < j + 1) = true := by simp
      rw [if_pos rfl, h1, Bool.true_and, hm, Bool.or_true]
    · rw [if_neg e]
      have : decide (j < i) = decide (j < i + 1) := by simp; omega
      rw [this])
theorem n4_no {bs : List Bool} {l : List Pt} {is : List Int} {i k : Nat} {p q : Pt} (h : Bw bs l (n4 is l k p i)) (hq : l[i]? = some q) (hm : (!p.wr && !q.wr && meet q p) = false) : Bw bs l (n4 is l k p (i + 1)) :=
  h.congr (fun j q' hj => by
    unfold n4
    by_cases e : j = i
    · subst e; rw [hq] at hj; injection hj with hj; subst hj
      have h1 : decide (j < j + 1) = true := by simp
      have h2 : decide (j < j) = false := by simp
      rw [h1, h2, Bool.true_and, hm, Bool.false_and, Bool.false_and, Bool.false_and]
    · have : decide (j < i) = decide (j < i + 1) := by simp; omega
      rw [this])
theorem n4_end {bs : List Bool} {l : List Pt} {is : List Int} {i k : Nat} {p : Pt} (h : Bw bs l (n4 is l k p i)) (hk : l[k]? = some p) (hi : i = k ∨ p.wr = true) (hle : i ≤ k) (hw : wnt is (nd is (l.drop (k + 1))) p = true) : Bw bs l (n2 is l k) :=
  h.congr (fun j q hj => by
    unfold n4 n2
    by_cases e : j < k
    · rw [Nat.max_eq_left (by omega), Nat.max_eq_left (by omega), nd_drop hk, if_pos hw]
      have h1 : decide (j < k) = true := by simpa using e
      have h3 : (decide (j < i) && !p.wr && !q.wr && meet q p) = (!p.wr && !q.wr && meet q p) := by
        rcases hi with rfl | hi
        · rw [h1, Bool.true_and]
        · rw [hi]; simp
      rw [h1, h3, Bool.true_and]
      unfold wnt
      rw [List.any_cons]
      cases is.contains q.id <;> cases p.needs.contains q.id <;> cases (!p.wr && !q.wr && meet q p) <;> simp
    · rw [Nat.max_eq_right (by omega), Nat.max_eq_right (by omega)]
      have h1 : decide (j < k) = false := by simpa using e
      have h2 : decide (j < i) = false := by simp; omega
      rw [h1, h2]; simp)
theorem n2_get {bs : List Bool} {l : List Pt} {is : List Int} {k : Nat} {p : Pt} (h : Bw bs l (n2 is l 0)) (hk : l[k]? = some p) : bs[k]? = some (wnt is (nd is (l.drop (k + 1))) p) := by
  rw [h.get k p hk]; unfold n2; rw [Nat.max_eq_right (by omega)]
end Go.Proofs.YtdfifneikmlmoaaGreat
