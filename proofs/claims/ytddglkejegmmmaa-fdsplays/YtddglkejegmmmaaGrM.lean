/-
  Plain words of my own on patches and graphs of layer 14, as lists: no statement is proved here.
-/
import Derived.Test.YtddglkejegmmmaaPlainI
namespace Go.Proofs.Ytddglkejegmmmaa
set_option linter.unusedVariables false
set_option linter.unusedSimpArgs false

/-- A patch. -/
structure Pt where
  id : Int
  at' : Int
  off : Int
  data : List Int
  kind : Int
  needs : List Int
  own : Int
  child : Int
  wr : Bool
def Pt.zero : Pt := ⟨0, 0, 0, [], 0, [], 0, 0, false⟩
def wfi (x : Int) : Prop := (Lit.int .i64 x).wf = true
theorem wfi_of {x : Int} (h : -9223372036854775808 ≤ x ∧ x ≤ 9223372036854775807) : wfi x := by
  unfold wfi; simp [Lit.wf, IntKind.min, IntKind.max, IntKind.bits, IntKind.signed]; omega
theorem wfi_to {x : Int} (h : wfi x) : -9223372036854775808 ≤ x ∧ x ≤ 9223372036854775807 := by
  unfold wfi at h; simp [Lit.wf, IntKind.min, IntKind.max, IntKind.bits, IntKind.signed] at h; omega

/-- Its kind, sector and bytes are such as may be. -/
def fit (p : Pt) : Bool := decide (0 ≤ p.at') && decide (p.at' < 2048) && decide (0 ≤ p.kind) && decide (p.kind ≤ 6) && decide (0 < (p.data.length : Int)) && decide (0 ≤ p.off) && decide (p.off ≤ (if p.kind = 0 then 64 else 54) - (p.data.length : Int))
theorem fit_to {p : Pt} (h : fit p = true) : 0 ≤ p.at' ∧ p.at' < 2048 ∧ 0 ≤ p.kind ∧ p.kind ≤ 6 ∧ 0 < (p.data.length : Int) ∧ 0 ≤ p.off ∧ p.off + (p.data.length : Int) ≤ 64 := by
  unfold fit at h
  simp only [Bool.and_eq_true, decide_eq_true_eq] at h
  obtain ⟨⟨⟨⟨⟨⟨h1, h2⟩, h3⟩, h4⟩, h5⟩, h6⟩, h7⟩ := h
  refine ⟨h1, h2, h3, h4, h5, h6, ?_⟩
  split at h7 <;> omega
/-- Numbers that were given. -/
def givn (last : Int) (l : List Int) : Bool := l.all fun x => decide (1 ≤ x) && decide (x ≤ last)

def fnd (l : List Pt) (i : Int) : Option Pt := l.find? fun p => p.id == i
def has (l : List Pt) (i : Int) : Bool := l.any fun p => p.id == i
def inS (s : Int) (p : Pt) : Bool := p.at' == s && !p.wr
/-- The patches of a sector that are not written, and their numbers. -/
def wtP (l : List Pt) (s : Int) : List Pt := l.filter (inS s)
def ids (l : List Pt) : List Int := l.map (·.id)
def wts (l : List Pt) (s : Int) : List Int := ids (wtP l s)
def meet (a b : Pt) : Bool := a.at' == b.at' && (a.kind != b.kind || (decide (a.off < b.off + (b.data.length : Int)) && decide (b.off < a.off + (a.data.length : Int))))
def held (l : List Pt) (p : Pt) : Bool := p.needs.any (has l)
/-- Those that are ready, of the rest, where 'late' ahead of them are not. -/
def rdS (l : List Pt) : List Pt → List Pt → List Pt
  | _, [] => []
  | late, p :: r => if held l p || late.any (fun q => meet q p) then rdS l (late ++ [p]) r else p :: rdS l late r
/-- Of one sector. -/
def rdy (l : List Pt) (s : Int) : List Int := ids (rdS l [] (wtP l s))
/-- Those ahead of p that are not written, and meet it. -/
def bhd (l : List Pt) (p : Pt) : Bool := l.any fun q => decide (q.id < p.id) && !q.wr && meet q p
/-- A graph: the number given last, and its patches. -/
structure GZ where
  last : Int
  l : List Pt
def GZ.new : GZ := ⟨0, []⟩
def setW (l : List Pt) (i : Int) : List Pt := l.map fun p => if p.id = i then { p with wr := true } else p
def GZ.addOk (Z : GZ) (p : Pt) : Bool := fit p && givn Z.last p.needs
def GZ.add (Z : GZ) (p : Pt) : GZ := if Z.addOk p then ⟨Z.last + 1, Z.l ++ [{ p with id := Z.last + 1, wr := false }]⟩ else Z
def GZ.addN (Z : GZ) (p : Pt) : Int := if Z.addOk p then Z.last + 1 else 0
def GZ.addE (Z : GZ) (p : Pt) : Int := if Z.addOk p then 0 else 2
/-- One patch is written: what is told, and what is left. -/
def wE (l : List Pt) (i : Int) : Int := match fnd l i with
  | none => 5
  | some p => if p.wr || held l p || bhd l p then 23 else 0
def GZ.wr1 (Z : GZ) (i : Int) : GZ := if wE Z.l i = 0 then { Z with l := setW Z.l i } else Z
def GZ.wrE (Z : GZ) : List Int → Int
  | [] => 0
  | i :: r => if wE Z.l i = 0 then (Z.wr1 i).wrE r else wE Z.l i
def GZ.wr (Z : GZ) : List Int → GZ
  | [] => Z
  | i :: r => if wE Z.l i = 0 then (Z.wr1 i).wr r else Z
/-- What is written, of those that q tells, goes. -/
def GZ.stl (Z : GZ) (q : Pt → Bool) : GZ := { Z with l := Z.l.filter fun p => !(p.wr && q p) }
def GZ.stlN (Z : GZ) (q : Pt → Bool) : Int := ((Z.l.filter fun p => p.wr && q p).length : Int)
/-- What holds of a graph; at most t numbers were given. -/
structure GZ.ok (Z : GZ) (t : Int) : Prop where
  srt : Z.l.Pairwise fun a b => a.id < b.id
  rng : ∀ p ∈ Z.l, 1 ≤ p.id ∧ p.id ≤ Z.last
  ft : ∀ p ∈ Z.l, fit p = true
  nds : ∀ p ∈ Z.l, ∀ x ∈ p.needs, 1 ≤ x ∧ x < p.id
  wf : ∀ p ∈ Z.l, wfi p.own ∧ wfi p.child
  l0 : 0 ≤ Z.last
  lt : Z.last ≤ t
section
variable {l : List Pt} {p q : Pt} {i s : Int}
theorem fnd_mem (h : fnd l i = some p) : p ∈ l ∧ p.id = i := by
  unfold fnd at h
  exact ⟨List.mem_of_find?_eq_some h, by have := List.find?_some h; simpa using this⟩
theorem has_fnd : has l i = (fnd l i).isSome := by
  unfold has fnd
  induction l with
  | nil => rfl
  | cons a t ih => by_cases e : a.id == i <;> simp [List.find?_cons, e, ih]
theorem fnd_none (h : fnd l i = none) : ∀ p ∈ l, p.id ≠ i := by
  intro p hp e
  unfold fnd at h
  have := List.find?_eq_none.1 h p hp
  simp [e] at this
theorem fnd_of (hs : l.Pairwise fun a b => a.id < b.id) (hp : p ∈ l) : fnd l p.id = some p := by
  induction l with
  | nil => cases hp
  | cons a t ih =>
    rw [List.pairwise_cons] at hs
    unfold fnd
    rw [List.find?_cons]
    rcases List.mem_cons.1 hp with rfl | hp
    · simp
    · have := hs.1 p hp
      have e : (a.id == p.id) = false := by simp; omega
      rw [e]; exact ih hs.2 hp
theorem fnd_snoc (hn : p.id = i) (h : ∀ q ∈ l, q.id ≠ i) (k : Int) : fnd (l ++ [p]) k = if k = i then some p else fnd l k := by
  unfold fnd
  rw [List.find?_append]
  by_cases e : k = i
  · subst e
    rw [if_pos rfl]
    have : l.find? (fun p => p.id == k) = none := List.find?_eq_none.2 (fun q hq => by simpa using h q hq)
    rw [this]; simp [hn]
  · rw [if_neg e]
    have : List.find? (fun p => p.id == k) [p] = none := by simp; omega
    rw [this, Option.or_none]
theorem setW_id (l : List Pt) (i : Int) : ids (setW l i) = ids l := by
  unfold ids setW
  rw [List.map_map]
  refine List.map_congr_left fun p _ => ?_
  by_cases e : p.id = i <;> simp [e]
theorem fnd_setW (l : List Pt) (i k : Int) : fnd (setW l i) k = if k = i then (fnd l i).map (fun p => { p with wr := true }) else fnd l k := by
  unfold fnd setW
  rw [List.find?_map]
  have e0 : ((fun p : Pt => p.id == k) ∘ fun p : Pt => if p.id = i then { p with wr := true } else p) = fun p => p.id == k := by
    funext p
    by_cases e : p.id = i <;> simp [e]
  rw [e0]
  by_cases e : k = i
  · subst e
    rw [if_pos rfl]
    cases h : l.find? (fun p => p.id == k) with
    | none => rfl
    | some p => have := List.find?_some h; simp at this; simp [this]
  · rw [if_neg e]
    cases h : l.find? (fun p => p.id == k) with
    | none => rfl
    | some p => have := List.find?_some h; simp at this; simp [this, e]
theorem wts_mem {x : Int} : x ∈ wts l s ↔ ∃ p ∈ l, p.id = x ∧ p.at' = s ∧ p.wr = false := by
  unfold wts ids wtP inS
  simp only [List.mem_map, List.mem_filter, Bool.and_eq_true, beq_iff_eq, Bool.not_eq_true']
  constructor
  · rintro ⟨p, ⟨h1, h2, h3⟩, h4⟩; exact ⟨p, h1, h4, h2, h3⟩
  · rintro ⟨p, h1, h4, h2, h3⟩; exact ⟨p, ⟨h1, h2, h3⟩, h4⟩
theorem wtP_snoc (l : List Pt) (p : Pt) (s : Int) (hp : p.wr = false) : wtP (l ++ [p]) s = if s = p.at' then wtP l s ++ [p] else wtP l s := by
  unfold wtP inS
  rw [List.filter_append]
  by_cases e : s = p.at'
  · subst e; simp [hp]
  · rw [if_neg e]; simp [hp, Ne.symm e]
theorem wts_snoc (l : List Pt) (p : Pt) (s : Int) (hp : p.wr = false) : wts (l ++ [p]) s = if s = p.at' then wts l s ++ [p.id] else wts l s := by
  unfold wts
  rw [wtP_snoc l p s hp]
  split <;> simp [ids]
theorem wtP_setW (l : List Pt) (i : Int) (s : Int) : wtP (setW l i) s = (wtP l s).filter fun q => !(q.id == i) := by
  unfold wtP setW
  rw [List.filter_filter, List.filter_map]
  have e1 : ((inS s) ∘ fun p : Pt => if p.id = i then { p with wr := true } else p) = fun q => !(q.id == i) && inS s q := by
    funext q
    by_cases e : q.id = i <;> simp [e, inS]
  rw [e1]
  conv => rhs; rw [← List.map_id (l.filter _)]
  refine List.map_congr_left fun q hq => ?_
  have := (List.mem_filter.1 hq).2
  have e : q.id ≠ i := by simp at this; exact this.1
  simp [e]
theorem ids_filter (l : List Pt) (i : Int) : ids (l.filter fun q => !(q.id == i)) = (ids l).filter fun x => !(x == i) := by
  unfold ids; rw [List.filter_map]; rfl
theorem wts_setW (l : List Pt) (i : Int) (s : Int) : wts (setW l i) s = (wts l s).filter fun x => !(x == i) := by
  unfold wts; rw [wtP_setW, ids_filter]
theorem wts_sub (hs : l.Pairwise fun a b => a.id < b.id) (s : Int) : (wts l s).Pairwise (· < ·) := by
  unfold wts ids
  rw [List.pairwise_map]
  exact hs.filter _
end
theorem rising_len : ∀ (l : List Pt) (lo hi : Int), (l.Pairwise fun a b => a.id < b.id) → (∀ p ∈ l, lo < p.id ∧ p.id ≤ hi) → lo ≤ hi → (l.length : Int) ≤ hi - lo
  | [], lo, hi, _, _, h => by simp; omega
  | a :: t, lo, hi, hs, h, h0 => by
    rw [List.pairwise_cons] at hs
    have ha := h a (by simp)
    have := rising_len t a.id hi hs.2 (fun p hp => ⟨hs.1 p hp, (h p (by simp [hp])).2⟩) ha.2
    simp only [List.length_cons]; push_cast; omega
theorem GZ.ok.few {Z : GZ} {t : Int} (h : Z.ok t) : (Z.l.length : Int) ≤ t := by
  have := rising_len Z.l 0 Z.last h.srt (fun p hp => by have := h.rng p hp; omega) h.l0
  have := h.lt
  omega
theorem GZ.ok.fewW {Z : GZ} {t : Int} (h : Z.ok t) (s : Int) : ((wtP Z.l s).length : Int) ≤ t := by
  have h1 := h.few
  have h2 : (wtP Z.l s).length ≤ Z.l.length := by unfold wtP; exact List.length_filter_le _ _
  omega
end Go.Proofs.Ytddglkejegmmmaa
