/-
  Why all comes to be stable in the end, as lists: no statement is proved here.
-/
import Derived.Test.YtdfifneikmlmoaaGreatGsD
namespace Go.Proofs.YtdfifneikmlmoaaGreat
set_option linter.unusedVariables false
set_option linter.unusedSimpArgs false

abbrev Rise (l : List Pt) : Prop := l.Pairwise fun a b => a.id < b.id
theorem has_ids (l : List Pt) (i : Int) : has l i = (ids l).contains i := by
  unfold has ids
  induction l with
  | nil => rfl
  | cons a t ih =>
    rw [List.any_cons, List.map_cons, List.contains_cons, ih]
    congr 1
    rw [Bool.eq_iff_iff, beq_iff_eq, beq_iff_eq]
    exact eq_comm
theorem setW_rise {l : List Pt} (h : Rise l) (i : Int) : Rise (setW l i) := by
  unfold Rise setW
  rw [List.pairwise_map]
  refine h.imp fun {a b} hab => ?_
  split <;> split <;> exact hab
theorem setW_mem {l : List Pt} {i : Int} {q : Pt} : q ∈ setW l i ↔ ∃ p ∈ l, q = if p.id = i then { p with wr := true } else p := by
  unfold setW
  rw [List.mem_map]
  constructor
  · rintro ⟨p, h1, h2⟩; exact ⟨p, h1, h2.symm⟩
  · rintro ⟨p, h1, h2⟩; exact ⟨p, h1, h2.symm⟩
theorem setW_none {l : List Pt} {i : Int} (h : ∀ q ∈ l, q.id ≠ i) : setW l i = l := by
  unfold setW
  conv => rhs; rw [← List.map_id l]
  refine List.map_congr_left fun q hq => ?_
  simp [h q hq]
/-- What is told to be ready can be written, one behind the other. -/
theorem wr_readyL (l : List Pt) (s : Int) : ∀ (W late : List Pt) (Z : GZ), Rise Z.l → (∀ i, has Z.l i = has l i) → (∀ p ∈ W, p ∈ Z.l ∧ p.wr = false ∧ p.at' = s) → Rise W → (∀ q ∈ Z.l, q.wr = false → q.at' = s → q ∈ late ∨ q ∈ W) → Z.wrE (ids (rdS l late W)) = 0
  | [], late, Z, _, _, _, _, _ => by simp [rdS, ids, GZ.wrE]
  | p :: r, late, Z, hs, hh, hW, hR, hl => by
    unfold Rise at hR
    rw [List.pairwise_cons] at hR
    obtain ⟨hp1, hp2, hp3⟩ := hW p (by simp)
    unfold rdS
    split
    · refine wr_readyL l s r (late ++ [p]) Z hs hh (fun q hq => hW q (by simp [hq])) hR.2 (fun q h1 h2 h3 => ?_)
      rcases hl q h1 h2 h3 with h | h
      · exact .inl (by simp [h])
      · rcases List.mem_cons.1 h with rfl | h
        · exact .inl (by simp)
        · exact .inr h
    · rename_i hc
      have hc1 : held l p = false ∧ late.any (fun q => meet q p) = false := by simpa using hc
      have hld : held Z.l p = false := by
        rw [← hc1.1]; unfold held
        congr 1
        funext i; exact hh i
      have hbd : bhd Z.l p = false := by
        unfold bhd
        rw [List.any_eq_false]
        intro q hq h
        simp only [Bool.and_eq_true, decide_eq_true_eq, Bool.not_eq_true'] at h
        obtain ⟨⟨h1, h2⟩, h3⟩ := h
        have h4 : q.at' = s := by
          unfold meet at h3
          have := (Bool.and_eq_true_iff.1 h3).1
          have : q.at' = p.at' := by simpa using this
          rw [this, hp3]
        rcases hl q hq h2 h4 with h5 | h5
        · have := List.any_eq_false.1 hc1.2 q h5
          exact this h3
        · rcases List.mem_cons.1 h5 with rfl | h5
          · omega
          · have := hR.1 q h5; omega
      have hwE : wE Z.l p.id = 0 := by
        unfold wE; rw [fnd_of hs hp1]; simp [hp2, hld, hbd]
      show Z.wrE (p.id :: ids (rdS l late r)) = 0
      unfold GZ.wrE
      rw [if_pos hwE]
      have e1 : (Z.wr1 p.id).l = setW Z.l p.id := by unfold GZ.wr1; rw [if_pos hwE]
      refine wr_readyL l s r late (Z.wr1 p.id) (by rw [e1]; exact setW_rise hs _) (fun i => by rw [e1, has_ids, setW_id, ← has_ids]; exact hh i) (fun q hq => ?_) hR.2 (fun q h1 h2 h3 => ?_)
      · obtain ⟨q1, q2, q3⟩ := hW q (by simp [hq])
        refine ⟨?_, q2, q3⟩
        rw [e1]
        refine setW_mem.2 ⟨q, q1, ?_⟩
        have := hR.1 q hq
        rw [if_neg (by omega)]
      · rw [e1] at h1
        obtain ⟨q0, q1, q2⟩ := setW_mem.1 h1
        by_cases e : q0.id = p.id
        · rw [if_pos e] at q2; rw [q2] at h2; cases h2
        · rw [if_neg e] at q2
          subst q2
          rcases hl q q1 h2 h3 with h | h
          · exact .inl h
          · rcases List.mem_cons.1 h with rfl | h
            · exact absurd rfl e
            · exact .inr h
theorem wr_ready (Z : GZ) (hs : Rise Z.l) (s : Int) : Z.wrE (rdy Z.l s) = 0 := by
  unfold rdy
  refine wr_readyL Z.l s (wtP Z.l s) [] Z hs (fun _ => rfl) (fun p hp => ?_) (hs.filter _) (fun q h1 h2 h3 => .inr (wtP_mem.2 ⟨h1, h3, h2⟩))
  have := wtP_mem.1 hp
  exact ⟨this.1, this.2.2, this.2.1⟩
/-- How many are written. -/
def cw (l : List Pt) : Nat := (l.filter (·.wr)).length
theorem cw_setW : ∀ {l : List Pt} {i : Int} {p : Pt}, Rise l → fnd l i = some p → p.wr = false → cw (setW l i) = cw l + 1
  | [], i, p, _, h, _ => by cases h
  | a :: t, i, p, hs, h, hw => by
    unfold Rise at hs
    rw [List.pairwise_cons] at hs
    unfold fnd at h
    rw [List.find?_cons] at h
    by_cases e : a.id = i
    · have e' : (a.id == i) = true := by simpa using e
      rw [e'] at h
      injection h with h
      subst h
      have e2 : setW (a :: t) i = { a with wr := true } :: setW t i := by unfold setW; rw [List.map_cons, if_pos e]
      rw [e2, setW_none (fun q hq => by have := hs.1 q hq; omega)]
      unfold cw
      rw [List.filter_cons, List.filter_cons, hw]; simp
    · have e' : (a.id == i) = false := by simpa using e
      rw [e'] at h
      have ih := cw_setW (l := t) (i := i) (p := p) hs.2 h hw
      have e2 : setW (a :: t) i = a :: setW t i := by unfold setW; rw [List.map_cons, if_neg e]
      rw [e2]
      unfold cw at ih ⊢
      rw [List.filter_cons, List.filter_cons]
      split
      · rw [List.length_cons, List.length_cons, ih]
      · exact ih
theorem wr1_rise {Z : GZ} (h : Rise Z.l) (i : Int) : Rise (Z.wr1 i).l := by
  unfold GZ.wr1
  split
  · exact setW_rise h i
  · exact h
theorem cw_wr : ∀ (L : List Int) (Z : GZ), Rise Z.l → Z.wrE L = 0 → cw (Z.wr L).l = cw Z.l + L.length
  | [], Z, _, _ => rfl
  | i :: r, Z, hs, h => by
    have h1 : wE Z.l i = 0 := by
      refine Decidable.byContradiction fun e => ?_
      unfold GZ.wrE at h; rw [if_neg e] at h; exact e h
    unfold GZ.wrE at h; rw [if_pos h1] at h
    have e1 : (Z.wr1 i).l = setW Z.l i := by unfold GZ.wr1; rw [if_pos h1]
    have ih := cw_wr r (Z.wr1 i) (wr1_rise hs i) h
    unfold GZ.wr; rw [if_pos h1, ih, e1]
    have : ∃ p, fnd Z.l i = some p ∧ p.wr = false := by
      unfold wE at h1
      cases hf : fnd Z.l i with
      | none => rw [hf] at h1; simp at h1
      | some p =>
        rw [hf] at h1
        refine ⟨p, rfl, ?_⟩
        cases hw : p.wr
        · rfl
        · simp [hw] at h1
    obtain ⟨p, q1, q2⟩ := this
    rw [cw_setW hs q1 q2, List.length_cons]; omega
def core (p : Pt) : Pt := { p with wr := false }
theorem core_wr1 (Z : GZ) (i : Int) : (Z.wr1 i).l.map core = Z.l.map core ∧ (Z.wr1 i).last = Z.last := by
  unfold GZ.wr1
  split
  · refine ⟨?_, rfl⟩
    show (setW Z.l i).map core = _
    unfold setW
    rw [List.map_map]
    refine List.map_congr_left fun p _ => ?_
    by_cases e : p.id = i <;> simp [core, e]
  · exact ⟨rfl, rfl⟩
theorem core_wr : ∀ (L : List Int) (Z : GZ), (Z.wr L).l.map core = Z.l.map core ∧ (Z.wr L).last = Z.last
  | [], Z => ⟨rfl, rfl⟩
  | i :: r, Z => by
    unfold GZ.wr
    split
    · have h1 := core_wr r (Z.wr1 i)
      have h2 := core_wr1 Z i
      exact ⟨h1.1.trans h2.1, h1.2.trans h2.2⟩
    · exact ⟨rfl, rfl⟩
theorem core_self {l : List Pt} (h : ∀ p ∈ l, p.wr = false) : l.map core = l := by
  conv => rhs; rw [← List.map_id l]
  refine List.map_congr_left fun p hp => ?_
  have := h p hp
  cases p; simp_all [core]
/-- The first one is ready, if it is not written. -/
theorem first_ready {Z : GZ} {t : Int} (hok : Z.ok t) {p : Pt} {r : List Pt} (e : Z.l = p :: r) (hw : p.wr = false) : 1 ≤ (rdy Z.l p.at').length := by
  have hs := hok.srt
  have hW : wtP Z.l p.at' = p :: wtP r p.at' := by unfold wtP; rw [e, List.filter_cons]; simp [inS, hw]
  have hh : held Z.l p = false := by
    unfold held
    rw [List.any_eq_false]
    intro x hx h
    have h1 := hok.nds p (by rw [e]; simp) x hx
    unfold has at h
    rw [List.any_eq_true] at h
    obtain ⟨q, hq, h2⟩ := h
    have h3 : q.id = x := by simpa using h2
    rw [e] at hq hs
    rw [List.pairwise_cons] at hs
    rcases List.mem_cons.1 hq with rfl | hq
    · omega
    · have := hs.1 q hq; omega
  unfold rdy
  rw [hW, rdS, if_neg (by rw [hh]; simp)]
  unfold ids; simp
/-- Of a round: the sectors gone through so far. -/
structure RoI (Z Z' : GZ) (L : List Int) (k : Nat) : Prop where
  co : Z'.l.map core = Z.l
  la : Z'.last = Z.last
  on : ∀ p r, Z.l = p :: r → p.at' ∈ L.take k → 1 ≤ cw Z'.l
theorem RoI.start {Z : GZ} (h : ∀ p ∈ Z.l, p.wr = false) (L : List Int) : RoI Z Z L 0 := ⟨core_self h, rfl, fun p r _ hm => by cases hm⟩
theorem RoI.next {Z Z' : GZ} {L : List Int} {k : Nat} {t : Int} (I : RoI Z Z' L k) (hok : Z'.ok t) (hk : k < L.length) : RoI Z (Z'.wr (rdy Z'.l (L.getD k 0))) L (k + 1) ∧ cw (Z'.wr (rdy Z'.l (L.getD k 0))).l = cw Z'.l + (rdy Z'.l (L.getD k 0)).length := by
  have hc := cw_wr (rdy Z'.l (L.getD k 0)) Z' hok.srt (wr_ready Z' hok.srt _)
  have hco := core_wr (rdy Z'.l (L.getD k 0)) Z'
  refine ⟨⟨hco.1.trans I.co, hco.2.trans I.la, fun p r e hm => ?_⟩, hc⟩
  rw [hc]
  rw [List.take_add_one, List.getElem?_eq_getElem hk] at hm
  rcases List.mem_append.1 hm with hm | hm
  · have := I.on p r e hm; omega
  · have hm' : p.at' = L[k] := by simpa using hm
    have hg : L.getD k 0 = p.at' := by rw [List.getD_eq_getElem?_getD, List.getElem?_eq_getElem hk, hm']; rfl
    rw [hg]
    have hco' := I.co
    rw [e] at hco'
    cases hl : Z'.l with
    | nil => rw [hl] at hco'; cases hco'
    | cons p' r' =>
      rw [hl, List.map_cons] at hco'
      injection hco' with h1 h2
      have hat : p'.at' = p.at' := by rw [← h1]; rfl
      cases hw : p'.wr with
      | true => have : 1 ≤ cw (p' :: r') := by unfold cw; rw [List.filter_cons, hw]; simp
                omega
      | false =>
        have := first_ready hok hl hw
        rw [hat, hl] at this
        omega
theorem RoI.done {Z Z' : GZ} {L : List Int} (I : RoI Z Z' L L.length) (hL : L = secs Z.l) (hw : ∀ p ∈ Z.l, p.wr = false) (hne : Z.l ≠ []) : 1 ≤ cw Z'.l := by
  cases hl : Z.l with
  | nil => exact absurd hl hne
  | cons p r =>
    refine I.on p r hl ?_
    rw [List.take_length, hL]
    refine secs_mem.2 fun e => ?_
    have hm : p.id ∈ wts Z.l p.at' := wts_mem.2 ⟨p, by rw [hl]; simp, rfl, rfl, hw p (by rw [hl]; simp)⟩
    rw [e] at hm; cases hm
theorem len_split (l : List Pt) : (l.filter fun p => !p.wr).length + (l.filter (·.wr)).length = l.length := by
  induction l with
  | nil => rfl
  | cons a t ih =>
    rw [List.filter_cons, List.filter_cons]
    cases a.wr <;> simp <;> omega
theorem stl_cw (Z : GZ) : Z.stlN (fun _ => true) = (cw Z.l : Int) ∧ ((Z.stl fun _ => true).l.length + cw Z.l = Z.l.length) ∧ ∀ p ∈ (Z.stl fun _ => true).l, p.wr = false := by
  refine ⟨?_, ?_, fun p hp => ?_⟩
  · unfold GZ.stlN cw; simp
  · unfold GZ.stl cw
    simp only [Bool.and_true]
    exact len_split Z.l
  · have := (List.mem_filter.1 hp).2
    simpa using this
theorem core_len {l l' : List Pt} (h : l'.map core = l) : l'.length = l.length := by rw [← h, List.length_map]
end Go.Proofs.YtdfifneikmlmoaaGreat
