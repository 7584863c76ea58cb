/-
  What patch of the statements of layer 14 returns: no statement is proved here.
-/
import Derived.Test.YtdfifneikmlmoaaGreatGsC
namespace Go.Proofs.YtdfifneikmlmoaaGreat
open Go.ChangeShapes Go.WideShapes Go.ChangeAt Go.RowKit
set_option linter.unusedVariables false
set_option linter.unusedSimpArgs false

/-- A need near the last number. -/
def nr (last : Nat) (x : Int) : Int := (last : Int) - (among x last : Nat)
/-- The first k needs are near. -/
def nrL (last : Nat) (l : List Int) (k : Nat) : List Int := (l.take k).map (nr last) ++ l.drop k
/-- The patch of an act. -/
def ptc (x : Ac) (last : Nat) : Pt := if x.near && decide (0 < last) then { fewP x.p with needs := (fewP x.p).needs.map (nr last) } else fewP x.p
theorem nrL_len (last : Nat) (l : List Int) (k : Nat) : (nrL last l k).length = l.length := by unfold nrL; simp; omega
theorem nrL_zero (last : Nat) (l : List Int) : nrL last l 0 = l := by unfold nrL; simp
theorem nrL_all (last : Nat) (l : List Int) : nrL last l l.length = l.map (nr last) := by unfold nrL; simp
theorem nrL_get {last : Nat} {l : List Int} {k : Nat} (h : k < l.length) : (nrL last l k).getD k 0 = l.getD k 0 := by
  unfold nrL
  rw [List.getD_eq_getElem?_getD, List.getElem?_append_right (by simp; omega), List.getElem?_drop, List.getD_eq_getElem?_getD]
  congr 2
  simp; omega
theorem nrL_set {last : Nat} {l : List Int} {k : Nat} (h : k < l.length) : (nrL last l k).set k (nr last (l.getD k 0)) = nrL last l (k + 1) := by
  unfold nrL
  rw [List.set_append_right _ _ (by simp; omega), List.take_add_one, List.getElem?_eq_getElem h, List.getD_eq_getElem?_getD, List.getElem?_eq_getElem h, List.drop_eq_getElem_cons h]
  have : k - ((l.take k).map (nr last)).length = 0 := by simp; omega
  rw [this]
  simp only [List.set_cons_zero, List.map_append, List.append_assoc, Option.toList_some, List.map_cons, List.map_nil, List.cons_append, List.nil_append, Option.getD_some]
theorem nr_wf {last : Nat} (h : 0 < last) (hl : last ≤ 100000) (x : Int) : wfi (nr last x) := by
  have := among_lt x last h
  unfold nr; exact wfi_of (by omega)
theorem nrL_wf {last : Nat} {l : List Int} {k : Nat} (h : 0 < last) (hl : last ≤ 100000) (hw : ∀ x ∈ l, wfi x) : ∀ x ∈ nrL last l k, wfi x := by
  intro x hx
  unfold nrL at hx
  rcases List.mem_append.1 hx with hx | hx
  · obtain ⟨y, _, rfl⟩ := List.mem_map.1 hx; exact nr_wf h hl y
  · exact hw x (List.mem_of_mem_drop hx)
/-- One number of a row of one's own, anew. -/
theorem OwV.set {w : World} {g n c : Nat} {l : List Int} (h : OwV w (.slice (some ⟨g, 0, none⟩) n c) l) (i : Nat) (hi : i < l.length) (y : Int) :
    w.cell? ⟨g, i, none⟩ = some (.int .i64 (l.getD i 0)) ∧ w.frozen? ⟨g, i, none⟩ = false ∧ OwV (w.setCell ⟨g, i, none⟩ (.int .i64 y)) (.slice (some ⟨g, 0, none⟩) n c) (l.set i y) := by
  rcases h.row with ⟨e, _⟩ | ⟨g', cap, cur, e, hw⟩
  · cases e
  · injection e with e1 e2 e3
    injection e1 with e1; injection e1 with e1
    subst e1; subst e2; subst e3
    refine ⟨hw.cell i hi, hw.frozen i, ?_⟩
    have hsz : i < cur.size := by have := hw.le; rw [hw.size]; omega
    have e4 : (w.setCell ⟨g, i, none⟩ (.int .i64 y)).heap[g]? = some (.cells (cur.setIfInBounds i (.int .i64 y)) 3 (0, 0)) := by
      rw [setCell_eq_setRow w g i _ _ (0, 0) _ hw.at', setRow_heap w g _ _ _ _ hw.at']
    have hl : (l.set i y).length = l.length := List.length_set
    rw [← hl]
    refine Rw1.own (cur := cur.setIfInBounds i (.int .i64 y)) ⟨e4, by rw [hl]; exact hw.le, hw.cm, by simp [hw.size], ?_⟩
    rw [hl, Array.toList_setIfInBounds, List.take_set, hw.take, List.map_set]
end Go.Proofs.YtdfifneikmlmoaaGreat
