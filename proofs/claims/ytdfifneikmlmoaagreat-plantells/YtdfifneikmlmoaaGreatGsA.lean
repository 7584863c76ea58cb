/-
  What Sectors of layer 14 returns: no statement is proved here.
-/
import Derived.Test.YtdfifneikmlmoaaGreatGrT
import Derived.Shelf.SlIterI.Sorted
import Derived.Shelf.SlIterI.Keys
namespace Go.Proofs.YtdfifneikmlmoaaGreat
open Go.ChangeShapes Go.WideShapes Go.ChangeAt Go.RowKit Go.Shelf
set_option linter.unusedVariables false
set_option linter.unusedSimpArgs false

/-- A number among others that rise, once. -/
def insU : List Int → Int → List Int
  | [], x => [x]
  | a :: t, x => if a < x then a :: insU t x else if a = x then a :: t else x :: a :: t
/-- The sectors with patches that are not written. -/
def secs (l : List Pt) : List Int := (l.filter fun p => !p.wr).foldl (fun out p => insU out p.at') []
theorem insU_mem (x y : Int) : ∀ l, y ∈ insU l x ↔ y = x ∨ y ∈ l
  | [] => by simp [insU]
  | a :: t => by
    unfold insU
    split
    · rw [List.mem_cons, insU_mem x y t, List.mem_cons]
      constructor
      · rintro (h | h | h); exact .inr (.inl h); exact .inl h; exact .inr (.inr h)
      · rintro (h | h | h); exact .inr (.inl h); exact .inl h; exact .inr (.inr h)
    · split
      · rename_i e; subst e
        constructor
        · intro h; exact .inr h
        · rintro (h | h); rw [h]; exact List.mem_cons_self; exact h
      · simp
theorem insU_rise (x : Int) : ∀ l : List Int, l.Pairwise (· < ·) → (insU l x).Pairwise (· < ·)
  | [], _ => by simp [insU]
  | a :: t, h => by
    rw [List.pairwise_cons] at h
    unfold insU
    split
    · rename_i e
      rw [List.pairwise_cons]
      refine ⟨fun y hy => ?_, insU_rise x t h.2⟩
      rcases (insU_mem x y t).1 hy with rfl | hy
      · exact e
      · exact h.1 y hy
    · split
      · rw [List.pairwise_cons]; exact h
      · rw [List.pairwise_cons, List.pairwise_cons]
        refine ⟨fun y hy => ?_, h⟩
        rcases List.mem_cons.1 hy with rfl | hy
        · omega
        · have := h.1 y hy; omega
theorem fold_mem (y : Int) : ∀ (L : List Pt) (o : List Int), y ∈ L.foldl (fun out p => insU out p.at') o ↔ y ∈ o ∨ ∃ p ∈ L, p.at' = y
  | [], o => by simp
  | a :: t, o => by
    rw [List.foldl_cons, fold_mem y t, insU_mem]
    constructor
    · rintro ((h | h) | ⟨p, h1, h2⟩)
      · exact .inr ⟨a, by simp, h.symm⟩
      · exact .inl h
      · exact .inr ⟨p, by simp [h1], h2⟩
    · rintro (h | ⟨p, h1, h2⟩)
      · exact .inl (.inr h)
      · rcases List.mem_cons.1 h1 with rfl | h1
        · exact .inl (.inl h2.symm)
        · exact .inr ⟨p, h1, h2⟩
theorem fold_rise : ∀ (L : List Pt) (o : List Int), o.Pairwise (· < ·) → (L.foldl (fun out p => insU out p.at') o).Pairwise (· < ·)
  | [], o, h => h
  | a :: t, o, h => by rw [List.foldl_cons]; exact fold_rise t _ (insU_rise _ _ h)
theorem secs_mem {l : List Pt} {y : Int} : y ∈ secs l ↔ wts l y ≠ [] := by
  unfold secs
  rw [fold_mem]
  constructor
  · rintro (h | ⟨p, h1, h2⟩)
    · cases h
    · have := List.mem_filter.1 h1
      intro e
      have hm : p.id ∈ wts l y := wts_mem.2 ⟨p, this.1, rfl, h2, by simpa using this.2⟩
      rw [e] at hm; cases hm
  · intro h
    obtain ⟨x, hx⟩ := List.exists_mem_of_ne_nil _ h
    obtain ⟨p, h1, h2, h3, h4⟩ := wts_mem.1 hx
    exact .inr ⟨p, List.mem_filter.2 ⟨h1, by rw [h4]; rfl⟩, h3⟩
theorem secs_rise (l : List Pt) : (secs l).Pairwise (· < ·) := fold_rise _ [] List.Pairwise.nil
theorem rise_nodup {l : List Int} (h : l.Pairwise (· < ·)) : l.Nodup := h.imp (fun h => by omega)
theorem secs_len {Z : GZ} {t : Int} (h : Z.ok t) : ((secs Z.l).length : Int) ≤ t := by
  have h1 := nodup_le (secs Z.l) (Z.l.map (·.at')) (rise_nodup (secs_rise _)) (fun x hx => by
    have := secs_mem.1 hx
    obtain ⟨y, hy⟩ := List.exists_mem_of_ne_nil _ this
    obtain ⟨p, q1, q2, q3, _⟩ := wts_mem.1 hy
    exact List.mem_map.2 ⟨p, q1, q3⟩)
  have := h.few
  simp at h1; omega
theorem sorts1 (m : Nat) : AnyZI.SortsIn Tryz.prog sortedA_ren Fence.wide m :=
  ⟨fun blk off cap ss W hH hblk hsz => callsIn_wide.2 (Any.slices_Sort_int lays189 blk off cap ss W hH hblk hsz),
   fun p cap W => callsIn_wide.2 (Any.slices_Sort_int_none lays189 p cap W)⟩
theorem keys_perm {w : World} {b n : Nat} {D : DataW Value} {L : List Int} {fw : Int → Option Value} (h : w.ownsMap Tryz.prog 3 heldElem b n D) (hR : Reads D fw) (hn : L.Nodup) (hm : ∀ x, x ∈ L ↔ (fw x).isSome = true) : L.Perm (intKeys D) := by
  obtain ⟨es, hD, hpw, _⟩ := h.entries (Maps.int_keyed u3)
  obtain ⟨es', hD', hko⟩ := h.keysOf
  obtain rfl : es = es' := by rw [hD] at hD'; simpa using hD'
  subst hD
  exact perm_intKeys hpw (fun p hp => by obtain ⟨v, hv⟩ := hko p hp; obtain ⟨x, _, hx, _⟩ := Maps.keyOf_i64 u3 hv; exact ⟨x, hx⟩) hn (fun x => by rw [hm x, ← hR.has x]; rfl)
theorem sort_id {L : List Int} (h : L.Pairwise (· < ·)) : L.mergeSort (fun x y => decide (x ≤ y)) = L := List.mergeSort_of_pairwise (h.imp (fun h => by simp; omega))
end Go.Proofs.YtdfifneikmlmoaaGreat
