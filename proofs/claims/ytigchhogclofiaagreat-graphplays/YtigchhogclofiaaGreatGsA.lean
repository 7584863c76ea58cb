/-
  What Sectors of layer 14 returns: no statement is proved here.
-/
import Derived.Test.YtigchhogclofiaaGreatGrT
import Derived.Shelf.SlIterI.Sorted
import Derived.Shelf.SlIterI.Keys
namespace Go.Proofs.YtigchhogclofiaaGreat
open Go.ChangeShapes Go.WideShapes Go.ChangeAt Go.RowKit Go.Shelf
set_option linter.unusedVariables false
set_option linter.unusedSimpArgs false

/-- A number among others that rise, once. -/
def insU : List Int → Int → List Int
  | [], x => [x]
  | a :: t, x => if a < x then a :: insU t x else if a = x then a :: t else x :: a :: t
/-- The sectors with patches that are not written. -/
def secs (l : List Pt) : List Int := (l.filter fun p => !p.wr).foldl (fun out p => insU out p.at') []
theorem insU_mem (x y : Int) : ∀ l, y ∈ insU l x ↔ y = x ∨ y ∈ l
  | [] => by simp [insU]
  | a :: t => by
    unfold insU
    split
    · rw [List.mem_cons, insU_mem x y t, List.mem_cons]
      constructor
      · rintro (h | h | h); exact .inr (.inl h); exact .inl h; exact .inr (.inr h)
      · rintro (h | h | h); exact .inr (.inl h); exact .inl h; exact .inr (.inr h)
    · split
      · rename_i e; subst e
        constructor
        · intro h; exact .inr h
        · rintro (h | h); rw [h]; exact List.mem_cons_self; exact h
      · simp
theorem insU_rise (x : Int) : ∀ l : List Int, l.Pairwise (· < ·) → (insU l x).Pairwise (· < ·)
  | [], _ => by simp [insU]
  | a :: t, h => by
    rw [List.pairwise_cons] at h
    unfold insU
    split
    · rename_i e
      rw [List.pairwise_cons]
      refine ⟨fun y hy => ?_, insU_rise x t h.2⟩
      rcases (insU_mem x y t).1 hy with rfl | hy
      · exact e
      · exact h.1 y hy
    · split
      · rw [List.pairwise_cons]; exact h
      · rw [List.pairwise_cons, List.pairwise_cons]
        refine ⟨fun y hy => ?_, h⟩
        rcases List.mem_cons.1 hy with rfl | hy
        · omega
        · have := h.1 y hy; omega
theorem fold_mem (y : Int) : ∀ (L : List Pt) (o : List Int), y ∈ L.foldl (fun out p => insU out p.at') o ↔ y ∈ o ∨ ∃ p ∈ L, p.at' = y
  | [], o => by simp
  | a :: t, o => by
    rw [List.foldl_cons, fold_mem y t, insU_mem]
    constructor
    · rintro ((h | h) | ⟨p, h1, h2⟩)
      · exact .inr ⟨a, by simp, h.symm⟩
      · exact .inl h
      · exact .inr ⟨p, by simp [h1], h2⟩
    · rintro (h | ⟨p, h1, h2⟩)
      · exact .inl (.inr h)
      · rcases List.mem_cons.1 h1 with rfl | h1
        · exact .inl (.inl h2.symm)
        · exact .inr ⟨p, h1, h2⟩
theorem fold_rise : ∀ (L : List Pt) (o : List Int), o.Pairwise (· < ·) → (L.foldl (fun out p => insU out p.at') o).Pairwise (· < ·)
  | [], o, h => h
  | a :: t, o, h => by rw [List.foldl_cons]; exact fold_rise t _ (insU_rise _ _ h)
theorem secs_mem {l : List Pt} {y : Int} : y ∈ secs l ↔ wts l y ≠ [] := by
  unfold secs
  rw [fold_mem]
  constructor
  · rintro (h | ⟨p, h1, h2⟩)
    · cases h
    · have := List.mem_filter.1 h1
      intro e
      have hm : p.id ∈ wts l y := wts_mem.2 ⟨p, this.1, rfl, h2, by simpa using this.2⟩
      rw [e] at hm; cases hm
  · intro h
    obtain ⟨x, hx⟩ := List.exists_mem_of_ne_nil _ h
    obtain ⟨p, h1, h2, h3, h4⟩ := wts_mem.1 hx
    exact .inr ⟨p, List.mem_filter.2 ⟨h1, by rw [h4]; rfl⟩, h3⟩
theorem secs_rise (l : List Pt) : (secs l).Pairwise (· < ·) := fold_rise _ [] List.Pairwise.nil
theorem rise_nodup {l : List Int} (h : l.Pairwise (· < ·)) : l.Nodup := h.imp (fun h => by omega)
theorem secs_len {Z : GZ} {t : Int} (h : Z.ok t) : ((secs Z.l).length : Int) ≤ t := by
  have h1 := nodup_le (secs Z.l) (Z.l.map (·.at')) (rise_nodup (secs_rise _)) (fun x hx => by
    have := secs_mem.1 hx
    obtain ⟨y, hy⟩ := List.exists_mem_of_ne_nil _ this
    obtain ⟨p, q1, q2, q3, _⟩ := wts_mem.1 hy
    exact List.mem_map.2 ⟨p, q1, q3⟩)
  have := h.few
  simp at h1; omega
theorem sorts1 (m : Nat) : AnyZI.SortsIn Tryz.prog sortedA_ren Fence.wide m :=
  ⟨fun blk off cap ss W hH hblk hsz => callsIn_wide.2 (Any.slices_Sort_int lays189 blk off cap ss W hH hblk hsz),
   fun p cap W => callsIn_wide.2 (Any.slices_Sort_int_none lays189 p cap W)⟩
theorem keys_perm {w : World} {b n : Nat} {D : DataW Value} {L : List Int} {fw : Int → Option Value} (h : w.ownsMap Tryz.prog 3 heldElem b n D) (hR : Reads D fw) (hn : L.Nodup) (hm : ∀ x, x ∈ L ↔ (fw x).isSome = true) : L.Perm (intKeys D) := by
  obtain ⟨es, hD, hpw, _⟩ := h.entries (Maps.int_keyed u3)
  obtain ⟨es', hD', hko⟩ := h.keysOf
  obtain rfl : es = es' := by rw [hD] at hD'; simpa using hD'
  subst hD
  exact perm_intKeys hpw (fun p hp => by obtain ⟨v, hv⟩ := hko p hp; obtain ⟨x, _, hx, _⟩ := Maps.keyOf_i64 u3 hv; exact ⟨x, hx⟩) hn (fun x => by rw [hm x, ← hR.has x]; rfl)
theorem sort_id {L : List Int} (h : L.Pairwise (· < ·)) : L.mergeSort (fun x y => decide (x ≤ y)) = L := List.mergeSort_of_pairwise (h.imp (fun h => by simp; omega))
set_option maxRecDepth 100000 in
set_option maxHeartbeats 2000000 in
theorem sectors_any {w : World} {g mp mw : Nat} {f fw : Int → Option Value} {Z : GZ} {E F : Nat → Prop} (H : Gr w g mp mw f fw Z E F) :
    Calls Tryz.prog 35 #[.pointer (some ⟨g, 0, none⟩)] w fun e w' => ∃ v, e = .returned v ∧ OwV w' v (secs Z.l) ∧ New w.heap.size v ∧ Below w.heap.size w w' := by
  obtain ⟨z0, z1, z2⟩ := H.cells
  have hfew := secs_len H.ok
  obtain ⟨D0, hown, hR⟩ := H.wm
  have hmw := H.wm.lt
  have hp := keys_perm hown hR (rise_nodup (secs_rise Z.l)) (fun x => by
    rw [secs_mem]
    constructor
    · intro h; obtain ⟨v, h1, _⟩ := H.ws x h; rw [h1]; rfl
    · intro h e; rw [H.wn x e] at h; cases h)
  have hsz : Maps.size D0 ≤ 4096 := by
    obtain ⟨es, clock, hb, Ft, hs, hD⟩ := hown
    rw [hD]; simp [Maps.size, length_sorted]; exact hs
  refine (callsIn_wide (n := 6)).1 ?_
  have hseq : SeqGives Fence.wide 2 Tryz.prog 79 #[.pointer (some ⟨w.heap.size, 0, none⟩)] encZ (fun ss => ss.Perm (intKeys D0)) (Maps.size D0) (w.alloc (.cells #[.map (some mw)] 43)) :=
    AnyZI.keys_gives (ρ := keysA_ren) { keysA with } Fence.wide _ trivial rfl (by omega) w.heap.size mw 4096 D0 (R := heldElem) _ (by simp) (by simp) (by
      obtain ⟨es, clock, hb, Ft, hs, hD⟩ := hown
      exact ⟨es, clock, (Below.heap_alloc _ _ mw hmw).trans hb, Ft, hs, hD⟩)
  have cK : ∀ mb W, CallsIn Fence.wide 5 Tryz.prog 65 #[.map mb] W fun e w' => e = .returned (.func (.func 79) #[] #[.pointer (some ⟨W.heap.size, 0, none⟩)]) ∧ w' = W.alloc (.cells #[.map mb] 43) := fun mb W => AnyZI.keys_in keysA Fence.wide 5 trivial rfl mb W
  have cS := AnyZI.sorted_in sortedA Fence.wide 5 trivial trivial trivial trivial rfl (by omega) (sorts1 _) (enters_of Tryz.func77 (by kernel_rfl) rfl) 79 #[.pointer (some ⟨w.heap.size, 0, none⟩)] trivial (enters_of Tryz.func79 (by kernel_rfl) rfl) _ _ (by unfold maxLen; omega) (by omega) _ hseq
  change CallsIn _ _ Tryz.prog 64 _ _ _ at cS
  have hfK : Fence.wide.fn 65 := trivial
  have hfS : Fence.wide.fn 64 := trivial
  have cKp := fun mb W => callsIn_wide.1 (cK mb W)
  have cSp := callsIn_wide.1 cS
  refine callsIn_wide.2 ?_
  clear hseq cK cS
  go_enter Tryz.func35, Tryz.ntmps35
  go_wp2_with (first
    | (go_at_call 65; refine (cKp _ _).mono ?_; rintro e w' ⟨rfl, rfl⟩)
    | (go_at_call 64; refine cSp.mono ?_; rintro e w' ⟨v, ss, rfl, hS, hrow, hnil, hb⟩))
  go_returns
  have b0 : Below w.heap.size w (w.alloc (.cells #[.map (some mw)] 43)) := (Below.refl _ w).alloc (Nat.le_refl _) _
  have e1 : ss.mergeSort (fun x y => decide (x ≤ y)) = secs Z.l := by
    have h1 := mergeSort_of_perm_i (hS.trans hp.symm)
    exact h1.trans (sort_id (secs_rise _))
  have e2 : ss.length = (secs Z.l).length := (hS.trans hp.symm).length_eq
  refine ⟨v, rfl, ?_, fun r hr => ?_, bnext b0 hb (Nat.le_refl _)⟩
  · unfold OwV
    rw [e1, e2] at hrow
    exact ro_zero hrow
  · have := (hrow.lt r hr).1; have := b0.size; omega
end Go.Proofs.YtigchhogclofiaaGreat
