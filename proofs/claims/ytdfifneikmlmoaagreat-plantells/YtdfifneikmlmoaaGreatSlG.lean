/-
  Slices of ints of one's own, and what Delete, BinarySearch, Reverse and Sort of package slices do with them: no statement is proved here.
-/
import Derived.Test.YtdfifneikmlmoaaGreatShG
import Derived.Test.YtdfifneikmlmoaaGreatOwG
import Derived.Test.YtdfifneikmlmoaaGreatGrS
import Derived.Shelf.Slices.In.SortNone
import Derived.Sort.OwnSortedInts
namespace Go.Proofs.YtdfifneikmlmoaaGreat
open Go.ChangeShapes Go.WideShapes Go.ChangeAt Go.RowKit Go.Sort
set_option linter.unusedVariables false
set_option linter.unusedSimpArgs false

theorem Rw1.holds {w : World} {g cap : Nat} {l : List Int} {cur : Array Value} (h : Rw1 w g cap l cur) : Holds (Value.int .i64) w g 0 l.toArray := holds_of_blockI h.at' h.take
theorem putRow_heap {w : World} {g q : Nat} {cur : Array Value} {e : TypeId} {fr : Nat × Nat} (d : Array Int) (hb : w.heap[g]? = some (.cells cur e fr)) :
    (putRow (Value.int .i64) (Sort.ahead w q) g 0 d).heap[g]? = some (.cells (putCells (Value.int .i64) 0 d cur) e fr) := by
  have := heap_sortedI (n := q) (os := #[]) d hb
  rwa [grow_empty] at this
theorem putRow_stp (w : World) (g q : Nat) (d : Array Int) : Stp (fun x => x = g) w (putRow (Value.int .i64) (Sort.ahead w q) g 0 d) := by
  have := grownBy_sortedI (w := w) (g := g) (n := q) (os := #[]) d
  rw [grow_empty] at this
  exact Stp.of_grown this (by rintro x e; injection e with e; exact .inl e.symm)
theorem delete_own {w : World} {v : Value} {l : List Int} (h : OwV w v l) (k : Nat) (hk : k < l.length) :
    Calls Tryz.prog 87 #[v, .int .i64 (k : Int), .int .i64 ((k : Int) + 1)] w fun e w' => ∃ v', e = .returned v' ∧ OwV w' v' (l.take k ++ l.drop (k + 1)) ∧ v'.ownBlock = v.ownBlock ∧ Stp (fun x => v.ownBlock = some x) w w' := by
  rcases h.row with ⟨rfl, rfl⟩ | ⟨g, cap, cur, rfl, hw⟩
  · cases hk
  · have := Any.slices_Delete_int lays23 g 0 cap k (k + 1) l w hw.holds hw.le hw.cm (by omega) (by omega)
    rw [show ((k + 1 : Nat) : Int) = (k : Int) + 1 by omega] at this
    refine Calls.mono this ?_
    rintro e w' ⟨rfl, q, rfl⟩
    have hl : (l.take k ++ l.drop (k + 1)).length = l.length - (k + 1 - k) := by simp; omega
    have hd : (l.take k ++ l.drop (k + 1) ++ List.replicate (k + 1 - k) 0).length = l.length := by rw [List.length_append, hl]; simp; omega
    refine ⟨_, rfl, ?_, rfl, (putRow_stp w g q _).mono (fun x e => .inl (by subst e; rfl))⟩
    rw [← hl]
    refine Rw1.own (cur := putCells (Value.int .i64) 0 (l.take k ++ l.drop (k + 1) ++ List.replicate (k + 1 - k) 0).toArray cur) ⟨putRow_heap _ hw.at', by rw [hl]; have := hw.le; omega, hw.cm, by simp [putCells, hw.size], ?_⟩
    have h1 := take_putCellsI cur (l.take k ++ l.drop (k + 1) ++ List.replicate (k + 1 - k) 0) (by rw [hd, hw.size]; exact hw.le)
    have h2 := congrArg (List.take (l.take k ++ l.drop (k + 1)).length) h1
    rw [List.take_take, hd, Nat.min_eq_left (by rw [hl]; omega), List.map_append, List.take_append_of_le_length (by simp), ← List.length_map (f := Value.int .i64), List.take_length] at h2
    rw [List.length_map] at h2
    exact h2
/-- The list, rising. -/
def srt (l : List Int) : List Int := l.mergeSort fun x y => decide (x ≤ y)
theorem sort_own {w : World} {v : Value} {l : List Int} (h : OwV w v l) (hl : l.length ≤ 1000000) :
    Calls Tryz.prog 68 #[v] w fun e w' => e = .returned (.tuple #[]) ∧ OwV w' v (srt l) ∧ Stp (fun x => v.ownBlock = some x) w w' := by
  rcases h.row with ⟨rfl, rfl⟩ | ⟨g, cap, cur, rfl, hw⟩
  · refine Calls.mono (Any.slices_Sort_int_none lays189 none 0 w) ?_
    rintro e w' ⟨rfl, rfl⟩
    exact ⟨rfl, by unfold srt; simp; exact OwV.nil _, Stp.refl _ _⟩
  · refine Calls.mono (Any.slices_Sort_int lays189 g 0 cap l w hw.holds hw.lt (by omega)) ?_
    rintro e w' ⟨rfl, n, os, rfl⟩
    have hlen : (srt l).length = l.length := by unfold srt; simp
    refine ⟨rfl, ?_, Stp.of_grown (grownBy_sortedI _) (by rintro x e; exact .inl (by rw [← e]; rfl))⟩
    have := ownsRow_sortedI (n := n) (os := os) (base := 0) (ts := srt l) hlen (Nat.zero_le g) hw.at' hw.le hw.cm (by rw [Nat.mul_one]; exact hw.size)
    unfold OwV
    rw [hlen]
    exact this
theorem srt_mem (l : List Int) (x : Int) : x ∈ srt l ↔ x ∈ l := by unfold srt; exact List.mem_mergeSort
theorem srt_rising (l : List Int) (h : l.Nodup) : (srt l).Pairwise (· < ·) := by
  have h1 : (srt l).Pairwise (fun a b => decide (a ≤ b) = true) := List.pairwise_mergeSort (fun a b c h1 h2 => by simp at *; omega) (fun a b => by simp; omega) l
  have h2 : (srt l).Nodup := (List.mergeSort_perm l _).nodup_iff.2 h
  have h3 := h1.and h2
  exact h3.imp (fun ⟨a, b⟩ => by simp at a; omega)
end Go.Proofs.YtdfifneikmlmoaaGreat
