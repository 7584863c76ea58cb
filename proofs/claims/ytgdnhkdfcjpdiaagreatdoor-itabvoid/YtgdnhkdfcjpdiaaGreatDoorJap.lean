/-
  Texts of my own, joined: no statement is proved here.
-/
import Derived.Shelf.Slices.In.SortNone
import Derived.Sort.OwnSortedInts
import Derived.Test.YtgdnhkdfcjpdiaaGreatDoorJaj
import Derived.Test.YtgdnhkdfcjpdiaaGreatDoorJak
import Derived.Test.YtgdnhkdfcjpdiaaGreatDoorJao
set_option linter.unusedSimpArgs false
set_option linter.unusedVariables false
namespace Go.Proofs.YtgdnhkdfcjpdiaaGreatDoor
open Go.ChangeShapes Go.WideShapes Go.ChangeAt Go.RowKit Go.Sort
theorem Rw1.holds {w : World} {g cap : Nat} {l : List Int} {cur : Array Value} (h : Rw1 w g cap l cur) : Holds (Value.int .i64) w g 0 l.toArray := holds_of_blockI h.at' h.take
theorem putRow_heap {w : World} {g q : Nat} {cur : Array Value} {e : TypeId} {fr : Nat × Nat} (d : Array Int) (hb : w.heap[g]? = some (.cells cur e fr)) :
    (putRow (Value.int .i64) (Sort.ahead w q) g 0 d).heap[g]? = some (.cells (putCells (Value.int .i64) 0 d cur) e fr) := by
  have := heap_sortedI (n := q) (os := #[]) d hb
  rwa [grow_empty] at this
theorem putRow_stp (w : World) (g q : Nat) (d : Array Int) : Stp (fun x => x = g) w (putRow (Value.int .i64) (Sort.ahead w q) g 0 d) := by
  have := grownBy_sortedI (w := w) (g := g) (n := q) (os := #[]) d
  rw [grow_empty] at this
  exact Stp.of_grown this (by rintro x e; injection e with e; exact .inl e.symm)
theorem delete_own {w : World} {v : Value} {l : List Int} (h : OwV w v l) (k : Nat) (hk : k < l.length) :
    Calls Tryz.prog 119 #[v, .int .i64 (k : Int), .int .i64 ((k : Int) + 1)] w fun e w' => ∃ v', e = .returned v' ∧ OwV w' v' (l.take k ++ l.drop (k + 1)) ∧ v'.ownBlock = v.ownBlock ∧ Stp (fun x => v.ownBlock = some x) w w' := by
  rcases h.row with ⟨rfl, rfl⟩ | ⟨g, cap, cur, rfl, hw⟩
  · cases hk
  · have := Any.slices_Delete_int lays23 g 0 cap k (k + 1) l w hw.holds hw.le hw.cm (by omega) (by omega)
    rw [show ((k + 1 : Nat) : Int) = (k : Int) + 1 by omega] at this
    refine Calls.mono this ?_
    rintro e w' ⟨rfl, q, rfl⟩
    have hl : (l.take k ++ l.drop (k + 1)).length = l.length - (k + 1 - k) := by simp; omega
    have hd : (l.take k ++ l.drop (k + 1) ++ List.replicate (k + 1 - k) 0).length = l.length := by rw [List.length_append, hl]; simp; omega
    refine ⟨_, rfl, ?_, rfl, (putRow_stp w g q _).mono (fun x e => .inl (by subst e; rfl))⟩
    rw [← hl]
    refine Rw1.own (cur := putCells (Value.int .i64) 0 (l.take k ++ l.drop (k + 1) ++ List.replicate (k + 1 - k) 0).toArray cur) ⟨putRow_heap _ hw.at', by rw [hl]; have := hw.le; omega, hw.cm, by simp [putCells, hw.size], ?_⟩
    have h1 := take_putCellsI cur (l.take k ++ l.drop (k + 1) ++ List.replicate (k + 1 - k) 0) (by rw [hd, hw.size]; exact hw.le)
    have h2 := congrArg (List.take (l.take k ++ l.drop (k + 1)).length) h1
    rw [List.take_take, hd, Nat.min_eq_left (by rw [hl]; omega), List.map_append, List.take_append_of_le_length (by simp), ← List.length_map (f := Value.int .i64), List.take_length] at h2
    rw [List.length_map] at h2
    exact h2
def srt (l : List Int) : List Int := l.mergeSort fun x y => decide (x ≤ y)
end Go.Proofs.YtgdnhkdfcjpdiaaGreatDoor
namespace Go.Proofs.YtgdnhkdfcjpdiaaGreatDoor
open Go.ChangeShapes Go.WideShapes Go.ChangeAt Go.RowKit Go.Sort
theorem idx_erase : ∀ (l : List Int) (x : Int), x ∈ l → ∃ k : Nat, k < l.length ∧ Lib.idxOf l x = (k : Int) ∧ l.take k ++ l.drop (k + 1) = l.erase x := by
  intro l x hx
  have key : ∀ (l : List Int), x ∈ l → ∃ k : Nat, k < l.length ∧ l.getD k 0 = x ∧ (∀ j, j < k → l.getD j 0 ≠ x) ∧ l.take k ++ l.drop (k + 1) = l.erase x := by
    intro l
    induction l with
    | nil => intro h; cases h
    | cons a t ih =>
      intro h
      by_cases e : a = x
      · exact ⟨0, by simp, by simp [e], fun j hj => absurd hj (by omega), by simp [List.erase_cons, e]⟩
      · obtain ⟨k, h1, h2, h3, h4⟩ := ih (by rcases List.mem_cons.1 h with h | h; exact absurd h.symm e; exact h)
        refine ⟨k + 1, by simpa using h1, by simpa using h2, fun j hj => ?_, ?_⟩
        · cases j with
          | zero => simpa using e
          | succ j => have := h3 j (by omega); simpa using this
        · rw [List.erase_cons, if_neg (by simpa using e), ← h4]; simp
  obtain ⟨k, h1, h2, h3, h4⟩ := key l hx
  refine ⟨k, h1, ?_, h4⟩
  have := Lib.idxOf_hit l l.length k x h1 (Nat.le_refl _) h2 h3
  rwa [List.take_length] at this
theorem index_own {w : World} {v : Value} {l : List Int} (h : OwV w v l) (x : Int) (hl : l.length ≤ 1000000) (hx : x ∈ l) :
    Calls Tryz.prog 117 #[v, .int .i64 x] w fun e w' => (∃ k : Nat, k < l.length ∧ e = .returned (.int .i64 (k : Int)) ∧ l.take k ++ l.drop (k + 1) = l.erase x) ∧ w = w' := by
  rcases h.row with ⟨rfl, rfl⟩ | ⟨g, cap, cur, rfl, hw⟩
  · cases hx
  · obtain ⟨k, h1, h2, h3⟩ := idx_erase l x hx
    have := Any.slices_Index_int lays108 g 0 l.length cap l x w (Nat.le_refl _) (by omega) (fun j hj => by rw [Nat.zero_add]; exact hw.cell j hj)
    refine Calls.mono this ?_
    rintro e w' ⟨rfl, rfl⟩
    refine ⟨⟨k, h1, ?_, h3⟩, rfl⟩
    rw [List.take_length, h2]
theorem ints_one (l : List Int) : ∀ v ∈ l.map (Value.int .i64), v.oneCell' = true := by
  intro v hv; obtain ⟨x, _, rfl⟩ := List.mem_map.1 hv; rfl
theorem insert_own {w : World} {v : Value} {l : List Int} (h : OwV w v l) (x : Int) (vb : Nat) (hb : w.heap[vb]? = some (.cells #[.int .i64 x] 3 (0, 0))) (hv : v.ownBlock ≠ some vb) (hlen : l.length ≤ 1000000) :
    Calls Tryz.prog 118 #[v, .int .i64 0, .slice (some ⟨vb, 0, none⟩) 1 1] w fun e w' => ∃ v', e = .returned v' ∧ OwV w' v' (x :: l) ∧ (∀ r, v'.ownBlock = some r → v.ownBlock = some r ∨ (w.heap.size ≤ r ∧ r < w'.heap.size)) ∧ Stp (fun x => v.ownBlock = some x) w w' := by
  have hvs : ∀ j u, ([Value.int .i64 x])[j]? = some u → w.cell? ⟨vb, 0 + j, none⟩ = some u := fun j u hu => by
    rw [Nat.zero_add, cell_of_row w vb j _ _ (0, 0) hb]; simpa using hu
  have h1v : ∀ u ∈ [Value.int .i64 x], u.oneCell' = true := ints_one [x]
  have grown : ∀ (c : Nat) (cs : List Value), cs = (l.map (Value.int .i64)) → ∀ (W : World), W.heap[w.heap.size]? = some (.cells ((Value.int .i64 x :: l.map (Value.int .i64)).toArray ++ Builtin.zeroCells (Value.int .i64 0).cells (grownCap w (l.length + 1) c 3 - (l.length + 1))) 3 (0, 0)) → OwV W (.slice (some ⟨w.heap.size, 0, none⟩) (x :: l).length (grownCap w (l.length + 1) c 3)) (x :: l) := fun c cs _ W hW => by
    have hge := grownCap_ge w (l.length + 1) c 3
    refine Rw1.own ⟨hW, by simpa using hge, grownCap_le_maxLen w _ _ _ (by unfold maxLen; omega), ?_, ?_⟩
    · have hz : (Builtin.zeroCells (Value.int .i64 0).cells (grownCap w (l.length + 1) c 3 - (l.length + 1))).size = grownCap w (l.length + 1) c 3 - (l.length + 1) := by simp [Builtin.zeroCells, Value.cells]
      rw [Array.size_append, hz]; simp; omega
    · simp
  rcases h.row with ⟨rfl, rfl⟩ | ⟨g, cap, cur, rfl, hw⟩
  · have := Any2.slices_Insert_int_end_grow lays21 none 0 0 vb 0 1 1 [] [.int .i64 x] w (by omega) (by omega) (by omega) (by omega) rfl rfl (fun _ => rfl) (fun a e => by cases e) hvs h1v
    refine Calls.mono this ?_
    rintro e w' ⟨rfl, rfl⟩
    refine ⟨_, rfl, ?_, fun r hr => .inr ?_, Stp.of_below ((Below.refl _ w).drew.alloc (Nat.le_refl _) _) _⟩
    · have := grown 0 [] rfl (w.drew.alloc (.cells ((Value.int .i64 x :: ([] : List Int).map (Value.int .i64)).toArray ++ Builtin.zeroCells (Value.int .i64 0).cells (grownCap w (0 + 1) 0 3 - (0 + 1))) 3)) (heap_alloc_new w.drew _)
      exact this
    · have : w.heap.size = r := by simpa [Value.ownBlock] using hr
      subst this
      exact ⟨Nat.le_refl _, by show _ < (w.heap.push _).size; simp⟩
  · have hvb : vb ≠ g := fun e => hv (by rw [e]; rfl)
    by_cases hroom : l.length + 1 ≤ cap
    · by_cases h0 : 0 < l.length
      · have := Any2.slices_Insert_int_shift lays21 g 0 l.length cap 0 vb 0 1 1 (l.map (Value.int .i64)) [.int .i64 x] w h0 (by omega) hroom (by have := hw.cm; unfold maxLen at this; omega) hvb (by simp) rfl hw.cells
          (fun j hj => by rw [Nat.zero_add]; exact hw.has j (by omega)) (fun j _ => by rw [Nat.zero_add]; exact hw.frozen j) hvs (ints_one l) h1v 3 3 1 cap (by simp [World.shape?, hb]) (by simp [World.shape?, hw.at', hw.size]) (by omega) (by simp [World.frozen?, hb]) (by simp [World.frozen?, hb])
        refine Calls.mono this ?_
        rintro e w' ⟨rfl, rfl⟩
        have hcl : cur.toList.length = cap := by simp [hw.size]
        have s1 : (w.drew.setCells g (0 + (0 + 1)) ((l.map (Value.int .i64)).drop 0)).heap[g]? = _ := setCells_heap _ (show w.drew.heap[g]? = _ from hw.at') (by simp [hw.size]; omega) (fun u hu => ints_one l u (List.mem_of_mem_drop hu))
        have s2 := setCells_heap (o := 0 + 0) [Value.int .i64 x] s1 (by simp [hw.size]; omega) h1v
        refine ⟨_, rfl, ?_, fun r hr => .inl hr, ?_⟩
        · refine Rw1.own (l := x :: l) ⟨s2, by simpa using hroom, hw.cm, ?_, ?_⟩
          · simp [hw.size]; omega
          · obtain ⟨a, rest, hc⟩ : ∃ a rest, cur.toList = a :: rest := by
              cases hcc : cur.toList with
              | nil => rw [hcc] at hcl; simp at hcl; omega
              | cons a rest => exact ⟨a, rest, rfl⟩
            simp [hc]
        · exact (((Stp.refl _ w).drew.next (Stp.of_setCells w.drew g _ _ (.inl rfl)) (F' := fun x => x = g) (fun x e => .inl (by subst e; rfl))).next (Stp.of_setCells _ g _ _ (.inl rfl)) (F' := fun x => x = g) (fun x e => .inl (by subst e; rfl)))
      · have hl0 : l = [] := List.eq_nil_of_length_eq_zero (by omega)
        subst hl0
        have hc1 : 1 ≤ cap := by simpa using hroom
        have hsp : ∀ j, j < 1 → (w.cell? ⟨g, 0 + 0 + j, none⟩).isSome = true := fun j hj => by
          rw [show 0 + 0 + j = j by omega]; exact hw.has j (by omega)
        have := Any2.slices_Insert_int_end_room lays21 g 0 0 cap vb 0 1 1 [.int .i64 x] w (by omega) hroom (by have := hw.cm; unfold maxLen at this; omega) rfl hsp (fun j _ => hw.frozen _) hvs h1v
        refine Calls.mono this ?_
        rintro e w' ⟨rfl, rfl⟩
        have s1 := setCells_heap (o := 0 + 0) [Value.int .i64 x] hw.at' (by simp [hw.size]; simpa using hroom) h1v
        refine ⟨_, rfl, ?_, fun r hr => .inl hr, Stp.of_setCells w g _ _ (.inl rfl)⟩
        refine Rw1.own (l := [x]) ⟨s1, by simpa using hroom, hw.cm, ?_, ?_⟩
        · simp [hw.size]; omega
        · simp
    · by_cases h0 : 0 < l.length
      · have := Any2.slices_Insert_int_grow lays21 g 0 l.length cap 0 vb 0 1 1 (l.map (Value.int .i64)) [.int .i64 x] w h0 (by omega) hw.le (by omega) (by omega) (by simp) rfl hw.cells hvs (ints_one l) h1v
        refine Calls.mono this ?_
        rintro e w' ⟨rfl, rfl⟩
        have s0 := heap_alloc_new w (.cells ((((l.map (Value.int .i64)).take 0).toArray ++ Builtin.zeroCells (Value.int .i64 0).cells (l.length + 1 - 0) ++ Builtin.zeroCells (Value.int .i64 0).cells (grownCap w (l.length + 1) cap 3 - (l.length + 1)))) 3)
        have hz : ∀ n, (Builtin.zeroCells (Value.int .i64 0).cells n).size = n := fun n => by simp [Builtin.zeroCells, Value.cells]
        have s1 := setCells_heap (o := 0) [Value.int .i64 x] (show (w.alloc (.cells ((((l.map (Value.int .i64)).take 0).toArray ++ Builtin.zeroCells (Value.int .i64 0).cells (l.length + 1 - 0) ++ Builtin.zeroCells (Value.int .i64 0).cells (grownCap w (l.length + 1) cap 3 - (l.length + 1)))) 3)).drew.heap[w.heap.size]? = _ from s0) (by simp [hz]; omega) h1v
        have s2 := setCells_heap (o := 0 + 1) ((l.map (Value.int .i64)).drop 0) (w := (((w.alloc (.cells ((((l.map (Value.int .i64)).take 0).toArray ++ Builtin.zeroCells (Value.int .i64 0).cells (l.length + 1 - 0) ++ Builtin.zeroCells (Value.int .i64 0).cells (grownCap w (l.length + 1) cap 3 - (l.length + 1)))) 3)).drew.setCells w.heap.size 0 [Value.int .i64 x]).drew)) s1 (by simp [hz]; omega) (fun u hu => ints_one l u (List.mem_of_mem_drop hu))
        refine ⟨.slice (some ⟨w.heap.size, 0, none⟩) (l.length + 1) (grownCap w (l.length + 1) cap 3), rfl, ?_, fun r hr => .inr ?_, ?_⟩
        · have hge := grownCap_ge w (l.length + 1) cap 3
          refine Rw1.own (l := x :: l) ⟨s2, by simpa using hge, grownCap_le_maxLen w _ _ _ (by unfold maxLen; omega), ?_, ?_⟩
          · simp [hz]; omega
          · simp
        · have : w.heap.size = r := by simpa [Value.ownBlock] using hr
          subst this
          exact ⟨Nat.le_refl _, by rw [size_setCells]; show _ < (World.setCells _ _ _ _).heap.size; rw [size_setCells]; show _ < (w.heap.push _).size; simp⟩
        · have k0 : Stp (fun x => x = w.heap.size) w (w.alloc (.cells ((((l.map (Value.int .i64)).take 0).toArray ++ Builtin.zeroCells (Value.int .i64 0).cells (l.length + 1 - 0) ++ Builtin.zeroCells (Value.int .i64 0).cells (grownCap w (l.length + 1) cap 3 - (l.length + 1)))) 3)).drew := (Stp.of_alloc w _ _).drew
          have k1 := (k0.next (Stp.of_setCells _ w.heap.size 0 [Value.int .i64 x] (.inl rfl)) (F' := fun x => x = w.heap.size) (fun x e => .inl e)).drew
          have k2 := k1.next (Stp.of_setCells _ w.heap.size (0 + 1) ((l.map (Value.int .i64)).drop 0) (.inl rfl)) (F' := fun x => x = w.heap.size) (fun x e => .inl e)
          exact k2.mono (fun x e => .inr (by omega))
      · have hl0 : l = [] := List.eq_nil_of_length_eq_zero (by omega)
        subst hl0
        have hcap : cap = 0 := by simp at hroom; omega
        subst hcap
        have := Any2.slices_Insert_int_end_grow lays21 (some ⟨g, 0, none⟩) 0 0 vb 0 1 1 [] [.int .i64 x] w (by omega) (by omega) (by omega) (by omega) rfl rfl (fun e => by cases e) (fun a _ j u hu => by simp at hu) hvs h1v
        refine Calls.mono this ?_
        rintro e w' ⟨rfl, rfl⟩
        refine ⟨_, rfl, ?_, fun r hr => .inr ?_, Stp.of_below ((Below.refl _ w).drew.alloc (Nat.le_refl _) _) _⟩
        · have := grown 0 [] rfl (w.drew.alloc (.cells ((Value.int .i64 x :: ([] : List Int).map (Value.int .i64)).toArray ++ Builtin.zeroCells (Value.int .i64 0).cells (grownCap w (0 + 1) 0 3 - (0 + 1))) 3)) (heap_alloc_new w.drew _)
          exact this
        · have : w.heap.size = r := by simpa [Value.ownBlock] using hr
          subst this
          exact ⟨Nat.le_refl _, by show _ < (w.heap.push _).size; simp⟩
end Go.Proofs.YtgdnhkdfcjpdiaaGreatDoor
