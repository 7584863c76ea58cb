/-
  What a round of CrcSums keeps: no statement is proved here.
-/
import Derived.Test.YtlmhelkpcifcnaaCrcD
import Derived.Maps.AppendAt
namespace Go.Proofs.Ytlmhelkpcifcnaa.crcSums
open Go.ChangeShapes Go.WideShapes Go.ChangeAt Go.RowKit
set_option linter.unusedVariables false

/-- The parts, each cut. -/
def cuts (L : List (List Int)) (k : Nat) : List (List Int) := (L.take k).map (fun l => l.take 200)
theorem cuts_succ (L : List (List Int)) (k : Nat) (h : k < L.length) : cuts L (k + 1) = cuts L k ++ [(L.getD k []).take 200] := by
  unfold cuts
  rw [List.take_add_one, List.getElem?_eq_getElem h, List.map_append, List.getD_eq_getElem?_getD, List.getElem?_eq_getElem h]; rfl
theorem cuts_byte {L : List (List Int)} (h : ∀ l ∈ L, ∀ x ∈ l, 0 ≤ x ∧ x ≤ 255) (k : Nat) : ∀ x ∈ (cuts L k).flatten, 0 ≤ x ∧ x ≤ 255 := by
  intro x hx
  obtain ⟨l, hl, hxl⟩ := List.mem_flatten.1 hx
  obtain ⟨l0, h0, rfl⟩ := List.mem_map.1 hl
  exact h l0 (List.mem_of_mem_take h0) x (List.mem_of_mem_take hxl)
theorem cuts_len (L : List (List Int)) : ∀ k, k ≤ L.length → (cuts L k).flatten.length ≤ 200 * k
  | 0, _ => by simp [cuts]
  | k + 1, h => by
    have ih := cuts_len L k (by omega)
    rw [cuts_succ L k (by omega), List.flatten_append, List.length_append]
    have : ([(L.getD k []).take 200] : List (List Int)).flatten.length ≤ 200 := by simp; omega
    omega
theorem cuts_count (L : List (List Int)) (k : Nat) (h : k ≤ L.length) : (cuts L k).length = k := by unfold cuts; simp; omega

theorem infoSl : (Try.prog.info? 23).map (fun i => (i.zero, i.size, i.bytes)) = some (some (.slice none 0 0), 1, 24) := by kernel_rfl

/-- What stands at the head of a round. -/
structure Inv (w wr : World) (g k : Nat) (L : List (List Int)) (b3 c3 b4 c4 N : Nat) (vs : List Value) : Prop where
  bel : Below w.heap.size w wr
  num : (cuts L k).flatten.length = N
  own3 : wr.ownsRow w.heap.size 23 1 (.slice (some ⟨b3, 0, none⟩) k c3) k vs
  own4 : wr.ownsRow w.heap.size 5 1 (.slice (some ⟨b4, 0, none⟩) N c4) N ((cuts L k).flatten.map (Value.int .u8))
  sm : Sm wr g (adds 4294967295 (cuts L k).flatten : Nat) N
  hg : w.heap.size ≤ g
  n34 : b3 ≠ b4
  n3 : b3 ≠ g
  n4 : b4 ≠ g
  pcs : Pcs wr [b3, b4, g] vs (cuts L k)

/-- Where an appended slice lies. -/
theorem lies {b b' n c n' c' H : Nat} (h : (Value.slice (some ⟨b', 0, none⟩) n' c').ownBlock = (Value.slice (some ⟨b, 0, none⟩) n c).ownBlock ∨ (Value.slice (some ⟨b', 0, none⟩) n' c').ownBlock = some H) : b' = b ∨ b' = H := by
  rcases h with h | h
  · left; have h' : some b' = some b := h; injection h'
  · right; have h' : some b' = some H := h; injection h'

/-- The part, laid for the append. -/
def laid (gp m cp : Nat) : Obj := .cells #[.slice (some ⟨gp, 0, none⟩) m cp] 23

/-- From a round's head to the next. -/
theorem next {w wr u3 u5 u6 : World} {g k : Nat} {L : List (List Int)} {b3 c3 b4 c4 N gp m cp b5 c5 b6 c6 : Nat} {vs : List Value} {lk : List Int}
    (hI : Inv w wr g k L b3 c3 b4 c4 N vs) (hS : cuts L (k + 1) = cuts L k ++ [lk]) (hB3 : Below wr.heap.size wr u3) (hgp : wr.heap.size ≤ gp) (hgp2 : gp < u3.heap.size) (hpb : Bs u3 (some ⟨gp, 0, none⟩) m cp lk)
    (hw1 : u5.ownsRow w.heap.size 23 1 (.slice (some ⟨b5, 0, none⟩) (k + 1) c5) (k + 1) (vs ++ [.slice (some ⟨gp, 0, none⟩) m cp]))
    (hw2 : (u3.alloc (laid gp m cp)).grownBy u5 (Value.slice (some ⟨b3, 0, none⟩) k c3).ownBlock) (hw4 : b5 = b3 ∨ b5 = u3.heap.size + 1)
    (hx1 : u6.ownsRow w.heap.size 5 1 (.slice (some ⟨b6, 0, none⟩) (N + m) c6) (N + m) ((cuts L k).flatten.map (Value.int .u8) ++ lk.map (Value.int .u8)))
    (hx2 : u5.grownBy u6 (Value.slice (some ⟨b4, 0, none⟩) N c4).ownBlock) (hx4 : b6 = b4 ∨ b6 = u5.heap.size) :
    (Sm u6 g (adds 4294967295 (cuts L k).flatten : Nat) N ∧ Bs u6 (some ⟨gp, 0, none⟩) m cp lk) ∧
    ∀ u7, Below u6.heap.size u6 u7 → ∀ u9, Below u7.heap.size ((u7.setCell ⟨g, 0, none⟩ (.int .u32 (adds 4294967295 (cuts L (k + 1)).flatten : Nat))).setCell ⟨g, 1, none⟩ (.int .i64 ((N + m : Nat) : Int))) u9 →
      Inv w u9 g (k + 1) L b5 c5 b6 c6 (N + m) (vs ++ [.slice (some ⟨gp, 0, none⟩) m cp]) := by
  have l3 := own_lt hI.own3
  have l4 := own_lt hI.own4
  have lg := hI.sm.lt
  have hn34 := hI.n34
  have hn3 := hI.n3
  have hn4 := hI.n4
  have hz := hI.bel.size
  have hg := hI.hg
  have hz3 := hB3.size
  have l5 := own_lt hw1
  have l6 := own_lt hx1
  have hsz4 : (u3.alloc (laid gp m cp)).heap.size = u3.heap.size + 1 := by simp
  have hsz5 := hw2.size
  have hsz6 := hx2.size
  rw [hsz4] at hsz5
  have K1 := fun B => (keep_below hB3 B).trans (keep_alloc u3 (laid gp m cp) B)
  have K2 := fun B hB => keep_own hw2 B hB
  have K3 := fun B hB => keep_own hx2 B hB
  have sm6 : Sm u6 g (adds 4294967295 (cuts L k).flatten : Nat) N :=
    ((hI.sm.keep (K1 []) (by simp)).keep (K2 [b3] (by simp)) (by simp; omega)).keep (K3 [b4] (by simp)) (by simp; omega)
  have pb6 : Bs u6 (some ⟨gp, 0, none⟩) m cp lk :=
    (((hpb.keep (keep_alloc u3 (laid gp m cp) []) (fun _ _ _ => by simp)).keep (K2 [b3] (by simp)) (fun ad e _ => by injection e with e; subst e; simp; omega))).keep (K3 [b4] (by simp)) (fun ad e _ => by injection e with e; subst e; simp; omega)
  refine ⟨⟨sm6, pb6⟩, fun u7 h7 u9 h9 => ?_⟩
  have hz7 := h7.size
  have K4 := fun B => keep_below h7 B
  have K5 : ∀ B, g ∈ B → Keep B u7 u9 := fun B hB => by
    refine ((keep_setCell u7 ⟨g, 0, none⟩ _ B hB).trans (keep_setCell _ ⟨g, 1, none⟩ _ B hB)).trans (keep_below (w := (u7.setCell ⟨g, 0, none⟩ (.int .u32 (adds 4294967295 (cuts L (k + 1)).flatten : Nat))).setCell ⟨g, 1, none⟩ (.int .i64 ((N + m : Nat) : Int))) (by simpa using h9) B)
  have hfl : (cuts L (k + 1)).flatten = (cuts L k).flatten ++ lk := by rw [hS, List.flatten_append]; simp
  refine ⟨?_, ?_, ?_, ?_, ?_, hI.hg, by omega, by omega, by omega, ?_⟩
  · have hb6 : Below w.heap.size w u6 := by
      refine ((bnext hI.bel hB3 (Nat.le_refl _)).alloc (by omega) (laid gp m cp)).grown hw2 (by omega) ?_ |>.grown hx2 (by omega) ?_
      · intro b e; have e' : some b3 = some b := e; injection e' with e'; omega
      · intro b e; have e' : some b4 = some b := e; injection e' with e'; omega
    have hb7 := bnext hb6 h7 (Nat.le_refl _)
    exact bstep ((hb7.setCell (p := ⟨g, 0, none⟩) hI.hg _).setCell (p := ⟨g, 1, none⟩) hI.hg _) h9 (by omega)
  · rw [hfl, List.length_append, hI.num, hpb.len]
  · exact ((own_keep hw1 (K3 [b4] (by simp)) (by simp; omega)) |> fun h => own_keep h (K4 []) (by simp)) |> fun h => own_keep h (K5 [g] (by simp)) (by simp; omega)
  · rw [hfl, List.map_append]
    exact (own_keep hx1 (K4 []) (by simp)) |> fun h => own_keep h (K5 [g] (by simp)) (by simp; omega)
  · have := (sm6.later h7).stored (adds 4294967295 (cuts L (k + 1)).flatten : Nat) ((N + m : Nat) : Int)
    exact this.later (by simpa using h9)
  · have q1 := hI.pcs.keep (K1 _)
    have q2 : Pcs (u3.alloc (laid gp m cp)) [b3, b5, b4, g] vs (cuts L k) := q1.turn (fun b hb => by simp at hb ⊢; omega)
    have q3 := q2.keep (K2 _ (by simp))
    have q4 : Pcs u5 [b3, b5, b4, b6, g] vs (cuts L k) := q3.turn (fun b hb => by simp at hb ⊢; omega)
    have q5 := ((q4.keep (K3 _ (by simp))).keep (K4 _)).keep (K5 _ (by simp))
    have pb9 := (pb6.keep (K4 []) (fun _ _ _ => by simp)).keep (K5 [g] (by simp)) (fun ad e _ => by injection e with e; subst e; simp; omega)
    have q6 := q5.snoc pb9 (fun ad e _ => by injection e with e; subst e; simp; omega)
    rw [hS]
    exact q6.turn (fun b hb => by simp at hb ⊢; omega)

theorem value_of (l : List Int) (n : Int) (w : World) (hl : ∀ x ∈ l, 0 ≤ x ∧ x ≤ 255) :
    Calls Try.prog 12 #[.agg #[.int .u32 (adds 4294967295 l : Nat), .int .i64 n]] w fun e w' => e = .returned (.int .u32 (sumOf l : Nat)) ∧ Below w.heap.size w w' :=
  value_any _ _ _ (adds_lt l (by omega) hl)

end Go.Proofs.Ytlmhelkpcifcnaa.crcSums
