/-
  What Image of the code's disk returns: no statement is proved here.
-/
import Derived.Test.YtdjkdkekcjmokaaRfJ
import Derived.Deep.CutBlock
namespace Go.Proofs.Ytdjkdkekcjmokaa
open Go.ChangeShapes Go.WideShapes Go.ChangeAt Go.RowKit
set_option linter.unusedVariables false

/-- What is stable, sector by sector. -/
def img (S : DS) : List Blk := (List.range S.n).map fun j : Nat => S.st (j : Int)
theorem img_len (S : DS) : (img S).length = S.n := by unfold img; simp
theorem img_get (S : DS) (j : Nat) (h : j < S.n) : (img S).getD j Blk.zero = S.st j := by
  unfold img; rw [List.getD_eq_getElem?_getD, List.getElem?_map, List.getElem?_range h]; rfl
/-- A row that reads so, block by block, is the call's own. -/
theorem own_of_ranges {w : World} {g n : Nat} {cur : Array Value} {l : List Blk} (hb : w.heap[g]? = some (.cells cur 36 (0, 0))) (hs : cur.size = n * 64) (hl : l.length = n) (hn : n ≤ 100000) (h : ∀ j, j < n → w.rangeAt g (j * 64) (l.getD j Blk.zero).cs) :
    w.ownsRow 0 36 64 (.slice (some ⟨g, 0, none⟩) n n) n (flat l) := by
  have e : cur.toList = flat l := by
    apply List.ext_getElem?
    intro k
    by_cases hk : k < n * 64
    · have hr := h (k / 64) (by omega)
      have hg := flat_get l (k / 64) (k % 64) (by omega) (Nat.mod_lt _ (by omega))
      rw [show k / 64 * 64 + k % 64 = k by omega] at hg
      rw [hg]
      obtain ⟨v, hv⟩ : ∃ v, (l.getD (k / 64) Blk.zero).cs[k % 64]? = some v := ⟨_, List.getElem?_eq_getElem (by rw [Blk.cs_len]; exact Nat.mod_lt _ (by omega))⟩
      have := hr (k % 64) v hv
      rw [show k / 64 * 64 + k % 64 = k by omega, cell_of_row _ _ _ cur _ (0, 0) hb] at this
      rw [hv, ← this, Array.getElem?_toList]
    · rw [List.getElem?_eq_none (by simp; omega), List.getElem?_eq_none (by rw [flat_len, hl]; omega)]
  refine ⟨by rw [flat_len, hl], .inr ⟨g, n, cur, rfl, Nat.zero_le _, hb, Nat.le_refl _, by unfold maxLen; omega, hs, ?_⟩⟩
  rw [e, List.take_of_length_le (by rw [flat_len, hl]; exact Nat.le_refl _)]
/-- A store of many cells leaves a row a row. -/
theorem row_setCells {w : World} {g : Nat} {cur : Array Value} {t : TypeId} (hb : w.heap[g]? = some (.cells cur t (0, 0))) : ∀ (vs : List Value) (o : Nat), ∃ cur', (w.setCells g o vs).heap[g]? = some (.cells cur' t (0, 0)) ∧ cur'.size = cur.size := by
  intro vs
  induction vs generalizing w cur with
  | nil => intro o; exact ⟨cur, hb, rfl⟩
  | cons v r ih =>
    intro o
    rw [World.setCells]
    obtain ⟨c1, h1, h2⟩ : ∃ c1, (w.setCell ⟨g, o, none⟩ v).heap[g]? = some (.cells c1 t (0, 0)) ∧ c1.size = cur.size := by
      refine ⟨cur.setIfInBounds o v, ?_, by simp⟩
      simp only [World.setCell, Array.getElem?_modify, if_true, hb, Option.map_some]
      rfl
    obtain ⟨c2, h3, h4⟩ := ih h1 (o + 1)
    exact ⟨c2, h3, h4.trans h2⟩

section
variable {ops : Array Oper} {rest : List Oper} {o : Oper} {a : Act} {w : World} {Q : Exit → Act → World → Prop}
theorem at_nextB {b r : Nat} {f : Int → Option Value} {left : Int → Bool} {cnt : Nat} (hw : Region.wanted o (yielded ops a.tmps) = true) (x : Operand) (ho : o.op = Op.next x false)
    (hx : a.eval x = .pointer (some ⟨r, 0, none⟩)) (h : RgI Try.prog 3 w b r f left cnt) (B : Int → Blk) (hsh : ∀ k v, f k = some v → v = .agg (B k).cs.toArray)
    (h0 : (∀ k, left k = false) → wpList Try.prog ops Q rest (a.put o.dst (.tuple #[.bool false])) w)
    (h1 : ∀ k w' cnt', (Lit.int .i64 k).wf = true → left k = true → f k = some (.agg (B k).cs.toArray) → RgI Try.prog 3 w' b r f (fun x => left x && !decide (x = k)) cnt' → cnt' < cnt → Stp (fun x => x = r) w w' → w'.heap.size = w.heap.size →
      (Instr.entry (.pointer (some ⟨r, 0, none⟩))).run Try.prog w' = .ok (.tuple #[.int .i64 k, .agg (B k).cs.toArray]) w' → wpList Try.prog ops Q rest (a.put o.dst (.tuple #[.bool true, .int .i64 k, .agg (B k).cs.toArray])) w') : wpList Try.prog ops Q (o :: rest) a w :=
  at_next' hw x ho hx h h0 (fun k v w' cnt' a1 a2 a3 a4 a5 a6 a7 a8 => by
    obtain rfl := hsh k v a3
    exact h1 k w' cnt' a1 a2 a3 a4 a5 a6 a7 a8)
end
/-- The loop's head: what has come stands in the row. -/
structure Im (w wr : World) (m1 r g3 : Nat) (S : DS) (left : Int → Bool) (cnt : Nat) : Prop where
  rg : RgI Try.prog 3 wr m1 r (stF S) left cnt
  st : ∀ j : Nat, j < S.n → wr.rangeAt g3 (j * 64) (if left j then Blk.zero else S.st j).cs
  th : ∀ j : Nat, j < S.n → wr.there g3 (j * 64) 64
  row : ∃ cur, wr.heap[g3]? = some (.cells cur 36 (0, 0)) ∧ cur.size = S.n * 64
  bel : Below w.heap.size w wr
theorem stF_some {S : DS} {k : Int} {v : Value} (h : stF S k = some v) : v = .agg (S.st k).cs.toArray := by
  unfold stF at h; split at h
  · cases h
  · injection h with h; exact h.symm
set_option maxRecDepth 100000 in
set_option maxHeartbeats 1000000 in
theorem image_any {F : Nat → Prop} {w : World} {g : Nat} {sp : Value} {S : DS} (h : Disk w g sp S F) :
    Calls Try.prog 15 #[.pointer (some ⟨g, 0, none⟩)] w fun e w' => ∃ g3, e = .returned (.slice (some ⟨g3, 0, none⟩) S.n S.n) ∧ Below w.heap.size w w' ∧ w.heap.size ≤ g3 ∧ g3 < w'.heap.size ∧ w'.ownsRow 0 36 64 (.slice (some ⟨g3, 0, none⟩) S.n S.n) S.n (flat (img S)) := by
  obtain ⟨m1, m2, f, hd, hm⟩ := h
  have hok := hd.ok
  have n2 := hok.n2
  have c0 := hd.c0
  have mk := make_blks S.n (by omega)
  have sA : Stp (fun _ => False) w (w.alloc (zBlks S.n)) := Stp.of_alloc _ _ _
  have hd1 := hd.step sA (fun _ _ => id)
  have c2 := hd1.c2
  have hst := hd1.st
  have hm1l := hd.lt m1 hd.f1
  have um : Try.prog.underlying 55 = some (.map 3 36) := by kernel_rfl
  go_enter Try.func15, Try.ntmps15
  go_wp2_with (first
    | (refine at_range' (by rfl) _ (by rfl) (by rfl) (mp_range hst um) ?_; rintro w2 ⟨cnt, hrg, hk2, hz2⟩))
  go_frame
  have hrl : (w.alloc (zBlks S.n)).heap.size = w.heap.size + 1 := by simp
  rw [hrl] at hrg
  obtain ⟨r, hr⟩ : ∃ r, w.heap.size + 1 = r := ⟨_, rfl⟩
  obtain ⟨g3, hg3⟩ : ∃ g3, w.heap.size = g3 := ⟨_, rfl⟩
  have start : Im w w2 m1 r g3 S (fun k => (stF S k).isSome) cnt := by
    rw [← hr, ← hg3]
    refine ⟨hrg, fun j hj => ?_, fun j hj => hk2.there (zBlks_there w S.n j hj) id, ?_, ((sA.trans hk2).below (Nat.le_refl _) (fun _ h => h.elim))⟩
    · have e : (if (stF S j).isSome = true then Blk.zero else S.st j) = Blk.zero := by
        split
        · rfl
        · rename_i hn; unfold stF at hn; split at hn
          · rename_i e; exact e
          · simp at hn
      rw [e]
      exact hk2.range (zBlks_range w S.n j hj) id
    · refine ⟨madeCells Blk.zero.cs.toArray (S.n * 64), ?_, size_madeCells _ _⟩
      rw [hk2.block w.heap.size (by simp) id]
      exact heap_alloc_new w _
  have hm1r : m1 ≠ r := by omega
  have hg3r : g3 ≠ r := by omega
  have hm1g : m1 ≠ g3 := by omega
  have hwg : w.heap.size ≤ g3 := by omega
  have hwr : w.heap.size ≤ r := by omega
  first | rw [hrl, hr, hg3] | rw [hr, hg3]
  clear hrg hk2 hz2 c2 c0 hst hd1 hd hm mk hrl hr hg3 sA
  go_loopw [4] (fun _ wr => ∃ left cnt, Im w wr m1 r g3 S left cnt) (fun _ wr => wr.rangeLeft m1 r)
  case atStart => exact ⟨_, _, start⟩
  case round =>
    clear start
    obtain ⟨left, cnt, L⟩ := hrel
    go_upto_block 1 with (first
      | (refine at_nextB (by rfl) _ (by rfl) (by rfl) L.rg S.st (fun k v e => stF_some e) (fun hl => ?_) (fun k w3 cnt3 hwf hlk hfk hrg3 hc3 hs3 hz3 hen => ?_)))
    · go_returns
      obtain ⟨cur, e1, e2⟩ := L.row
      refine ⟨g3, rfl, L.bel, hwg, (Array.getElem?_eq_some_iff.1 e1).1, own_of_ranges e1 e2 (img_len S) (by omega) (fun j hj => ?_)⟩
      have := L.st j hj
      rw [hl j] at this
      rw [img_get S j hj]; exact this
    · clear hz3
      have hin : S.inn k := Decidable.byContradiction fun hn => by unfold stF at hfk; rw [if_pos (hok.st k hn)] at hfk; cases hfk
      obtain ⟨m, rfl⟩ := Int.eq_ofNat_of_zero_le hin.1
      have hmn : m < S.n := by have := hin.2; omega
      have i1 : (0 : Int) ≤ (m : Int) := by omega
      have i2 : (m : Int) < (S.n : Int) := by omega
      obtain ⟨X, hX⟩ : ∃ X, S.st m = X := ⟨_, rfl⟩
      have hXe : Hid (S.st m = X) := hX
      rw [hX] at hen hfk ⊢
      clear hX
      have th3 : (w3.alloc (.cells X.cs.toArray 36)).there g3 (m * 64) 64 := World.there_alloc (hs3.there (L.th m hmn) hg3r) _
      go_wp2_with (first
        | (refine at_alloc (by rfl) (by rfl) ?_)
        | (refine at_store (by rfl) _ _ (by rfl) w3.heap.size 0 (by rfl) X (by rfl) (there_made w3) ?_; rw [setCells_made])
        | (refine at_load (by rfl) _ (by rfl) w3.heap.size 0 (by rfl) X (made_range w3 _ _) ?_)
        | (refine at_store (by rfl) _ _ (by rfl) g3 (m * 64) (by rfl) X (by rfl) th3 ?_))
      have c3 : Stp (fun x => x = r) wr (w3.alloc (.cells X.cs.toArray 36)) := hs3.alloc _
      have kG : Stp (fun x => x = r ∨ x = g3) wr ((w3.alloc (.cells X.cs.toArray 36)).setCells g3 (m * 64) X.cs) := (c3.mono (fun x hx => .inl (.inl hx))).trans (Stp.of_setCells _ g3 (m * 64) X.cs (.inl (.inr rfl)))
      have L' : Im w ((w3.alloc (.cells X.cs.toArray 36)).setCells g3 (m * 64) X.cs) m1 r g3 S (fun x => left x && !decide (x = (m : Int))) cnt3 := by
        refine ⟨hrg3.step ((Stp.of_alloc _ _ (fun x => x = g3)).trans (Stp.of_setCells _ g3 (m * 64) X.cs (.inl rfl))) hm1g (fun e => hg3r e.symm), fun j hj => ?_, fun j hj => World.there_setCells (World.there_alloc (hs3.there (L.th j hj) hg3r) _) _ _ _, ?_, ?_⟩
        · by_cases e : j = m
          · subst e
            have e2 : (left (j : Int) && !decide ((j : Int) = (j : Int))) = false := by simp
            rw [e2, if_neg (by simp), hXe.out]
            exact World.rangeAt_setCells_same _ g3 (j * 64) X.cs (by rw [X.cs_len]; exact th3)
          · have e2 : (left (j : Int) && !decide ((j : Int) = (m : Int))) = left (j : Int) := by
              have : ¬ (j : Int) = (m : Int) := by omega
              simp [this]
            rw [e2]
            exact World.rangeAt_setCells_apart (World.rangeAt_alloc (hs3.range (L.st j hj) hg3r) _) g3 (m * 64) X.cs (.inr (by rw [X.cs_len, Blk.cs_len]; omega))
        · obtain ⟨cur, e1, e2⟩ := L.row
          have e3 : (w3.alloc (.cells X.cs.toArray 36)).heap[g3]? = some (.cells cur 36 (0, 0)) := by rw [c3.block g3 (Array.getElem?_eq_some_iff.1 e1).1 hg3r]; exact e1
          obtain ⟨c', f1, f2⟩ := row_setCells e3 X.cs (m * 64)
          exact ⟨c', f1, f2.trans e2⟩
        · exact ((Stp.of_below L.bel (fun x => w.heap.size ≤ x)).trans (kG.mono (fun x hx => .inl (by rcases hx with rfl | rfl; exact hwr; exact hwg)))).below (Nat.le_refl _) (fun x hx => hx)
      have hL := L'.rg.left_eq
      have hL0 := L.rg.left_eq
      clear kG c3 th3 hrg3 hs3 L hen hfk
      go_roundw
      case rel => first | exact ⟨_, _, L'⟩ | exact ⟨_, _, _, _, _, _, _, _, _, _, _, ⟨_, _, L'⟩, rfl⟩
      case measure => rw [hL, hL0]; omega
end Go.Proofs.Ytdjkdkekcjmokaa
