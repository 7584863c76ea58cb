/-
  Both disks and both supplies beside one another, and what a pair of calls leaves: no statement is proved here.
-/
import Derived.Test.YtecedklfdmbnpaaRfH
import Derived.Deep.CutBlock
namespace Go.Proofs.Ytecedklfdmbnpaa
open Go.ChangeShapes Go.WideShapes Go.ChangeAt Go.RowKit
set_option linter.unusedVariables false

theorem Rk.wrote {R : Nat → Prop} {u W : World} {y q s t gg cap : Nat} {v : Nat → Value} {S : DS} (h : Rk u y q s t v S R) {i : Nat} (hi : i < S.n) (b : Blk) (bel : Below u.heap.size u W)
    (ho : W.ownsRow 0 42 64 (.slice (some ⟨gg, 0, none⟩) ((S.wt i).length + 1) cap) ((S.wt i).length + 1) (flat (S.wt i) ++ b.cs)) (hg : u.heap.size ≤ gg) (hlt : gg < W.heap.size) :
    Rk (W.setCell ⟨t, i, none⟩ (.slice (some ⟨gg, 0, none⟩) ((S.wt i).length + 1) cap)) y q s t (fun j => if j = i then .slice (some ⟨gg, 0, none⟩) ((S.wt i).length + 1) cap else v j) (S.wrote i b) (fun x => R x ∨ x = gg) := by
  have h := h.step (Stp.of_below bel (fun _ => False)) (fun _ _ => id) |> fun hW => (⟨hW, h⟩ : Rk W y q s t v S R ∧ Rk u y q s t v S R)
  obtain ⟨h, h0⟩ := h
  have ny : gg ≠ y := fun e => by have := h0.lt y h0.ry; omega
  have ns : gg ≠ s := fun e => by have := h0.lt s h0.rs; omega
  have nt : gg ≠ t := fun e => by have := h0.lt t h0.rt; omega
  have k : Stp (fun x => x = t) W (W.setCell ⟨t, i, none⟩ (.slice (some ⟨gg, 0, none⟩) ((S.wt i).length + 1) cap)) := (Stp.refl (fun x => x = t) W).setCell (p := ⟨t, i, none⟩) (.inl rfl) _
  refine ⟨k.cell h.c0 h.yt, k.cell h.c1 h.yt, k.cell h.c2 h.yt, k.cell h.c3 h.yt, by rw [k.frozen (p := ⟨y, 3, none⟩) (h.lt y h.ry) h.yt]; exact h.z3, fun j hj => k.range (h.st j hj) h.st', fun j hj => k.there (h.th j hj) h.st',
    fun j hj => ?_, fun j hj => by simpa using h.wz j hj, fun j hj => ?_, ?_, .inl h.ry, .inl h.rs, .inl h.rt, h.ys, h.yt, h.st', fun x hx => ?_, fun j hj L c e => ?_⟩
  · by_cases e : j = i
    · subst e; simp only [if_true]; exact World.cell?_setCell_same _ _ _ (h.wc j hj)
    · simp only [if_neg e]; rw [World.cell?_setCell_other _ _ _ _ (fun e' => e (by injection e' with _ e'; exact e'.symm))]; exact h.wc j hj
  · by_cases e : j = i
    · subst e
      refine ⟨some ⟨gg, 0, none⟩, cap, ?_, ?_, fun x ex => by injection ex with ex; subst ex; exact ⟨.inr rfl, ny, ns, nt⟩⟩
      · show (if j = j then Value.slice (some ⟨gg, 0, none⟩) ((S.wt j).length + 1) cap else v j) = .slice (some ⟨gg, 0, none⟩) (if (j : Int) = (j : Int) then S.wt j ++ [b] else S.wt j).length cap
        rw [if_pos rfl, if_pos rfl, List.length_append]; rfl
      · show Bls _ (some ⟨gg, 0, none⟩) (if (j : Int) = (j : Int) then S.wt j ++ [b] else S.wt j).length cap (if (j : Int) = (j : Int) then S.wt j ++ [b] else S.wt j)
        rw [if_pos rfl]
        refine Bls.own ?_ rfl
        rw [flat_snoc, List.length_append]
        exact own_step ho k (fun e => nt e)
    · obtain ⟨a, c, ev, hb, hx⟩ := h.wv j hj
      have e' : ¬ (j : Int) = (i : Int) := by omega
      refine ⟨a, c, ?_, ?_, fun x ex => ⟨.inl (hx x ex).1, (hx x ex).2⟩⟩
      · show (if j = i then Value.slice (some ⟨gg, 0, none⟩) ((S.wt i).length + 1) cap else v j) = .slice a (if (j : Int) = (i : Int) then S.wt i ++ [b] else S.wt j).length c
        rw [if_neg e, if_neg e']; exact ev
      · show Bls _ a (if (j : Int) = (i : Int) then S.wt i ++ [b] else S.wt j).length c (if (j : Int) = (i : Int) then S.wt i ++ [b] else S.wt j)
        rw [if_neg e']; exact hb.step k (fun x ex => (hx x ex).2.2.2)
  · refine ⟨h.ok.n1, h.ok.n2, h.ok.st, fun k hk => ?_⟩
    show (if k = (i : Int) then S.wt i ++ [b] else S.wt k) = []
    rw [if_neg (fun e => hk (by subst e; exact ⟨by omega, by show (i : Int) < S.n; omega⟩))]
    exact h.ok.wt k hk
  · rcases hx with hx | hx
    · exact Nat.lt_of_lt_of_le (h.lt x hx) k.size
    · subst hx; exact Nat.lt_of_lt_of_le hlt k.size
  · by_cases e' : j = i
    · simp only [if_pos e'] at e; injection e with e1; cases e1
    · simp only [if_neg e'] at e; exact h.wn j hj L c e

def DS.rwrite (S : DS) (p : RS) (i : Int) (b : Blk) : DS := if rRes S p i = 0 then (S.wrote i b).count else S
set_option maxRecDepth 100000 in
set_option maxHeartbeats 1000000 in
theorem rwrite_any {R : Nat → Prop} {w : World} {y q : Nat} {S : DS} {p : RS} (h : RD w y q S R) (hq : Rw w q p) (hqR : ¬ R q) (ok : p.ok) (i : Int) (b : Blk) (hn : (S.wt i).length < 100000) :
    Calls Try.prog 55 #[.pointer (some ⟨y, 0, none⟩), .int .i64 i, .agg b.cs.toArray] w fun e w' => e = .returned (.int .i64 (rRes S p i)) ∧ ∃ R', RD w' y q (S.rwrite p i b) R' ∧ Rw w' q (rUse S p i) ∧ Stp (fun x => R x ∨ x = q) w w' ∧ Grew R R' w w' := by
  have sA : Stp (fun _ => False) w (w.alloc (.cells b.cs.toArray 42)) := Stp.of_alloc _ _ _
  have hA := h.step sA (fun _ _ => id)
  have his := is_any hA i
  have hqA : Rw (w.alloc (.cells b.cs.toArray 42)) q p := hq.step (step_alloc w _ []) (by simp)
  unfold DS.rwrite rUse rRes
  by_cases hi : S.inn i
  · have e2 : decide (S.inn i) = true := decide_eq_true hi
    rw [e2] at his
    simp only [if_pos hi]
    obtain ⟨s, t, v, hk⟩ := hA
    have c0 := hk.c0
    have hql := hq.lt
    by_cases he : p.useErr = 0
    · simp only [if_pos he]
      obtain ⟨m, rfl⟩ := Int.eq_ofNat_of_zero_le hi.1
      have hm : m < S.n := by have := hi.2; omega
      have n2 := hk.ok.n2
      have hbx : (w.alloc (.cells b.cs.toArray 42)).rangeAt w.heap.size 0 b.cs := made_range w _ _
      have hRl : ∀ x, R x → x < w.heap.size := h.lt
      clear h e2 hi
      go_enter Try.func55, Try.ntmps55
      go_wp2_with (first
        | (go_at_call 48; refine his.mono ?_; rintro e u ⟨rfl, rfl⟩)
        | (go_at_call 66; refine (ruse_any q p _ hqA ok).mono ?_; rintro e u1 ⟨rfl, k1, p1⟩; rw [he]))
      have k1' : Stp (fun x => x = q) (w.alloc (.cells b.cs.toArray 42)) u1 := Stp.of_step k1 (by simp)
      have h1 := hk.step k1' (fun x hx e => hqR (e ▸ hx))
      have hb1 := k1'.range hbx (fun e => by omega)
      obtain ⟨a, c, ev, hB, _⟩ := h1.wv m hm
      have wc := h1.wc m hm
      rw [ev] at wc
      refine regionW (fun _ _ _ _ _ h => h) rfl rfl rfl rfl hm h1.c2 wc (h1.wz m hm) (h1.lt t h1.rt) hb1 hB (fun e => h1.wn m hm _ c (by rw [ev, e])) (by omega) ?_
      intro v25 v33 v35 gg cap W bW hoW hgW hltW
      have d3 := h1.wrote hm b bW hoW hgW hltW
      have d4 := d3.counted
      have c3 := d3.c3
      have z3 := d3.z3
      have kW : Stp R u1 (W.setCell ⟨t, m, none⟩ (.slice (some ⟨gg, 0, none⟩) ((S.wt m).length + 1) cap)) := (Stp.of_below bW R).setCell (p := ⟨t, m, none⟩) (.inl h1.rt) _
      have k4 : Stp R u1 ((W.setCell ⟨t, m, none⟩ (.slice (some ⟨gg, 0, none⟩) ((S.wt m).length + 1) cap)).setCell ⟨y, 3, none⟩ (.int .i64 (wrap64 (S.wr + 1)))) := kW.setCell (p := ⟨y, 3, none⟩) (.inl h1.ry) _
      have pS := p1.stp k4 hqR
      have kS : Stp (fun x => R x ∨ x = q) w ((W.setCell ⟨t, m, none⟩ (.slice (some ⟨gg, 0, none⟩) ((S.wt m).length + 1) cap)).setCell ⟨y, 3, none⟩ (.int .i64 (wrap64 (S.wr + 1)))) :=
        (((sA.mono (fun x hx => hx.elim)).trans (k1'.mono (fun x hx => .inl (.inr hx))))).trans (k4.mono (fun x hx => .inl (.inl hx)))
      have gG : Grew R (fun x => R x ∨ x = gg) w ((W.setCell ⟨t, m, none⟩ (.slice (some ⟨gg, 0, none⟩) ((S.wt m).length + 1) cap)).setCell ⟨y, 3, none⟩ (.int .i64 (wrap64 (S.wr + 1)))) := fun x hx => by
        rcases hx with hx | hx
        · exact .inl hx
        · subst hx
          have z1 := k1'.size
          simp at z1
          exact .inr ⟨by omega, by simpa using hltW⟩
      clear kW k4 k1' k1 p1 hk his sA hqA hb1 hB wc ev bW hoW hbx h1
      generalize (W.setCell ⟨t, m, none⟩ (.slice (some ⟨gg, 0, none⟩) ((S.wt m).length + 1) cap)) = W1 at *
      generalize Value.slice (some ⟨gg, 0, none⟩) ((S.wt m).length + 1) cap = v36
      generalize Value.slice a (S.wt m).length c = v32
      unfold rwFrame
      simp only [Act.put, List.setIfInBounds_toArray, List.set_cons_zero, List.set_cons_succ]
      go_wp2_with fail
      go_returns
      exact ⟨by rw [he]; rfl, _, ⟨s, t, _, d4⟩, pS, kS, gG⟩
    · simp only [if_neg he]
      go_enter Try.func55, Try.ntmps55
      go_wp2_with (first
        | (go_at_call 48; refine his.mono ?_; rintro e u ⟨rfl, rfl⟩)
        | (go_at_call 66; refine (ruse_any q p _ hqA ok).mono ?_; rintro e u1 ⟨rfl, k1, p1⟩))
      go_returns
      have k1' : Stp (fun x => x = q) (w.alloc (.cells b.cs.toArray 42)) u1 := Stp.of_step k1 (by simp)
      exact ⟨rfl, R, ⟨s, t, v, hk.step k1' (fun x hx e => hqR (e ▸ hx))⟩, p1, (sA.mono (fun x hx => hx.elim)).trans (k1'.mono (fun x hx => .inl (.inr hx))), Grew.refl _ _ _⟩
  · have e2 : decide (S.inn i) = false := decide_eq_false hi
    rw [e2] at his
    simp only [if_neg hi]
    rw [if_neg (by omega)]
    go_enter Try.func55, Try.ntmps55
    go_wp2_with (first
      | (go_at_call 48; refine his.mono ?_; rintro e u ⟨rfl, rfl⟩))
    go_returns
    exact ⟨rfl, R, hA, hqA, sA.mono (fun x hx => hx.elim), Grew.refl _ _ _⟩
end Go.Proofs.Ytecedklfdmbnpaa
namespace Go.Proofs.Ytecedklfdmbnpaa
open Go.ChangeShapes Go.WideShapes Go.ChangeAt Go.RowKit
set_option linter.unusedVariables false

end Go.Proofs.Ytecedklfdmbnpaa
namespace Go.Proofs.Ytecedklfdmbnpaa
open Go.ChangeShapes Go.WideShapes Go.ChangeAt Go.RowKit
set_option linter.unusedVariables false

/-- What is stable, sector by sector. -/
def img (S : DS) : List Blk := (List.range S.n).map fun j : Nat => S.st (j : Int)
theorem img_len (S : DS) : (img S).length = S.n := by unfold img; simp
theorem img_get (S : DS) (j : Nat) (h : j < S.n) : (img S).getD j Blk.zero = S.st j := by
  unfold img; rw [List.getD_eq_getElem?_getD, List.getElem?_map, List.getElem?_range h]; rfl
/-- A row that reads so, block by block, is the call's own. -/
theorem own_of_ranges {w : World} {g n : Nat} {cur : Array Value} {l : List Blk} (hb : w.heap[g]? = some (.cells cur 42 (0, 0))) (hs : cur.size = n * 64) (hl : l.length = n) (hn : n ≤ 100000) (h : ∀ j, j < n → w.rangeAt g (j * 64) (l.getD j Blk.zero).cs) :
    w.ownsRow 0 42 64 (.slice (some ⟨g, 0, none⟩) n n) n (flat l) := by
  have e : cur.toList = flat l := by
    apply List.ext_getElem?
    intro k
    by_cases hk : k < n * 64
    · have hr := h (k / 64) (by omega)
      have hg := flat_get l (k / 64) (k % 64) (by omega) (Nat.mod_lt _ (by omega))
      rw [show k / 64 * 64 + k % 64 = k by omega] at hg
      rw [hg]
      obtain ⟨v, hv⟩ : ∃ v, (l.getD (k / 64) Blk.zero).cs[k % 64]? = some v := ⟨_, List.getElem?_eq_getElem (by rw [Blk.cs_len]; exact Nat.mod_lt _ (by omega))⟩
      have := hr (k % 64) v hv
      rw [show k / 64 * 64 + k % 64 = k by omega, cell_of_row _ _ _ cur _ (0, 0) hb] at this
      rw [hv, ← this, Array.getElem?_toList]
    · rw [List.getElem?_eq_none (by simp; omega), List.getElem?_eq_none (by rw [flat_len, hl]; omega)]
  refine ⟨by rw [flat_len, hl], .inr ⟨g, n, cur, rfl, Nat.zero_le _, hb, Nat.le_refl _, by unfold maxLen; omega, hs, ?_⟩⟩
  rw [e, List.take_of_length_le (by rw [flat_len, hl]; exact Nat.le_refl _)]
/-- A store of many cells leaves a row a row. -/
theorem row_setCells {w : World} {g : Nat} {cur : Array Value} {t : TypeId} (hb : w.heap[g]? = some (.cells cur t (0, 0))) : ∀ (vs : List Value) (o : Nat), ∃ cur', (w.setCells g o vs).heap[g]? = some (.cells cur' t (0, 0)) ∧ cur'.size = cur.size := by
  intro vs
  induction vs generalizing w cur with
  | nil => intro o; exact ⟨cur, hb, rfl⟩
  | cons v r ih =>
    intro o
    rw [World.setCells]
    obtain ⟨c1, h1, h2⟩ : ∃ c1, (w.setCell ⟨g, o, none⟩ v).heap[g]? = some (.cells c1 t (0, 0)) ∧ c1.size = cur.size := by
      refine ⟨cur.setIfInBounds o v, ?_, by simp⟩
      simp only [World.setCell, Array.getElem?_modify, if_true, hb, Option.map_some]
      rfl
    obtain ⟨c2, h3, h4⟩ := ih h1 (o + 1)
    exact ⟨c2, h3, h4.trans h2⟩

section
variable {ops : Array Oper} {rest : List Oper} {o : Oper} {a : Act} {w : World} {Q : Exit → Act → World → Prop}
theorem at_nextB {b r : Nat} {f : Int → Option Value} {left : Int → Bool} {cnt : Nat} (hw : Region.wanted o (yielded ops a.tmps) = true) (x : Operand) (ho : o.op = Op.next x false)
    (hx : a.eval x = .pointer (some ⟨r, 0, none⟩)) (h : RgI Try.prog 3 w b r f left cnt) (B : Int → Blk) (hsh : ∀ k v, f k = some v → v = .agg (B k).cs.toArray)
    (h0 : (∀ k, left k = false) → wpList Try.prog ops Q rest (a.put o.dst (.tuple #[.bool false])) w)
    (h1 : ∀ k w' cnt', (Lit.int .i64 k).wf = true → left k = true → f k = some (.agg (B k).cs.toArray) → RgI Try.prog 3 w' b r f (fun x => left x && !decide (x = k)) cnt' → cnt' < cnt → Stp (fun x => x = r) w w' → w'.heap.size = w.heap.size →
      (Instr.entry (.pointer (some ⟨r, 0, none⟩))).run Try.prog w' = .ok (.tuple #[.int .i64 k, .agg (B k).cs.toArray]) w' → wpList Try.prog ops Q rest (a.put o.dst (.tuple #[.bool true, .int .i64 k, .agg (B k).cs.toArray])) w') : wpList Try.prog ops Q (o :: rest) a w :=
  at_next' hw x ho hx h h0 (fun k v w' cnt' a1 a2 a3 a4 a5 a6 a7 a8 => by
    obtain rfl := hsh k v a3
    exact h1 k w' cnt' a1 a2 a3 a4 a5 a6 a7 a8)
end
/-- The loop's head: what has come stands in the row. -/
structure Im (w wr : World) (m1 r g3 : Nat) (S : DS) (left : Int → Bool) (cnt : Nat) : Prop where
  rg : RgI Try.prog 3 wr m1 r (stF S) left cnt
  st : ∀ j : Nat, j < S.n → wr.rangeAt g3 (j * 64) (if left j then Blk.zero else S.st j).cs
  th : ∀ j : Nat, j < S.n → wr.there g3 (j * 64) 64
  row : ∃ cur, wr.heap[g3]? = some (.cells cur 42 (0, 0)) ∧ cur.size = S.n * 64
  bel : Below w.heap.size w wr
theorem stF_some {S : DS} {k : Int} {v : Value} (h : stF S k = some v) : v = .agg (S.st k).cs.toArray := by
  unfold stF at h; split at h
  · cases h
  · injection h with h; exact h.symm
end Go.Proofs.Ytecedklfdmbnpaa
namespace Go.Proofs.Ytecedklfdmbnpaa
open Go.ChangeShapes Go.WideShapes Go.ChangeAt Go.RowKit
set_option linter.unusedVariables false

theorem infoI : (Try.prog.info? 3).map (fun i => (i.zero, i.size, i.bytes)) = some (some (.int .i64 0), 1, 8) := by kernel_rfl
theorem buildI (u : World) : (Instr.buildSlice 51 0 #[]).run Try.prog u = .ok (.slice (some ⟨u.heap.size, 0, none⟩) 0 0) (u.alloc (.cells #[] 3)) := by
  obtain ⟨ie, hie, hz, hs, hb⟩ := info_parts infoI
  simp [Instr.buildSlice, run_underlying (show Try.prog.underlying 51 = some (.slice 3) by kernel_rfl), sizeOf, typeInfo, hie, Instr.fill, newRow]
  rw [show Array.range 0 = #[] from rfl]
  simp
theorem ownI (u : World) : (u.alloc (.cells #[] 3)).ownsRow 0 3 1 (.slice (some ⟨u.heap.size, 0, none⟩) 0 0) 0 [] :=
  ⟨rfl, .inr ⟨_, 0, #[], rfl, Nat.zero_le _, heap_alloc_new u _, Nat.le_refl _, by decide, by simp, by simp⟩⟩
theorem own_ins {w : World} {v : Value} {n : Nat} {l : List Int} (h : w.ownsRow 0 3 1 v n (l.map (Value.int .i64))) (hw : ∀ x ∈ l, (Lit.int .i64 x).wf = true) : ∃ a c, v = .slice a n c ∧ Ins w a n c l ∧ (0 < n → a.map (·.block) = v.ownBlock) := by
  obtain ⟨h1, h2⟩ := h
  have hlen : l.length = n := by simpa using h1
  rcases h2 with ⟨rfl, rfl⟩ | ⟨g, cap, cur, rfl, hb, hg, hle, hm, hs, ht⟩
  · exact ⟨none, 0, rfl, ⟨hlen, Nat.le_refl _, by decide, hw, fun h => absurd h (by omega)⟩, fun h => absurd h (by omega)⟩
  · refine ⟨_, cap, rfl, ⟨hlen, hle, hm, hw, fun hn => ⟨g, 0, rfl, fun i hi => ?_⟩⟩, fun _ => rfl⟩
    rw [Nat.zero_add, cell_of_row w g i cur _ (0, 0) hg]
    have e1 : (cur.toList.take (n * 1))[i]? = (l.map (Value.int .i64))[i]? := by rw [ht]
    rw [List.getElem?_take, if_pos (by omega)] at e1
    rw [← Array.getElem?_toList, e1, List.getElem?_map, List.getElem?_eq_getElem (by omega)]
    simp [List.getD_eq_getElem?_getD, List.getElem?_eq_getElem (show i < l.length by omega)]
end Go.Proofs.Ytecedklfdmbnpaa
namespace Go.Proofs.Ytecedklfdmbnpaa
open Go.ChangeShapes Go.WideShapes Go.ChangeAt Go.RowKit
set_option linter.unusedVariables false

def useP1 (S : DS) (p : PS) (i : Int) : PS := if S.inn i then p.use else p
theorem useP_some (S : DS) (p : PS) (i : Int) : useP S (some p) i = some (useP1 S p i) := by unfold useP useP1; split <;> rfl
theorem res_same {p : PS} {k : Nat} (h : okAt p k) (S : DS) (i : Int) : rRes S (ref p) i = useRes S (some p) i := by
  unfold rRes useRes; rw [ref_err h]; rfl
theorem use_same {p : PS} {k : Nat} (h : okAt p k) (S : DS) (i : Int) : rUse S (ref p) i = ref (useP1 S p i) := by
  unfold rUse useP1; split
  · exact ref_use h
  · rfl
theorem write_same {p : PS} {k : Nat} (h : okAt p k) (S : DS) (i : Int) (b : Blk) : S.rwrite (ref p) i b = S.write (some p) i b := by
  unfold DS.rwrite DS.write; rw [res_same h]
theorem force_same {p : PS} {k : Nat} (h : okAt p k) (S : DS) (i : Int) (b : Blk) : S.rforce (ref p) i b = S.force (some p) i b := by
  unfold DS.rforce DS.force; rw [res_same h]
theorem flush_same {p : PS} {k : Nat} (h : okAt p k) (S : DS) : S.rflush (ref p) = S.flush (some p) := by
  unfold DS.rflush DS.flush; rw [ref_err h]; rfl
theorem okAt.more {p : PS} {k : Nat} (h : okAt p k) : okAt p (k + 1) := by unfold okAt at *; omega
theorem ok_useP1 {p : PS} {k : Nat} (h : okAt p k) (S : DS) (i : Int) : okAt (useP1 S p i) (k + 1) := by
  unfold useP1; split
  · exact ok_use h
  · exact h.more
theorem wt_write {S : DS} {k : Nat} (h : ∀ j, (S.wt j).length ≤ k) (p : Option PS) (i : Int) (b : Blk) : ∀ j, ((S.write p i b).wt j).length ≤ k + 1 := fun j => by
  have := h j
  unfold DS.write; split
  · show (if j = i then S.wt i ++ [b] else S.wt j).length ≤ k + 1
    have := h i
    split
    · rw [List.length_append]; simp only [List.length_cons, List.length_nil]; omega
    · omega
  · omega
theorem wt_force {S : DS} {k : Nat} (h : ∀ j, (S.wt j).length ≤ k) (p : Option PS) (i : Int) (b : Blk) : ∀ j, ((S.force p i b).wt j).length ≤ k + 1 := fun j => by
  have := h j
  unfold DS.force; split
  · show (if j = i then [] else S.wt j).length ≤ k + 1
    split
    · simp
    · omega
  · omega
theorem wt_flush {S : DS} {k : Nat} (h : ∀ j, (S.wt j).length ≤ k) (p : Option PS) : ∀ j, ((S.flush p).wt j).length ≤ k + 1 := fun j => by
  have := h j
  unfold DS.flush; split
  · simp
  · omega
theorem wt_crash (S : DS) (k : Nat) (l : List Int) : ∀ j, ((S.crash l).wt j).length ≤ k + 1 := fun j => by simp [DS.crash]
theorem wt_load {S : DS} {k : Nat} (h : ∀ j, (S.wt j).length ≤ k) (l : List Blk) : ∀ j, ((S.load l).wt j).length ≤ k + 1 := fun j => by
  have := h j
  unfold DS.load; split
  · simp
  · omega

/-- The code's disk (block g) and supply (pg), the document's (y, q): they hold the same. -/
structure Bth (w : World) (g pg y q : Nat) (S : DS) (p : PS) (F R : Nat → Prop) (k : Nat) : Prop where
  d : DD w g (.pointer (some ⟨pg, 0, none⟩)) S (some p) F (fun x => x = pg)
  r : RD w y q S R
  s : Rw w q (ref p)
  ok : okAt p k
  fr : ∀ x, F x → ¬ R x
  fq : ¬ F q
  rq : ¬ R q
  rp : ¬ R pg
  pq : pg ≠ q
  wt : ∀ j, (S.wt j).length ≤ k
/-- What they hold, all of it. -/
def Foot (pg q : Nat) (F R : Nat → Prop) : Nat → Prop := fun x => F x ∨ R x ∨ x = pg ∨ x = q
theorem Bth.lt {w : World} {g pg y q k : Nat} {S : DS} {p : PS} {F R : Nat → Prop} (h : Bth w g pg y q S p F R k) : ∀ x, Foot pg q F R x → x < w.heap.size := by
  rintro x (hx | hx | rfl | rfl)
  · exact h.d.d.lt x hx
  · exact h.r.lt x hx
  · exact h.d.gl x rfl
  · exact h.s.lt
theorem Bth.step {w w' : World} {g pg y q k : Nat} {S : DS} {p : PS} {F R B : Nat → Prop} (h : Bth w g pg y q S p F R k) (s : Stp B w w') (hB : ∀ x, Foot pg q F R x → ¬ B x) : Bth w' g pg y q S p F R k :=
  ⟨h.d.step s (fun x hx => hB x (.inl hx)) (fun x hx => hB x (.inr (.inr (.inl hx)))), h.r.step s (fun x hx => hB x (.inr (.inl hx))), h.s.stp s (hB q (.inr (.inr (.inr rfl)))), h.ok, h.fr, h.fq, h.rq, h.rp, h.pq, h.wt⟩
theorem Bth.pw {w : World} {g pg y q k : Nat} {S : DS} {p : PS} {F R : Nat → Prop} (h : Bth w g pg y q S p F R k) : Pw w pg p := by
  obtain ⟨gp, e, h1, h2⟩ := h.d.s
  subst h2; exact h1
/-- The document's side behind the code's call. -/
theorem Bth.mid {w w1 : World} {g pg y q k : Nat} {S : DS} {p : PS} {F R : Nat → Prop} (h : Bth w g pg y q S p F R k) (k1 : Stp (fun x => F x ∨ x = pg) w w1) : RD w1 y q S R ∧ Rw w1 q (ref p) :=
  ⟨h.r.step k1 (fun x hx e => e.elim (fun e => h.fr x e hx) (fun e => h.rp (e ▸ hx))), h.s.stp k1 (fun e => e.elim h.fq (fun e => h.pq e.symm))⟩
/-- Behind both. -/
theorem Bth.both {w w1 w2 : World} {g pg y q k : Nat} {S S1 : DS} {p p1 : PS} {F F1 R R1 : Nat → Prop} (h : Bth w g pg y q S p F R k)
    (d1 : DD w1 g (.pointer (some ⟨pg, 0, none⟩)) S1 (some p1) F1 (fun x => x = pg)) (k1 : Stp (fun x => F x ∨ x = pg) w w1) (g1 : Grew F F1 w w1)
    (r2 : RD w2 y q S1 R1) (s2 : Rw w2 q (ref p1)) (k2 : Stp (fun x => R x ∨ x = q) w1 w2) (g2 : Grew R R1 w1 w2) (ok1 : okAt p1 (k + 1)) (wt1 : ∀ j, (S1.wt j).length ≤ k + 1) :
    Bth w2 g pg y q S1 p1 F1 R1 (k + 1) ∧ Stp (Foot pg q F R) w w2 ∧ Grew (Foot pg q F R) (Foot pg q F1 R1) w w2 := by
  have z1 := k1.size
  have z2 := k2.size
  have hq := h.s.lt
  have hp : pg < w.heap.size := h.d.gl pg rfl
  have fF1 : ∀ x, F1 x → ¬ (R x ∨ x = q) := fun x hx e => by
    rcases g1 x hx with a | ⟨a, a'⟩ <;> rcases e with e | e
    · exact h.fr x a e
    · exact h.fq (e ▸ a)
    · have := h.r.lt x e; omega
    · omega
  refine ⟨⟨d1.step k2 fF1 (fun x hx e => ?_), r2, s2, ok1, fun x hx hr => ?_, fun hx => fF1 q hx (.inr rfl), fun hr => ?_, fun hr => ?_, h.pq, wt1⟩, ?_, ?_⟩
  · rcases e with e | e
    · exact h.rp (hx ▸ e)
    · exact h.pq (hx ▸ e)
  · have := d1.d.lt x hx
    rcases g2 x hr with a | ⟨a, _⟩
    · exact fF1 x hx (.inl a)
    · omega
  · rcases g2 q hr with a | ⟨a, _⟩
    · exact h.rq a
    · omega
  · rcases g2 pg hr with a | ⟨a, _⟩
    · exact h.rp a
    · omega
  · refine Stp.next (Stp.mono k1 (fun x hx => .inl ?_)) k2 (fun x hx => .inl ?_)
    · exact hx.elim .inl (fun e => .inr (.inr (.inl e)))
    · exact hx.elim (fun e => .inr (.inl e)) (fun e => .inr (.inr (.inr e)))
  · rintro x (hx | hx | hx | hx)
    · rcases g1 x hx with a | ⟨a, a'⟩
      · exact .inl (.inl a)
      · exact .inr ⟨a, by omega⟩
    · rcases g2 x hx with a | ⟨a, a'⟩
      · exact .inl (.inr (.inl a))
      · exact .inr ⟨by omega, a'⟩
    · exact .inl (.inr (.inr (.inl hx)))
    · exact .inl (.inr (.inr (.inr hx)))
end Go.Proofs.Ytecedklfdmbnpaa
