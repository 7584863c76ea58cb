/-
  What scupperbase.Ints returns: a copy: no statement is proved here.
-/
import Derived.Test.YtdjkdkekcjmokaaRfK
namespace Go.Proofs.Ytdjkdkekcjmokaa
open Go.ChangeShapes Go.WideShapes Go.ChangeAt Go.RowKit
set_option linter.unusedVariables false

theorem infoI : (Try.prog.info? 3).map (fun i => (i.zero, i.size, i.bytes)) = some (some (.int .i64 0), 1, 8) := by kernel_rfl
theorem buildI (u : World) : (Instr.buildSlice 37 0 #[]).run Try.prog u = .ok (.slice (some ⟨u.heap.size, 0, none⟩) 0 0) (u.alloc (.cells #[] 3)) := by
  obtain ⟨ie, hie, hz, hs, hb⟩ := info_parts infoI
  simp [Instr.buildSlice, run_underlying (show Try.prog.underlying 37 = some (.slice 3) by kernel_rfl), sizeOf, typeInfo, hie, Instr.fill, newRow]
  rw [show Array.range 0 = #[] from rfl]
  simp
theorem ownI (u : World) : (u.alloc (.cells #[] 3)).ownsRow 0 3 1 (.slice (some ⟨u.heap.size, 0, none⟩) 0 0) 0 [] :=
  ⟨rfl, .inr ⟨_, 0, #[], rfl, Nat.zero_le _, heap_alloc_new u _, Nat.le_refl _, by decide, by simp, by simp⟩⟩
theorem own_ins {w : World} {v : Value} {n : Nat} {l : List Int} (h : w.ownsRow 0 3 1 v n (l.map (Value.int .i64))) (hw : ∀ x ∈ l, (Lit.int .i64 x).wf = true) : ∃ a c, v = .slice a n c ∧ Ins w a n c l ∧ (0 < n → a.map (·.block) = v.ownBlock) := by
  obtain ⟨h1, h2⟩ := h
  have hlen : l.length = n := by simpa using h1
  rcases h2 with ⟨rfl, rfl⟩ | ⟨g, cap, cur, rfl, hb, hg, hle, hm, hs, ht⟩
  · exact ⟨none, 0, rfl, ⟨hlen, Nat.le_refl _, by decide, hw, fun h => absurd h (by omega)⟩, fun h => absurd h (by omega)⟩
  · refine ⟨_, cap, rfl, ⟨hlen, hle, hm, hw, fun hn => ⟨g, 0, rfl, fun i hi => ?_⟩⟩, fun _ => rfl⟩
    rw [Nat.zero_add, cell_of_row w g i cur _ (0, 0) hg]
    have e1 : (cur.toList.take (n * 1))[i]? = (l.map (Value.int .i64))[i]? := by rw [ht]
    rw [List.getElem?_take, if_pos (by omega)] at e1
    rw [← Array.getElem?_toList, e1, List.getElem?_map, List.getElem?_eq_getElem (by omega)]
    simp [List.getD_eq_getElem?_getD, List.getElem?_eq_getElem (show i < l.length by omega)]
theorem ints_any (a : Option Addr) (n c : Nat) (l : List Int) (w : World) (h : Ins w a n c l) (hnil : a = none → c = 0) (hb : n * 8 ≤ 140737488355328) :
    Calls Try.prog 23 #[.slice a n c] w fun e w' => ∃ a' c', e = .returned (.slice a' n c') ∧ Ins w' a' n c' l ∧ Below w.heap.size w w' ∧ ∀ x : Addr, 0 < n → a' = some x → w.heap.size ≤ x.block := by
  obtain ⟨ie, hie, hiz, hisz, hiby⟩ := info_parts infoI
  have hlen := h.len
  have b0 := buildI
  have uS : Try.prog.underlying 37 = some (.slice 3) := by kernel_rfl
  have kA : Below w.heap.size w (w.alloc (.cells #[] 3)) := (Below.refl _ w).alloc (Nat.le_refl _) _
  cases a with
  | none =>
    have hc := hnil rfl
    subst hc
    have hle := h.le
    obtain rfl : n = 0 := by omega
    obtain rfl : l = [] := List.eq_nil_of_length_eq_zero hlen
    go_enter Try.func23, Try.ntmps23
    go_wp2_with (first
      | (at_builtin; refine wpList_append_own_none rfl _ _ 37 rfl 0 3 ie 1 uS hie (.slice (some ⟨w.heap.size, 0, none⟩) 0 0) 0 [] (by rfl) (ownI w) (by rfl) ?_))
    go_returns
    refine ⟨_, _, rfl, ⟨rfl, Nat.le_refl _, by decide, (fun _ h => by cases h), fun h => absurd h (by omega)⟩, ?_⟩
    first | exact kA | exact ⟨kA, fun x h => absurd h (by omega)⟩
  | some x =>
    have hN : ∀ j u, (l.map (Value.int .i64))[j]? = some u → (w.alloc (.cells #[] 3)).cell? (x.add j) = some u := fun j u hj => by
      have hjl : j < l.length := by have := (List.getElem?_eq_some_iff.1 hj).1; simpa using this
      obtain ⟨bb, o, e, hc⟩ := h.cell (by omega)
      injection e with e; subst e
      have hcj := hc j (by omega)
      rw [Addr.add_lit, World.cell?_of_block (Below.heap_alloc w _ bb (World.block_lt_of_cell? w ⟨bb, o + j, none⟩ hcj)), hcj, ← hj, List.getElem?_map, List.getElem?_eq_getElem hjl]
      simp [List.getD_eq_getElem?_getD, List.getElem?_eq_getElem hjl]
    have h1 : ∀ u ∈ l.map (Value.int .i64), u.oneCell' = true := by intro u hu; obtain ⟨y, _, rfl⟩ := List.mem_map.1 hu; rfl
    have hcap := h.cap
    have hle := h.le
    go_enter Try.func23, Try.ntmps23
    go_wp2_with (first
      | (at_builtin; refine wpList_append_own_at _ rfl _ _ 37 rfl 0 3 ie _ 1 8 uS hie hiz hisz hiby (by rfl) (by omega) (.slice (some ⟨w.heap.size, 0, none⟩) 0 0) 0 [] (by rfl) (ownI w) x n c (l.map (Value.int .i64)) (by rfl) (by simp [hlen]) hN h1 (by omega) (by omega) (Nat.zero_le _) ?_; intro v w1 o1 g1 _ at1))
    simp only [Nat.zero_add, List.nil_append] at o1
    obtain ⟨a', c', rfl, hI, hbk⟩ := own_ins o1 h.wf
    have bel : Below w.heap.size w w1 := ((Stp.of_below kA (fun x => w.heap.size ≤ x)).trans (Stp.of_grown g1 (fun y hy => .inl (by simp [Value.ownBlock] at hy; omega)))).below (Nat.le_refl _) (fun y hy => hy)
    go_returns
    refine ⟨a', c', rfl, hI, bel, fun y h0 e => ?_⟩
    have := hbk h0
    subst e
    rcases at1 with e1 | e1
    · rw [e1] at this; simp [Value.ownBlock] at this; omega
    · rw [e1] at this; simp at this; omega
end Go.Proofs.Ytdjkdkekcjmokaa
