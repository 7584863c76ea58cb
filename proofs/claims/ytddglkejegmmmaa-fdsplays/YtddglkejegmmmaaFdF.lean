/-
  The document's table of layer 24 in memory, and what its New, Get, Seek and Close return: no statement is proved here.
-/
import Derived.Test.YtddglkejegmmmaaFdC
namespace Go.Proofs.Ytddglkejegmmmaa
open Go.ChangeShapes Go.WideShapes Go.ChangeAt Go.RowKit
set_option linter.unusedVariables false
set_option linter.unusedSimpArgs false

theorem mapR_three (F : Nat → Value) {n o : Nat} (h : o + 3 ≤ n) (a b c : Value) : ((List.range n).map F).take o ++ [a, b, c] ++ ((List.range n).map F).drop (o + 3) = (List.range n).map (fun j => if j = o then a else if j = o + 1 then b else if j = o + 2 then c else F j) := by
  apply List.ext_getElem?
  intro i
  have hl : (((List.range n).map F).take o).length = o := by simp; omega
  by_cases h1 : i < o
  · rw [List.append_assoc, List.getElem?_append_left (by omega), List.getElem?_take, if_pos h1, mapR_get F (by omega), mapR_get _ (by omega), if_neg (by omega), if_neg (by omega), if_neg (by omega)]
  · by_cases h2 : i < o + 3
    · rw [List.append_assoc, List.getElem?_append_right (by omega), hl, List.getElem?_append_left (by simp; omega), mapR_get _ (by omega)]
      obtain rfl | rfl | rfl : i = o ∨ i = o + 1 ∨ i = o + 2 := by omega
      · simp
      · simp
      · simp
    · rw [List.getElem?_append_right (by simp; omega)]
      have hl2 : (((List.range n).map F).take o ++ [a, b, c]).length = o + 3 := by simp; omega
      rw [hl2, List.getElem?_drop]
      by_cases h3 : i < n
      · rw [mapR_get F (by omega), mapR_get _ h3, if_neg (by omega), if_neg (by omega), if_neg (by omega)]
        congr 2; omega
      · rw [List.getElem?_eq_none (by simp; omega), List.getElem?_eq_none (by simp; omega)]
theorem Rfn.three {w : World} {g n : Nat} {F : Nat → Value} (h : Rfn w g n F) (o : Nat) (f : Fl) (ho : o + 3 ≤ n) : Rfn (w.setCells g o f.cs) g n (fun j => if j = o then .int .i64 f.i else if j = o + 1 then .int .i64 f.p else if j = o + 2 then .int .i64 f.m else F j) := by
  have := Cs.setCells h o f.cs (by simp [Fl.cs]; omega) f.cs_one
  have e : f.cs.length = 3 := rfl
  rw [e] at this
  unfold Rfn
  rw [← mapR_three F ho]
  exact this
/-- The document's table in block y. -/
def Rd (w : World) (y : Nat) (t : FT) : Prop := ∃ F, Rfn w y 32 F ∧ (∀ i, i < 8 → F i = .bool (t i).isSome) ∧ ∀ i f, i < 8 → t i = some f → F (8 + i * 3) = .int .i64 f.i ∧ F (8 + i * 3 + 1) = .int .i64 f.p ∧ F (8 + i * 3 + 2) = .int .i64 f.m
section
variable {w w' : World} {y : Nat} {t : FT} {U : Nat → Prop}
theorem Rd.lt (h : Rd w y t) : y < w.heap.size := by obtain ⟨F, h, _⟩ := h; exact h.lt
theorem Rd.step (h : Rd w y t) (k : Stp U w w') (hy : ¬ U y) : Rd w' y t := by obtain ⟨F, h1, h2, h3⟩ := h; exact ⟨F, h1.step k hy, h2, h3⟩
theorem Rd.later (h : Rd w y t) (k : Below w.heap.size w w') : Rd w' y t := h.step (Stp.of_below k (fun _ => False)) id
theorem Rd.in (h : Rd w y t) {i : Nat} (hi : i < 8) : w.cell? ⟨y, i, none⟩ = some (.bool (t i).isSome) := by obtain ⟨F, h1, h2, h3⟩ := h; rw [h1.cell (by omega), h2 i hi]
theorem Rd.fz (h : Rd w y t) (i : Nat) : w.frozen? ⟨y, i, none⟩ = false := by obtain ⟨F, h1, h2, h3⟩ := h; exact h1.fz i
theorem Rd.c0 (h : Rd w y t) {i : Nat} {f : Fl} (hi : i < 8) (ht : t i = some f) : w.cell? ⟨y, 8 + i * 3, none⟩ = some (.int .i64 f.i) := by obtain ⟨F, h1, h2, h3⟩ := h; rw [h1.cell (by omega), (h3 i f hi ht).1]
theorem Rd.c1 (h : Rd w y t) {i : Nat} {f : Fl} (hi : i < 8) (ht : t i = some f) : w.cell? ⟨y, 8 + i * 3 + 1, none⟩ = some (.int .i64 f.p) := by obtain ⟨F, h1, h2, h3⟩ := h; rw [h1.cell (by omega), (h3 i f hi ht).2.1]
theorem Rd.c2 (h : Rd w y t) {i : Nat} {f : Fl} (hi : i < 8) (ht : t i = some f) : w.cell? ⟨y, 8 + i * 3 + 2, none⟩ = some (.int .i64 f.m) := by obtain ⟨F, h1, h2, h3⟩ := h; rw [h1.cell (by omega), (h3 i f hi ht).2.2]
theorem Rd.range (h : Rd w y t) {i : Nat} {f : Fl} (hi : i < 8) (ht : t i = some f) : w.rangeAt y (8 + i * 3) f.cs := fun j v hv => by
  unfold Fl.cs at hv
  match j, hv with
  | 0, hv => simp at hv; subst hv; exact h.c0 hi ht
  | 1, hv => simp at hv; subst hv; exact h.c1 hi ht
  | 2, hv => simp at hv; subst hv; exact h.c2 hi ht
  | j + 3, hv => simp at hv
/-- A place is freed. -/
theorem Rd.free (h : Rd w y t) {i : Nat} (hi : i < 8) : Rd (w.setCell ⟨y, i, none⟩ (.bool false)) y (fdUp t i none) := by
  obtain ⟨F, h1, h2, h3⟩ := h
  refine ⟨_, h1.set i _ rfl, fun j hj => ?_, fun j f hj ht => ?_⟩
  · unfold fdUp
    by_cases e : j = i
    · simp [e]
    · simp [e, h2 j hj]
  · unfold fdUp at ht
    by_cases e : j = i
    · rw [if_pos e] at ht; cases ht
    · rw [if_neg e] at ht
      rw [if_neg (by omega), if_neg (by omega), if_neg (by omega)]
      exact h3 j f hj ht
/-- One is elsewhere in a file. -/
theorem Rd.pos (h : Rd w y t) {i : Nat} {f : Fl} (hi : i < 8) (ht : t i = some f) (p : Int) : Rd (w.setCell ⟨y, 8 + i * 3 + 1, none⟩ (.int .i64 p)) y (fdUp t i (some ⟨f.i, p, f.m⟩)) := by
  obtain ⟨F, h1, h2, h3⟩ := h
  refine ⟨_, h1.set _ _ rfl, fun j hj => ?_, fun j f' hj ht' => ?_⟩
  · rw [if_neg (by omega), h2 j hj]
    unfold fdUp
    by_cases e : j = i
    · subst e; simp [ht]
    · simp [e]
  · unfold fdUp at ht'
    by_cases e : j = i
    · subst e
      rw [if_pos rfl] at ht'
      injection ht' with ht'; subst ht'
      obtain ⟨a1, a2, a3⟩ := h3 j f hj ht
      rw [if_neg (by omega), if_pos rfl, if_neg (by omega)]
      exact ⟨a1, rfl, a3⟩
    · rw [if_neg e] at ht'
      rw [if_neg (by omega), if_neg (by omega), if_neg (by omega)]
      exact h3 j f' hj ht'
/-- A place has a file. -/
theorem Rd.put (h : Rd w y t) {i : Nat} (hi : i < 8) (f : Fl) : Rd ((w.setCell ⟨y, i, none⟩ (.bool true)).setCells y (8 + i * 3) f.cs) y (fdUp t i (some f)) ∧ Rd ((w.setCells y (8 + i * 3) f.cs).setCell ⟨y, i, none⟩ (.bool true)) y (fdUp t i (some f)) := by
  obtain ⟨F, h1, h2, h3⟩ := h
  constructor
  · refine ⟨_, (h1.set i _ rfl).three (8 + i * 3) f (by omega), fun j hj => ?_, fun j f' hj ht' => ?_⟩
    · rw [if_neg (by omega), if_neg (by omega), if_neg (by omega)]
      unfold fdUp
      by_cases e : j = i
      · simp [e]
      · simp [e, h2 j hj]
    · unfold fdUp at ht'
      by_cases e : j = i
      · subst e
        rw [if_pos rfl] at ht'
        injection ht' with ht'; subst ht'
        refine ⟨by rw [if_pos rfl], by rw [if_neg (by omega), if_pos rfl], by rw [if_neg (by omega), if_neg (by omega), if_pos rfl]⟩
      · rw [if_neg e] at ht'
        obtain ⟨a1, a2, a3⟩ := h3 j f' hj ht'
        refine ⟨?_, ?_, ?_⟩
        · rw [if_neg (by omega), if_neg (by omega), if_neg (by omega), if_neg (by omega)]; exact a1
        · rw [if_neg (by omega), if_neg (by omega), if_neg (by omega), if_neg (by omega)]; exact a2
        · rw [if_neg (by omega), if_neg (by omega), if_neg (by omega), if_neg (by omega)]; exact a3
  · refine ⟨_, (h1.three (8 + i * 3) f (by omega)).set i _ rfl, fun j hj => ?_, fun j f' hj ht' => ?_⟩
    · unfold fdUp
      by_cases e : j = i
      · simp [e]
      · rw [if_neg e, if_neg (by omega), if_neg (by omega), if_neg (by omega), h2 j hj, if_neg e]
    · unfold fdUp at ht'
      by_cases e : j = i
      · subst e
        rw [if_pos rfl] at ht'
        injection ht' with ht'; subst ht'
        refine ⟨by rw [if_neg (by omega), if_pos rfl], by rw [if_neg (by omega), if_neg (by omega), if_pos rfl], by rw [if_neg (by omega), if_neg (by omega), if_neg (by omega), if_pos rfl]⟩
      · rw [if_neg e] at ht'
        obtain ⟨a1, a2, a3⟩ := h3 j f' hj ht'
        refine ⟨?_, ?_, ?_⟩
        · rw [if_neg (by omega), if_neg (by omega), if_neg (by omega), if_neg (by omega)]; exact a1
        · rw [if_neg (by omega), if_neg (by omega), if_neg (by omega), if_neg (by omega)]; exact a2
        · rw [if_neg (by omega), if_neg (by omega), if_neg (by omega), if_neg (by omega)]; exact a3
end
/-- The noughts of a document's table. -/
def rdZ : List Value := List.replicate 8 (Value.bool false) ++ List.replicate 24 (Value.int .i64 0)
theorem Rd.made (w : World) (T : TypeId) : Rd (w.alloc (.cells rdZ.toArray T)) w.heap.size fdNew := by
  refine ⟨fun i => if i < 8 then .bool false else .int .i64 0, ?_, fun i hi => by simp [hi, fdNew], fun i f _ h => by cases h⟩
  have : (List.range 32).map (fun i => if i < 8 then Value.bool false else .int .i64 0) = rdZ := rfl
  unfold Rfn
  rw [this]
  exact Cs.made w _ T (fun v hv => by unfold rdZ at hv; rcases List.mem_append.1 hv with h | h <;> (rw [(List.mem_replicate.1 h).2]; rfl))
theorem rfnew_any (w : World) :
    Calls Try.prog 7 #[] w fun e w' => ∃ y, e = .returned (.pointer (some ⟨y, 0, none⟩)) ∧ w.heap.size ≤ y ∧ Below w.heap.size w w' ∧ Rd w' y fdNew := by
  have hz : ∀ u : World, (Instr.build 56 #[]).run Try.prog u = .ok (.agg rdZ.toArray) u := fun u => by kernel_rfl
  go_enter Try.func7, Try.ntmps7
  go_wp2
  go_returns
  exact ⟨_, rfl, Nat.le_refl _, by go_grown, Rd.made w _⟩
theorem srtRl : Srt 37 3 Fl.zero.cs :=
  ⟨⟨_, Try.underlying37, rfl⟩, by kernel_rfl, fun w => (zero_of_info (v := .agg Fl.zero.cs.toArray) (n := 3) (by kernel_rfl)).1 w, rfl, Fl.zero.cs_one⟩
section
variable {ops : Array Oper} {rest : List Oper} {o : Oper} {a : Act} {w : World} {Q : Exit → Act → World → Prop}
theorem at_newRl (hw : Region.wanted o (yielded ops a.tmps) = true) (ho : o.op = .alloc 37)
    (h : ∀ g w', w.heap.size ≤ g → g < w'.heap.size → Cs w' g Fl.zero.cs → Below w.heap.size w w' → wpList Try.prog ops Q rest (a.put o.dst (.pointer (some ⟨g, 0, none⟩))) w') : wpList Try.prog ops Q (o :: rest) a w :=
  at_newC 37 3 _ srtRl hw ho h
theorem at_getRl (hw : Region.wanted o (yielded ops a.tmps) = true) (y : Operand) (ho : o.op = .load 37 y) (g : Nat) (hx : a.eval y = .pointer (some ⟨g, 0, none⟩)) (f : Fl) (hR : Cs w g f.cs)
    (h : wpList Try.prog ops Q rest (a.put o.dst (.agg f.cs.toArray)) w) : wpList Try.prog ops Q (o :: rest) a w :=
  at_getC 37 3 _ srtRl hw y ho g hx f.cs hR rfl h
theorem at_putRl (hw : Region.wanted o (yielded ops a.tmps) = true) (y z : Operand) (ho : o.op = .store 37 y z) (g : Nat) (hx : a.eval y = .pointer (some ⟨g, 0, none⟩)) (f : Fl) (hy : a.eval z = .agg f.cs.toArray) (cs : List Value) (hR : Cs w g cs) (hl : cs.length = 3)
    (h : ∀ w', Cs w' g f.cs → Stp (fun x => x = g) w w' → wpList Try.prog ops Q rest (a.put o.dst undef) w') : wpList Try.prog ops Q (o :: rest) a w :=
  at_putC 37 3 _ srtRl hw y z ho g hx f.cs hy rfl f.cs_one cs hR hl h
/-- A file out of the midst of the document's table. -/
theorem at_ldRl (hw : Region.wanted o (yielded ops a.tmps) = true) (x : Operand) (ho : o.op = .load 37 x) (y i : Nat) (hx : a.eval x = .pointer (some ⟨y, 8 + i * 3, none⟩)) (f : Fl) (hr : w.rangeAt y (8 + i * 3) f.cs)
    (h : wpList Try.prog ops Q rest (a.put o.dst (.agg f.cs.toArray)) w) : wpList Try.prog ops Q (o :: rest) a w := by
  refine op_val hw _ _ ?_ h
  obtain ⟨d, h1, h2⟩ := srtRl.und
  have : (loadVar 37 ⟨y, 8 + i * 3, none⟩).run Try.prog w = .ok (.agg f.cs.toArray) w := run_loadVar_mid w y _ _ f.cs _ hr h1 h2 (by rw [srtRl.size]; simp [Fl.cs])
  simp [execOp, ho, hx, Instr.loadAt, Instr.sureAddr, this]
end
theorem rfget_any {w : World} {y : Nat} {t : FT} (h : Rd w y t) (x : Int) :
    Calls Try.prog 17 #[.pointer (some ⟨y, 0, none⟩), .int .i64 x] w fun e w' => e = .returned (.tuple #[.agg (fdGet t x).cs.toArray, .int .i64 (fdGetE t x)]) ∧ Below w.heap.size w w' := by
  cases hh : fdHas t x with
  | none =>
    have e1 : fdGet t x = Fl.zero := by unfold fdGet; rw [hh]; rfl
    have e2 : fdGetE t x = 46 := by unfold fdGetE; rw [hh]; rfl
    rw [e1, e2]
    clear e1 e2
    by_cases h1 : x < 0
    · go_enter Try.func17, Try.ntmps17
      go_wp2_with (first
        | (refine at_newRl (by rfl) (by rfl) ?_; intro g1 w1 a1 a2 r1 b1)
        | (refine at_putRl (by rfl) _ _ (by rfl) g1 (by rfl) Fl.zero (by rfl) _ r1 rfl ?_; intro w2 r2 s2))
      exact bodyPost_ret (retCt srtRl Try.results17 rfl rfl r2 rfl) rfl ⟨rfl, ((Stp.of_below b1 (fun _ => False)).next s2 (fun x e => .inr (by omega))).below (Nat.le_refl _) (fun _ h => h.elim)⟩
    · by_cases h2 : x > 7
      · have h3 : ¬ x < 0 := h1
        go_enter Try.func17, Try.ntmps17
        go_wp2_with (first
          | (refine at_newRl (by rfl) (by rfl) ?_; intro g1 w1 a1 a2 r1 b1)
          | (refine at_putRl (by rfl) _ _ (by rfl) g1 (by rfl) Fl.zero (by rfl) _ r1 rfl ?_; intro w2 r2 s2))
        exact bodyPost_ret (retCt srtRl Try.results17 rfl rfl r2 rfl) rfl ⟨rfl, ((Stp.of_below b1 (fun _ => False)).next s2 (fun x e => .inr (by omega))).below (Nat.le_refl _) (fun _ h => h.elim)⟩
      · obtain ⟨k, rfl⟩ : ∃ k : Nat, x = (k : Int) := ⟨x.toNat, by omega⟩
        have hk : k < 8 := by omega
        rw [fdHas_in hk] at hh
        have a0 : (0 : Int) ≤ (k : Int) := by omega
        have a1 : (k : Int) < 8 := by omega
        have a2 : ¬ (7 : Int) < (k : Int) := by omega
        have a3 : ¬ (k : Int) < 0 := by omega
        clear h1 h2
        go_enter Try.func17, Try.ntmps17
        go_wp2_with (first
          | (refine at_newRl (by rfl) (by rfl) ?_; intro g1 w1 z1 z2 r1 b1
             have c0 := (h.later b1).in hk
             rw [hh] at c0
             simp only [Option.isSome_none] at c0)
          | (refine at_putRl (by rfl) _ _ (by rfl) g1 (by rfl) Fl.zero (by rfl) _ r1 rfl ?_; intro w2 r2 s2))
        exact bodyPost_ret (retCt srtRl Try.results17 rfl rfl r2 rfl) rfl ⟨rfl, ((Stp.of_below b1 (fun _ => False)).next s2 (fun x e => .inr (by omega))).below (Nat.le_refl _) (fun _ h => h.elim)⟩
  | some f =>
    obtain ⟨k, hk, rfl⟩ : ∃ k : Nat, k < 8 ∧ x = (k : Int) := by
      unfold fdHas at hh
      split at hh
      · exact ⟨x.toNat, by omega, by omega⟩
      · cases hh
    have e1 : fdGet t (k : Int) = f := by unfold fdGet; rw [hh]; rfl
    have e2 : fdGetE t (k : Int) = 0 := by unfold fdGetE; rw [hh]; rfl
    rw [e1, e2]
    rw [fdHas_in hk] at hh
    have a0 : (0 : Int) ≤ (k : Int) := by omega
    have a1 : (k : Int) < 8 := by omega
    have a2 : ¬ (7 : Int) < (k : Int) := by omega
    have a3 : ¬ (k : Int) < 0 := by omega
    clear e1 e2
    go_enter Try.func17, Try.ntmps17
    go_wp2_with (first
      | (refine at_newRl (by rfl) (by rfl) ?_; intro g1 w1 z1 z2 r1 b1
         have c0 := (h.later b1).in hk
         have cr := (h.later b1).range hk hh
         rw [hh] at c0
         simp only [Option.isSome_some] at c0)
      | (refine at_ldRl (by rfl) _ (by rfl) y k (by rfl) f cr ?_)
      | (refine at_putRl (by rfl) _ _ (by rfl) g1 (by rfl) f (by rfl) _ r1 rfl ?_; intro w2 r2 s2))
    exact bodyPost_ret (retCt srtRl Try.results17 rfl rfl r2 rfl) rfl ⟨rfl, ((Stp.of_below b1 (fun _ => False)).next s2 (fun x e => .inr (by omega))).below (Nat.le_refl _) (fun _ h => h.elim)⟩
end Go.Proofs.Ytddglkejegmmmaa
