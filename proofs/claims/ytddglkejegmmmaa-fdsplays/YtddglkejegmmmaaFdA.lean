/-
  A table of open files in memory, the code's and the document's: no statement is proved here.
-/
import Derived.Test.YtddglkejegmmmaaFdM
namespace Go.Proofs.Ytddglkejegmmmaa
open Go.ChangeShapes Go.WideShapes Go.ChangeAt Go.RowKit
set_option linter.unusedVariables false
set_option linter.unusedSimpArgs false

theorem mapR_set (F : Nat → Value) (n i : Nat) (v : Value) : ((List.range n).map F).set i v = (List.range n).map (fun j => if j = i then v else F j) := by
  apply List.ext_getElem
  · simp
  · intro j h1 h2
    simp only [List.length_set, List.length_map, List.length_range] at h1
    rw [List.getElem_set]
    simp only [List.getElem_map, List.getElem_range]
    by_cases e : i = j
    · subst e; simp
    · rw [if_neg e, if_neg (fun h => e h.symm)]
theorem mapR_get (F : Nat → Value) {n i : Nat} (h : i < n) : ((List.range n).map F)[i]? = some (F i) := by
  rw [List.getElem?_map, List.getElem?_range h]; rfl
/-- Block g is a row of n cells, F by places. -/
def Rfn (w : World) (g n : Nat) (F : Nat → Value) : Prop := Cs w g ((List.range n).map F)
section
variable {w w' : World} {g n : Nat} {F : Nat → Value} {U : Nat → Prop}
theorem Rfn.cell (h : Rfn w g n F) {i : Nat} (hi : i < n) : w.cell? ⟨g, i, none⟩ = some (F i) := Cs.cell h i _ (mapR_get F hi)
theorem Rfn.fz (h : Rfn w g n F) (i : Nat) : w.frozen? ⟨g, i, none⟩ = false := Cs.frozen h i
theorem Rfn.lt (h : Rfn w g n F) : g < w.heap.size := Cs.lt h
theorem Rfn.step (h : Rfn w g n F) (k : Stp U w w') (hg : ¬ U g) : Rfn w' g n F := Cs.step h k hg
theorem Rfn.set (h : Rfn w g n F) (i : Nat) (v : Value) (hv : v.oneCell' = true) : Rfn (w.setCell ⟨g, i, none⟩ v) g n (fun j => if j = i then v else F j) := by
  have := Cs.set h i v hv
  rw [mapR_set] at this
  exact this
end
/-- The pointer at place i. -/
def pv (t : FT) (q : Nat → Nat) (i : Nat) : Value := .pointer ((t i).map fun _ => ⟨q i, 0, none⟩)
theorem pv_none {t : FT} {q : Nat → Nat} {i : Nat} (h : t i = none) : pv t q i = .pointer none := by unfold pv; rw [h]; rfl
theorem pv_some {t : FT} {q : Nat → Nat} {i : Nat} {f : Fl} (h : t i = some f) : pv t q i = .pointer (some ⟨q i, 0, none⟩) := by unfold pv; rw [h]; rfl
theorem pv_one (t : FT) (q : Nat → Nat) (i : Nat) : (pv t q i).oneCell' = true := rfl
theorem pv_up {t : FT} {q : Nat → Nat} {i b : Nat} {f : Fl} : pv (fdUp t i (some f)) (fun j => if j = i then b else q j) = fun j => if j = i then .pointer (some ⟨b, 0, none⟩) else pv t q j := by
  funext j
  unfold pv fdUp
  by_cases e : j = i
  · simp [e]
  · simp [e]
theorem pv_no {t : FT} {q : Nat → Nat} {i : Nat} : pv (fdUp t i none) q = fun j => if j = i then .pointer none else pv t q j := by
  funext j
  unfold pv fdUp
  by_cases e : j = i
  · simp [e]
  · simp [e]
theorem pv_same {t : FT} {q : Nat → Nat} {i : Nat} {f f' : Fl} (h : t i = some f) : pv (fdUp t i (some f')) q = pv t q := by
  funext j
  unfold pv fdUp
  by_cases e : j = i
  · subst e; simp [h]
  · simp [e]
/-- The code's table lies in block g, its files in the blocks q; all of it in U. -/
structure Fx (w : World) (U : Nat → Prop) (g : Nat) (q : Nat → Nat) (t : FT) : Prop where
  u : U g
  low : ∀ x, U x → x < w.heap.size
  row : Rfn w g 8 (pv t q)
  fl : ∀ i f, i < 8 → t i = some f → U (q i) ∧ q i ≠ g ∧ Cs w (q i) f.cs
  inj : ∀ i j, i < 8 → j < 8 → (t i).isSome = true → (t j).isSome = true → q i = q j → i = j
section
variable {w w' : World} {g : Nat} {U F : Nat → Prop} {q : Nat → Nat} {t : FT}
theorem Fx.step (h : Fx w U g q t) (k : Stp F w w') (hF : ∀ x, U x → ¬ F x) : Fx w' U g q t :=
  ⟨h.u, fun x hx => Nat.lt_of_lt_of_le (h.low x hx) k.size, h.row.step k (hF g h.u), fun i f hi ht => by
    obtain ⟨h1, h2, h3⟩ := h.fl i f hi ht
    exact ⟨h1, h2, h3.step k (hF _ h1)⟩, h.inj⟩
theorem Fx.later (h : Fx w U g q t) (k : Below w.heap.size w w') : Fx w' U g q t := h.step (Stp.of_below k (fun _ => False)) (fun _ _ => id)
theorem Fx.at0 (h : Fx w U g q t) {i : Nat} (hi : i < 8) (ht : t i = none) : w.cell? ⟨g, i, none⟩ = some (.pointer none) := by rw [h.row.cell hi, pv_none ht]
theorem Fx.at1 (h : Fx w U g q t) {i : Nat} {f : Fl} (hi : i < 8) (ht : t i = some f) : w.cell? ⟨g, i, none⟩ = some (.pointer (some ⟨q i, 0, none⟩)) := by rw [h.row.cell hi, pv_some ht]
/-- A file is laid at a place. -/
theorem Fx.put (h : Fx w U g q t) {i b : Nat} {f : Fl} (hi : i < 8) (hb : Cs w b f.cs) (hU : ¬ U b) : Fx (w.setCell ⟨g, i, none⟩ (.pointer (some ⟨b, 0, none⟩))) (fun x => U x ∨ x = b) g (fun j => if j = i then b else q j) (fdUp t i (some f)) := by
  have hs : Stp (fun x => x = g) w (w.setCell ⟨g, i, none⟩ (.pointer (some ⟨b, 0, none⟩))) := (Stp.refl (fun x => x = g) w).setCell (p := ⟨g, i, none⟩) (.inl rfl) _
  have hbg : ¬ b = g := fun e => hU (e ▸ h.u)
  refine ⟨.inl h.u, fun x hx => ?_, ?_, fun j f' hj ht => ?_, fun j k hj hk h1 h2 e => ?_⟩
  · have := hs.size
    rcases hx with e | e
    · have := h.low x e; omega
    · have := hb.lt; omega
  · rw [pv_up]; exact h.row.set i _ rfl
  · unfold fdUp at ht
    by_cases e : j = i
    · rw [if_pos e] at ht ⊢
      injection ht with ht; subst ht
      exact ⟨.inr rfl, hbg, hb.step hs hbg⟩
    · rw [if_neg e] at ht ⊢
      obtain ⟨h1, h2, h3⟩ := h.fl j f' hj ht
      exact ⟨.inl h1, h2, h3.step hs h2⟩
  · unfold fdUp at h1 h2
    by_cases e1 : j = i
    · by_cases e2 : k = i
      · omega
      · simp only [e1, if_true, e2, if_false] at e h2
        obtain ⟨f', hf⟩ := Option.isSome_iff_exists.1 h2
        exact absurd (e ▸ (h.fl k f' hk hf).1) hU
    · by_cases e2 : k = i
      · simp only [e2, if_true, e1, if_false] at e h1
        obtain ⟨f', hf⟩ := Option.isSome_iff_exists.1 h1
        exact absurd (e ▸ (h.fl j f' hj hf).1) hU
      · simp only [e1, e2, if_false] at e h1 h2
        exact h.inj j k hj hk h1 h2 e
/-- A place is freed. -/
theorem Fx.free (h : Fx w U g q t) {i : Nat} : Fx (w.setCell ⟨g, i, none⟩ (.pointer none)) U g q (fdUp t i none) := by
  have hs : Stp (fun x => x = g) w (w.setCell ⟨g, i, none⟩ (.pointer none)) := (Stp.refl (fun x => x = g) w).setCell (p := ⟨g, i, none⟩) (.inl rfl) _
  refine ⟨h.u, fun x hx => Nat.lt_of_lt_of_le (h.low x hx) hs.size, ?_, fun j f' hj ht => ?_, fun j k hj hk h1 h2 e => ?_⟩
  · rw [pv_no]; exact h.row.set i _ rfl
  · unfold fdUp at ht
    by_cases e : j = i
    · rw [if_pos e] at ht; cases ht
    · rw [if_neg e] at ht
      obtain ⟨h1, h2, h3⟩ := h.fl j f' hj ht
      exact ⟨h1, h2, h3.step hs h2⟩
  · unfold fdUp at h1 h2
    by_cases e1 : j = i
    · rw [if_pos e1] at h1; cases h1
    · by_cases e2 : k = i
      · rw [if_pos e2] at h2; cases h2
      · rw [if_neg e1] at h1; rw [if_neg e2] at h2
        exact h.inj j k hj hk h1 h2 e
/-- One is elsewhere in a file. -/
theorem Fx.pos (h : Fx w U g q t) {i : Nat} {f : Fl} (hi : i < 8) (ht : t i = some f) (p : Int) : Fx (w.setCell ⟨q i, 1, none⟩ (.int .i64 p)) U g q (fdUp t i (some ⟨f.i, p, f.m⟩)) := by
  obtain ⟨a1, a2, a3⟩ := h.fl i f hi ht
  have hs : Stp (fun x => x = q i) w (w.setCell ⟨q i, 1, none⟩ (.int .i64 p)) := (Stp.refl (fun x => x = q i) w).setCell (p := ⟨q i, 1, none⟩) (.inl rfl) _
  refine ⟨h.u, fun x hx => Nat.lt_of_lt_of_le (h.low x hx) hs.size, ?_, fun j f' hj ht' => ?_, fun j k hj hk h1 h2 e => ?_⟩
  · rw [pv_same ht]; exact h.row.step hs (fun e => a2 e.symm)
  · unfold fdUp at ht'
    by_cases e : j = i
    · rw [if_pos e] at ht'
      injection ht' with ht'; subst ht'; subst e
      exact ⟨a1, a2, a3.set 1 _ rfl⟩
    · rw [if_neg e] at ht'
      obtain ⟨h1, h2, h3⟩ := h.fl j f' hj ht'
      exact ⟨h1, h2, h3.step hs (fun e' => e (h.inj j i hj hi (by rw [ht']; rfl) (by rw [ht]; rfl) e'))⟩
  · have hh : ∀ j, (fdUp t i (some ⟨f.i, p, f.m⟩) j).isSome = true → (t j).isSome = true := fun j h1 => by
      unfold fdUp at h1
      by_cases e1 : j = i
      · subst e1; rw [ht]; rfl
      · rw [if_neg e1] at h1; exact h1
    exact h.inj j k hj hk (hh j h1) (hh k h2) e
end
/-- The code's table. -/
def Fd (w : World) (U : Nat → Prop) (g : Nat) (t : FT) : Prop := ∃ q, Fx w U g q t
section
variable {w w' : World} {g : Nat} {U F : Nat → Prop} {t : FT}
theorem Fd.u (h : Fd w U g t) : U g := by obtain ⟨q, h⟩ := h; exact h.u
theorem Fd.low (h : Fd w U g t) : ∀ x, U x → x < w.heap.size := by obtain ⟨q, h⟩ := h; exact h.low
theorem Fd.step (h : Fd w U g t) (k : Stp F w w') (hF : ∀ x, U x → ¬ F x) : Fd w' U g t := by obtain ⟨q, h⟩ := h; exact ⟨q, h.step k hF⟩
theorem Fd.later (h : Fd w U g t) (k : Below w.heap.size w w') : Fd w' U g t := by obtain ⟨q, h⟩ := h; exact ⟨q, h.later k⟩
theorem Fd.made (w : World) (T : TypeId) : Fd (w.alloc (.cells (List.replicate 8 (Value.pointer none)).toArray T)) (fun x => x = w.heap.size) w.heap.size fdNew := by
  refine ⟨fun _ => 0, ⟨rfl, fun x e => by subst e; simp, ?_, (fun i f _ h => by cases h), (fun i j _ _ h _ _ => by cases h)⟩⟩
  have : (List.range 8).map (pv fdNew (fun _ => 0)) = List.replicate 8 (Value.pointer none) := rfl
  unfold Rfn
  rw [this]
  exact Cs.made w _ T (fun v hv => by rw [(List.mem_replicate.1 hv).2]; rfl)
end
/-- What a call that may have changed it leaves. -/
def FdG (U : Nat → Prop) (g : Nat) (t' : FT) (w w' : World) : Prop := ∃ U', Fd w' U' g t' ∧ Stp U w w' ∧ Grew U U' w w'
end Go.Proofs.Ytddglkejegmmmaa
