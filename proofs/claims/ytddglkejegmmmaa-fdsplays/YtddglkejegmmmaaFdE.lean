/-
  What Copy of layer 24 returns: no statement is proved here.
-/
import Derived.Test.YtddglkejegmmmaaFdD
namespace Go.Proofs.Ytddglkejegmmmaa
open Go.ChangeShapes Go.WideShapes Go.ChangeAt Go.RowKit
set_option linter.unusedVariables false
set_option linter.unusedSimpArgs false

/-- Just those places of t that are listed. -/
def fdRs (t : FT) (l : List Int) : FT := fun j => if (j : Int) ∈ l then t j else none
theorem fdRs_nil (t : FT) : fdRs t [] = fdNew := by funext j; simp [fdRs, fdNew]
theorem fdRs_app (t : FT) (l : List Int) (j : Nat) (f : Fl) (h : t j = some f) : fdRs t (l ++ [(j : Int)]) = fdUp (fdRs t l) j (some f) := by
  funext x
  unfold fdRs fdUp
  by_cases e : x = j
  · subst e; simp [h]
  · simp only [List.mem_append, List.mem_singleton, if_neg e]
    by_cases e2 : (x : Int) ∈ l
    · simp [e2]
    · have : ¬ (x : Int) = (j : Int) := by omega
      simp [e2, this]
theorem fdUs_in (t : FT) : ∀ k j : Nat, j < k → (t j).isSome = true → (j : Int) ∈ fdUs t k
  | 0, j, h, _ => by omega
  | k + 1, j, h, hs => by
    unfold fdUs
    by_cases e : j = k
    · subst e; rw [if_pos hs]; simp
    · exact List.mem_append_left _ (fdUs_in t k j (by omega) hs)
theorem fdRs_us (t : FT) (j : Nat) (hj : j < 8) : fdRs t (fdUs t 8) j = t j := by
  unfold fdRs
  by_cases e : (t j).isSome = true
  · rw [if_pos (fdUs_in t 8 j hj e)]
  · have : t j = none := by cases h : t j with | none => rfl | some f => rw [h] at e; exact absurd rfl e
    rw [this]; split <;> rfl
theorem Fx.congr {w : World} {U : Nat → Prop} {g : Nat} {q : Nat → Nat} {t t' : FT} (h : Fx w U g q t) (e : ∀ i, i < 8 → t i = t' i) : Fx w U g q t' := by
  refine ⟨h.u, h.low, ?_, fun i f hi ht => h.fl i f hi (by rw [e i hi]; exact ht), fun i j hi hj h1 h2 => h.inj i j hi hj (by rw [e i hi]; exact h1) (by rw [e j hj]; exact h2)⟩
  have : (List.range 8).map (pv t' q) = (List.range 8).map (pv t q) := List.map_congr_left (fun i hi => by unfold pv; rw [e i (List.mem_range.1 hi)])
  unfold Rfn
  rw [this]; exact h.row
theorem fcopy_nil (w : World) :
    Calls Try.prog 15 #[.pointer none] w fun e w' => e = .returned (.pointer none) ∧ w = w' := by
  go_enter Try.func15, Try.ntmps15
  go_wp2
  go_returns
  exact ⟨rfl, rfl⟩
/-- What the loop of Copy keeps. -/
structure CpI (w2 : World) (gc : Nat) (t : FT) (l : List Int) (k : Nat) (wr : World) : Prop where
  s : Stp (fun x => x = gc) w2 wr
  f : ∃ Uc, Fd wr Uc gc (fdRs t (l.take k)) ∧ ∀ x, Uc x → x = gc ∨ w2.heap.size ≤ x
theorem fcopy_any {w : World} {U : Nat → Prop} {g : Nat} {t : FT} (h : Fd w U g t) :
    Calls Try.prog 15 #[.pointer (some ⟨g, 0, none⟩)] w fun e w' => ∃ g' U', e = .returned (.pointer (some ⟨g', 0, none⟩)) ∧ Fd w' U' g' t ∧ Below w.heap.size w w' ∧ ∀ x, U' x → w.heap.size ≤ x := by
  have hN := fnew_any w
  have hU := fun w' (b : Below w.heap.size w w') => fused_any (h.later b)
  have hmem := fdUs_mem t 8
  have hln := fdUs_len t 8
  have hend := fdRs_us t
  generalize fdUs t 8 = l at *
  have hlow := h.low
  have hwf : ∀ y ∈ l, wfi y := fun y hy => by
    obtain ⟨j, rfl, hj, _⟩ := hmem y hy
    exact wfi_of (by omega)
  go_enter Try.func15, Try.ntmps15
  go_wp2_with (first
    | (go_at_call 6; refine hN.mono ?_; rintro e w1 ⟨gc, Uc, rfl, g1, b1, F1, L1⟩; clear hN
       have gl1 := F1.low gc F1.u)
    | (go_at_call 21; refine (hU _ b1).mono ?_; rintro e w2 ⟨v, rfl, o2, n2, b2⟩
       obtain ⟨⟨sa, sn, sc⟩, rfl, e2, i2, ie2⟩ := o2.ins hwf n2
       simp only [Sv.v] at e2 ⊢
       subst e2))
  have B2 := bnext b1 b2 (Nat.le_refl _)
  obtain ⟨q, H2⟩ := h.later B2
  obtain ⟨Uc', F2, lo2⟩ : ∃ Uc', Fd w2 Uc' gc fdNew ∧ ∀ x, Uc' x → x = gc ∨ w2.heap.size ≤ x := by
    obtain ⟨q', H⟩ := F1.later b2
    exact ⟨fun x => x = gc, ⟨q', ⟨rfl, fun x e => H.low x (e ▸ F1.u), H.row, (fun i f _ e => by cases e), (fun i j _ _ e _ _ => by cases e)⟩⟩, fun x e => .inl e⟩
  have hs1 := b1.size
  have hs2 := b2.size
  clear hU o2 n2 F1 L1
  go_loopw [13] (fun i wr => ∃ k : Nat, k ≤ l.length ∧ i = .int .i64 (k : Int) ∧ CpI w2 gc t l k wr) (fun i _ => l.length - (intOf i).toNat)
  case atStart => exact ⟨0, Nat.zero_le _, rfl, Stp.refl _ _, Uc', by rw [List.take_zero, fdRs_nil]; exact F2, lo2⟩
  case round =>
    obtain ⟨k, hk, rfl, I⟩ := hrel
    clear F2 lo2
    by_cases hkl : (k : Int) < (l.length : Int)
    · have hkl' : k < l.length := by omega
      obtain ⟨bb, o, hbo, hcs⟩ := i2.i.cell (show 0 < l.length by omega)
      simp only at hbo
      subst hbo
      have hbb := ie2 ⟨bb, o, none⟩ rfl
      have ck := I.s.cell (hcs k hkl') (fun e => by have e : bb = gc := e; have := (hbb (show 0 < l.length by omega)).1; simp only at this; omega)
      obtain ⟨j, hj, hj8, hjs⟩ := hmem (l.getD k 0) (by rw [List.getD_eq_getElem?_getD, List.getElem?_eq_getElem hkl']; exact List.getElem_mem _)
      obtain ⟨f, hf⟩ := Option.isSome_iff_exists.1 hjs
      have ht1 : l.take (k + 1) = l.take k ++ [(j : Int)] := by
        rw [List.take_add_one, List.getElem?_eq_getElem hkl', ← hj, List.getD_eq_getElem?_getD, List.getElem?_eq_getElem hkl']; rfl
      have hR : Hid (fdRs t (l.take (k + 1)) = fdUp (fdRs t (l.take k)) j (some f)) := by
        show _ = _; rw [ht1]; exact fdRs_app t _ j f hf
      rw [hj] at ck
      have hUne : ∀ x, U x → ¬ x = gc := fun x hx e => by have := hlow x hx; omega
      have Hr := H2.step I.s hUne
      have c1 := Hr.at1 hj8 hf
      obtain ⟨u1, u2, u3⟩ := Hr.fl j f hj8 hf
      have a0 : (0 : Int) ≤ (j : Int) := by omega
      have a1 : (j : Int) < 8 := by omega
      have a2 : (0 : Int) ≤ (k : Int) := by omega
      obtain ⟨s, Uc, ⟨qc, Fc⟩, lo⟩ := I
      have hs3 := s.size
      have hlc := Fc.low
      clear ht1 hj hf hjs hcs Hr u1 u2 i2
      go_wp2_with (first
        | (refine at_getFl (by rfl) _ (by rfl) (q j) (by rfl) f u3 ?_)
        | (refine at_newFl (by rfl) (by rfl) ?_; intro b w5 z1 z2 r5 b5)
        | (refine at_putFl (by rfl) _ _ (by rfl) b (by rfl) f (by rfl) _ r5 rfl ?_; intro w6 r6 s6
           have B6 : Below wr.heap.size wr w6 := ((Stp.of_below b5 (fun _ => False)).next s6 (fun x e => .inr (by omega))).below (Nat.le_refl _) (fun _ h => h.elim)
           have F6 := Fc.later B6
           have d1 := F6.row.cell hj8
           have d2 := F6.row.fz j))
      have hb : ¬ Uc b := fun e => by have := hlc b e; omega
      have F7 := F6.put hj8 r6 hb
      go_roundw
      case rel =>
        refine ⟨k + 1, by omega, by go_num, ?_, _, ⟨_, by rw [hR.out]; exact F7⟩, fun x hx => ?_⟩
        · exact (s.next (Stp.of_below B6 (fun _ => False)) (fun x e => e.elim)).setCell (p := ⟨gc, j, none⟩) (.inl rfl) _
        · rcases hx with e | e
          · exact lo x e
          · exact .inr (by omega)
      case measure => simp [intOf]; omega
    · have hk2 : k = l.length := by omega
      subst hk2
      obtain ⟨s, Uc, ⟨qc, Fc⟩, lo⟩ := I
      rw [List.take_length] at Fc
      go_wp2
      go_returns
      refine ⟨gc, rfl, Uc, ⟨qc, Fc.congr hend⟩, ((Stp.of_below B2 (fun x => x = gc)).trans s).below (Nat.le_refl _) (fun x e => by omega), fun x hx => ?_⟩
      rcases lo x hx with e | e <;> omega
end Go.Proofs.Ytddglkejegmmmaa
