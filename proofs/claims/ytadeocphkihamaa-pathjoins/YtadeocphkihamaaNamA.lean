/-
  What isName and Check of layer 12, and the document's Check, return, for every text: no statement is proved here.
-/
import Derived.Test.YtadeocphkihamaaRows
import Derived.Test.YtadeocphkihamaaPlain3
import Derived.Test.YtadeocphkihamaaDirM
import Derived.Laws.RangeAny
import Derived.Laws.IdiomStrings
namespace Go.Proofs.Ytadeocphkihamaa
open Go.ChangeShapes Go.WideShapes Go.ChangeAt Go.RowKit
set_option linter.unusedVariables false

/-- Whether a text is one of two that are no names. -/
theorem beq_no {l : List UInt8} {x : List UInt8} (h : l ≠ x) : (l == x) = false := by simpa using h
set_option maxRecDepth 100000 in
theorem isName_any (l : List UInt8) (w : World) : Calls Try.prog 28 #[.string (str l)] w fun e w' => e = .returned (.bool (nm l)) ∧ Below w.heap.size w w' := by
  have hz := str_size l
  have ht := str_list l
  by_cases h1 : (l.length : Int) < 1
  · rw [nm_hd (fun h => by have := h.1; omega)]
    go_enter Try.func28, Try.ntmps28
    go_wp2
    go_returns
    exact ⟨rfl, Below.refl _ _⟩
  by_cases h2 : 10 < (l.length : Int)
  · rw [nm_hd (fun h => by have := h.2.1; omega)]
    go_enter Try.func28, Try.ntmps28
    go_wp2
    go_returns
    exact ⟨rfl, Below.refl _ _⟩
  by_cases h3 : l = [46]
  · rw [nm_hd (fun h => h.2.2.1 h3)]
    subst h3
    go_enter Try.func28, Try.ntmps28
    go_wp2
    go_returns
    exact ⟨rfl, Below.refl _ _⟩
  by_cases h4 : l = [46, 46]
  · rw [nm_hd (fun h => h.2.2.2 h4)]
    subst h4
    go_enter Try.func28, Try.ntmps28
    go_wp2
    go_returns
    exact ⟨rfl, Below.refl _ _⟩
  have hd : Hid (hdOk l) := ⟨by omega, by omega, h3, h4⟩
  have e3 := beq_no h3
  have e4 := beq_no h4
  clear h3 h4
  obtain ⟨B, hB⟩ : ∃ B, Hid (nm l = B) := ⟨_, rfl⟩
  rw [hB.out]
  go_enter Try.func28, Try.ntmps28
  go_wp2
  go_loopw [] (fun wr => ∃ k : Nat, wr = w.iter (str l) k ∧ k ≤ l.length ∧ ∀ j, j < k → okB (l.getD j 0)) (fun wr => l.length - wr.iterPos w.heap.size)
  case atStart => exact ⟨0, rfl, Nat.zero_le _, fun j hj => absurd hj (by omega)⟩
  case round =>
    obtain ⟨k, rfl, hk, hall⟩ := hrel
    have hbel : Below w.heap.size w (w.iter (str l) k) := (Below.refl _ _).alloc (Nat.le_refl _) _
    by_cases hlt : k < l.length
    · have hlt' : k < (str l).size := by rw [str_size]; exact hlt
      have hget := str_get l k hlt'
      have hA : Hid (∀ j, j < k → okB (l.getD j 0)) := hall
      clear hall
      have hbad : ¬ okB (l.getD k 0) → Hid (nm l = false) := fun h => nm_bad k hlt h
      by_cases ha : (l.getD k 0).toNat < 128
      · have hnx := fun ty => run_next_ascii (P := Try.prog) w (str l) k ty hlt' (by rw [hget]; exact ha)
        rw [hget] at hnx
        have hon : okB (l.getD k 0) → Hid (∀ j, j < k + 1 → okB (l.getD j 0)) := fun h j hj => by
          by_cases hj2 : j < k
          · exact hA.out j hj2
          · obtain rfl : j = k := by omega
            exact h
        have bel2 : Below w.heap.size w (w.iter (str l) (k + 1)) := (Below.refl _ _).alloc (Nat.le_refl _) _
        clear hget
        generalize l.getD k 0 = b at *
        by_cases g1 : (b.toNat : Int) < 33
        · have := hbad (fun h => by have := h.1; omega)
          go_wp2
          go_returns
          exact ⟨by rw [← hB.out, this.out]; rfl, bel2⟩
        by_cases g2 : 126 < (b.toNat : Int)
        · have := hbad (fun h => by have := h.2.1; omega)
          go_wp2
          go_returns
          exact ⟨by rw [← hB.out, this.out]; rfl, bel2⟩
        by_cases g3 : (b.toNat : Int) = 47
        · have := hbad (fun h => by have := h.2.2; omega)
          go_wp2
          go_returns
          exact ⟨by rw [← hB.out, this.out]; rfl, bel2⟩
        have ho := hon ⟨by omega, by omega, by omega⟩
        go_wp2
        go_roundw
        case rel => exact ⟨k + 1, rfl, by omega, ho.out⟩
        case measure => simp; omega
      · have hnx := fun ty => run_next_any (P := Try.prog) w (str l) k ty hlt'
        have hd2 := decode_high (str l) k hlt' (by rw [hget]; omega)
        have := hbad (fun h => by have := h.2.1; omega)
        have bel2 : ∀ j, Below w.heap.size w (w.iter (str l) j) := fun j => (Below.refl _ _).alloc (Nat.le_refl _) _
        generalize Utf8.decode (str l) k = D at *
        obtain ⟨d, m⟩ := D
        simp only at hd2 hnx
        have g1 : ¬ (d : Int) < 33 := by omega
        have g2 : 126 < (d : Int) := by omega
        go_wp2
        go_returns
        exact ⟨by rw [← hB.out, this.out]; rfl, bel2 _⟩
    · obtain rfl : k = l.length := by omega
      have hnx := fun ty => run_next_end (P := Try.prog) w (str l) l.length ty (by rw [str_size]; omega)
      have hN : Hid (nm l = true) := nm_all hd.out hall
      clear hall
      go_wp2
      go_returns
      exact ⟨by rw [← hB.out, hN.out]; rfl, hbel⟩
theorem check_any (l : List UInt8) (w : World) : Calls Try.prog 21 #[.string (str l)] w fun e w' => e = .returned (.int .i64 (nE l)) ∧ Below w.heap.size w w' := by
  have H := isName_any l
  unfold nE
  generalize nm l = B at *
  cases B with
  | true =>
    rw [if_pos rfl]
    go_enter Try.func21, Try.ntmps21
    go_wp2_with (go_at_call 28; refine (H _).mono ?_; rintro e u ⟨rfl, b⟩)
    go_returns
    exact ⟨rfl, b⟩
  | false =>
    rw [if_neg (by decide)]
    go_enter Try.func21, Try.ntmps21
    go_wp2_with (go_at_call 28; refine (H _).mono ?_; rintro e u ⟨rfl, b⟩)
    go_returns
    exact ⟨rfl, b⟩
set_option maxRecDepth 100000 in
theorem rcheck_any (l : List UInt8) (w : World) : Calls Try.prog 23 #[.string (str l)] w fun e w' => e = .returned (.int .i64 (nE l)) ∧ w = w' := by
  have hz := str_size l
  have ht := str_list l
  have no : nm l = false → nE l = 45 := fun h => by unfold nE; rw [h]; rfl
  have yes : nm l = true → nE l = 0 := fun h => by unfold nE; rw [if_pos h]
  by_cases h1 : (l.length : Int) < 1
  · rw [no (nm_hd (fun h => by have := h.1; omega))]
    clear no yes
    go_enter Try.func23, Try.ntmps23
    go_wp2
    go_returns
    exact ⟨rfl, rfl⟩
  by_cases h2 : 10 < (l.length : Int)
  · rw [no (nm_hd (fun h => by have := h.2.1; omega))]
    clear no yes
    go_enter Try.func23, Try.ntmps23
    go_wp2
    go_returns
    exact ⟨rfl, rfl⟩
  by_cases h3 : l = [46]
  · rw [no (nm_hd (fun h => h.2.2.1 h3))]
    clear no yes
    subst h3
    go_enter Try.func23, Try.ntmps23
    go_wp2
    go_returns
    exact ⟨rfl, rfl⟩
  by_cases h4 : l = [46, 46]
  · rw [no (nm_hd (fun h => h.2.2.2 h4))]
    clear no yes
    subst h4
    go_enter Try.func23, Try.ntmps23
    go_wp2
    go_returns
    exact ⟨rfl, rfl⟩
  have hd : Hid (hdOk l) := ⟨by omega, by omega, h3, h4⟩
  have e3 := beq_no h3
  have e4 := beq_no h4
  have hB0 : ∀ k, k < l.length → ¬ okB (l.getD k 0) → Hid (nE l = 45) := fun k hk h => no (nm_bad k hk h)
  have hB1 : (∀ k, k < l.length → okB (l.getD k 0)) → Hid (nE l = 0) := fun h => yes (nm_all hd.out h)
  clear h3 h4 no yes
  obtain ⟨B, hB⟩ : ∃ B, Hid (nE l = B) := ⟨_, rfl⟩
  rw [hB.out]
  have hidx : ∀ (k : Nat) (h : k < (str l).size), (str l)[k]'h = l.getD k 0 := fun k h => str_get l k h
  go_enter Try.func23, Try.ntmps23
  go_wp2
  go_loopw [3] (fun iv wr => ∃ k : Nat, iv = .int .i64 k ∧ wr = w ∧ k ≤ l.length ∧ ∀ j, j < k → okB (l.getD j 0)) (fun iv _ => l.length - (intOf iv).toNat)
  case atStart => exact ⟨0, rfl, rfl, Nat.zero_le _, fun j hj => absurd hj (by omega)⟩
  case round =>
    obtain ⟨k, rfl, rfl, hk, hall⟩ := hrel
    by_cases hlt : k < l.length
    · have hlt' : (k : Int) < l.length := by omega
      have hA : Hid (∀ j, j < k → okB (l.getD j 0)) := hall
      clear hall
      have hbad := hB0 k hlt
      have hidk : ∀ h, (str l)[k]'h = l.getD k 0 := hidx k
      have hon : okB (l.getD k 0) → Hid (∀ j, j < k + 1 → okB (l.getD j 0)) := fun h j hj => by
        by_cases hj2 : j < k
        · exact hA.out j hj2
        · obtain rfl : j = k := by omega
          exact h
      clear hidx
      generalize l.getD k 0 = b at *
      by_cases g1 : (b.toNat : Int) < 33
      · have := hbad (fun h => by have := h.1; omega)
        go_wp2
        go_returns
        exact ⟨by rw [← hB.out, this.out]; rfl, rfl⟩
      by_cases g2 : 126 < (b.toNat : Int)
      · have := hbad (fun h => by have := h.2.1; omega)
        go_wp2
        go_returns
        exact ⟨by rw [← hB.out, this.out]; rfl, rfl⟩
      by_cases g3 : (b.toNat : Int) = 47
      · have := hbad (fun h => by have := h.2.2; omega)
        go_wp2
        go_returns
        exact ⟨by rw [← hB.out, this.out]; rfl, rfl⟩
      have ho := hon ⟨by omega, by omega, by omega⟩
      go_wp2
      go_roundw
      case rel => exact ⟨k + 1, by go_num, trivial, by omega, ho.out⟩
      case measure => simp [intOf]; omega
    · obtain rfl : k = l.length := by omega
      have hN := hB1 hall
      clear hall hB0 hB1
      go_wp2
      go_returns
      exact ⟨by rw [← hB.out, hN.out]; rfl, rfl⟩
end Go.Proofs.Ytadeocphkihamaa
