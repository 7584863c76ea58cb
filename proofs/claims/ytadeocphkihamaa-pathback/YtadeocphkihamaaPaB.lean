/-
  What few of the statements of layer 23, and the helpers' Split, return: no statement is proved here.
-/
import Derived.Test.YtadeocphkihamaaPaA
import Derived.Laws.Cover3
namespace Go.Proofs.Ytadeocphkihamaa
open Go.ChangeShapes Go.WideShapes Go.ChangeAt Go.RowKit
set_option linter.unusedVariables false
set_option linter.unusedSimpArgs false

theorem fewN_nil : fewN [] = [] := rfl
theorem fewN_snoc (L : List (List UInt8)) (k : Nat) (h : k < L.length) (h3 : k < 30) : fewN (L.take (k + 1)) = fewN (L.take k) ++ [(L.getD k []).take 40] := by
  have e1 : (L.take (k + 1)).take 30 = L.take (k + 1) := List.take_of_length_le (by simp; omega)
  have e2 : (L.take k).take 30 = L.take k := List.take_of_length_le (by simp; omega)
  unfold fewN
  rw [e1, e2, List.take_add_one, List.getElem?_eq_getElem h, List.map_append, List.getD_eq_getElem?_getD, List.getElem?_eq_getElem h]
  rfl
theorem fewN_end (L : List (List UInt8)) (k : Nat) (hk : k ≤ L.length) (h : L.length ≤ k ∨ 30 ≤ k) : fewN (L.take k) = fewN L := by
  have e : (L.take k).take 30 = L.take 30 := by
    rcases h with h | h
    · rw [List.take_of_length_le h]
    · rw [List.take_take, Nat.min_eq_left h]
  unfold fewN
  rw [e]
theorem take_min40 (y : List UInt8) : y.take (min y.length 40) = y.take 40 := by
  by_cases h : y.length ≤ 40
  · rw [Nat.min_eq_left h, List.take_length, List.take_of_length_le h]
  · rw [Nat.min_eq_right (by omega)]
set_option maxRecDepth 100000 in
set_option maxHeartbeats 2000000 in
theorem fewT_any {w : World} {a : Option Addr} {n c : Nat} {L : List (List UInt8)} (hs : Sts w a n c L) :
    Calls Try.prog 14 #[.slice a n c] w fun e w' => ∃ v, e = .returned v ∧ OwT w.heap.size w' v (fewN L) ∧ Below w.heap.size w w' := by
  have h1 := hs.len
  have ca := hs.cell
  subst h1
  clear hs
  go_enter Try.func14, Try.ntmps14
  go_wp2_with (first
    | (refine at_bs0T (B := w.heap.size) (by rfl) (by rfl) (Nat.le_refl _) ?_; intro g1 w1 o1 b1))
  go_loopw [3, 4] (fun ov iv wr => ∃ k : Nat, k ≤ L.length ∧ k ≤ 30 ∧ iv = .int .i64 (k : Int) ∧ OwT w.heap.size wr ov (fewN (L.take k)) ∧ Below w.heap.size w wr) (fun _ iv _ => 30 - (intOf iv).toNat)
  case atStart => exact ⟨0, Nat.zero_le _, by omega, rfl, o1, b1⟩
  case round =>
    obtain ⟨k, hk, hk3, rfl, hO, hB⟩ := hrel
    by_cases hlt : k < L.length
    · by_cases h30 : k < 30
      · obtain ⟨b2, o2, rfl, g2⟩ := ca (by omega)
        have ck : wr.cell? ⟨b2, o2 + k, none⟩ = some (.string (str (L.getD k []))) := (Stp.of_below hB (fun _ => False)).cell (g2 k hlt) id
        have hsn := fewN_snoc L k hlt h30
        have hle : (fewN (L.take k)).length ≤ 30 := fewN_len _
        clear g2 ca
        generalize L.getD k [] = y at *
        have hz := str_size y
        have hmm : min (y.length : Int) 40 = ((min y.length 40 : Nat) : Int) := by omega
        have hm : (if (40 : Int) < (y.length : Int) then (40 : Int) else (y.length : Int)) = ((min y.length 40 : Nat) : Int) := by split <;> omega
        have hcut := str_cut y (min y.length 40)
        rw [take_min40] at hcut
        have hm2 : ((min y.length 40 : Nat) : Int) ≤ (y.length : Int) := by omega
        generalize min y.length 40 = m at *
        have a9 : (k : Int) < (L.length : Int) := by omega
        have a8 : (k : Int) < 30 := by omega
        have a7 : (0 : Int) ≤ (m : Int) := by omega
        have hb := build_t (y.take 40)
        have hsn' : Hid (fewN (L.take (k + 1)) = fewN (L.take k) ++ [y.take 40]) := hsn
        have hle' : Hid ((fewN (L.take k)).length ≤ 30) := hle
        clear hsn hle
        go_wp2_with fail
        go_region_law (refine step_appT (l := fewN (L.take k)) (l2 := [y.take 40]) w.heap.size rfl (.tmp 16) (.tmp 28) rfl (by simp [Act.eval, Act.put]) (hO.later (by go_grown)) (some ⟨wr.heap.size, 0, none⟩) 1 1 (by simp [Act.eval, Act.put]) ((sts_new wr (y.take 40)).later (by go_grown)) (by have := hle'.out; omega) (by simp; have := hB.size; omega) ?_; intro v' w' o' s')
        all_goals (
          go_wp2
          go_roundw
          case rel => exact ⟨k + 1, by omega, by omega, by go_num, by rw [hsn'.out]; exact o', ((Stp.of_below (hB.alloc hB.size (.cells #[.string (str (y.take 40))] 9)).drew (fun x => w.heap.size ≤ x)).next s' (fun _ h => .inl h)).below (Nat.le_refl _) (fun _ h => h)⟩
          case measure => simp [intOf]; omega)
      · obtain rfl : k = 30 := by omega
        have e := fewN_end L 30 hk (.inr (Nat.le_refl _))
        have a9 : ((30 : Nat) : Int) < (L.length : Int) := by omega
        go_wp2
        go_returns
        exact ⟨_, rfl, by rw [← e]; exact hO, hB⟩
    · have hk' : k = L.length := by omega
      subst hk'
      have e := fewN_end L L.length hk (.inl (Nat.le_refl _))
      go_wp2
      go_returns
      exact ⟨_, rfl, by rw [← e]; exact hO, hB⟩
/-- How the parts go on at a slash, and at the end. -/
theorem prt_step (l : List UInt8) (f k : Nat) (hk : k < l.length) (hf : f ≤ k) (h : l.getD k 0 = 47) (hno : ∀ j, f ≤ j → j < k → l.getD j 0 ≠ 47) : prt (l.drop f) = (l.take k).drop f :: prt (l.drop (k + 1)) := by
  have e : l.drop f = (l.take k).drop f ++ 47 :: l.drop (k + 1) := by
    have e1 : l = l.take k ++ l.drop k := (List.take_append_drop k l).symm
    have e2 : l.drop k = l[k] :: l.drop (k + 1) := List.drop_eq_getElem_cons hk
    have e3 : l[k] = 47 := by rw [List.getD_eq_getElem?_getD, List.getElem?_eq_getElem hk] at h; exact h
    rw [e3] at e2
    have e4 : l.drop f = (l.take k ++ l.drop k).drop f := by rw [← e1]
    rw [e4, List.drop_append_of_le_length (by simp; omega), e2]
  rw [e]
  refine prt_app _ _ (fun b hb => ?_)
  obtain ⟨j, hj, rfl⟩ := List.getElem_of_mem hb
  simp at hj
  have := hno (f + j) (by omega) (by omega)
  rw [List.getD_eq_getElem?_getD, List.getElem?_eq_getElem (by omega)] at this
  simpa using this
theorem prt_rest (l : List UInt8) (f : Nat) (hno : ∀ j, f ≤ j → j < l.length → l.getD j 0 ≠ 47) : prt (l.drop f) = [l.drop f] := by
  refine prt_one _ (fun b hb => ?_)
  obtain ⟨j, hj, rfl⟩ := List.getElem_of_mem hb
  simp at hj
  have := hno (f + j) (by omega) (by omega)
  rw [List.getD_eq_getElem?_getD, List.getElem?_eq_getElem (by omega)] at this
  simpa using this
set_option maxRecDepth 100000 in
set_option maxHeartbeats 2000000 in
theorem bsplit_any (l : List UInt8) (w : World) (hl : l.length ≤ 5000) :
    Calls Try.prog 22 #[.string (str l), .int .u8 47] w fun e w' => ∃ v, e = .returned v ∧ OwT w.heap.size w' v (prt l) ∧ Below w.heap.size w w' := by
  have hz := str_size l
  have hsub := str_sub l
  have hidx : ∀ (k : Nat) (h : k < (str l).size), (str l)[k]'h = l.getD k 0 := fun k h => str_get l k h
  go_enter Try.func22, Try.ntmps22
  go_wp2_with (first
    | (refine at_bs0T (B := w.heap.size) (by rfl) (by rfl) (Nat.le_refl _) ?_; intro g1 w1 o1 b1))
  go_loopw [5, 6, 7] (fun ov fv iv wr => ∃ (f k : Nat) (D : List (List UInt8)), f ≤ k ∧ k ≤ l.length ∧ fv = .int .i64 (f : Int) ∧ iv = .int .i64 (k : Int) ∧ D.length ≤ k ∧ prt l = D ++ prt (l.drop f) ∧ (∀ j, f ≤ j → j < k → l.getD j 0 ≠ 47) ∧ OwT w.heap.size wr ov D ∧ Below w.heap.size w wr) (fun _ _ iv _ => l.length - (intOf iv).toNat)
  case atStart => exact ⟨0, 0, [], by omega, by omega, rfl, rfl, by simp, by simp, fun j _ h => absurd h (by omega), o1, b1⟩
  case round =>
    obtain ⟨f, k, D, hf, hk, rfl, rfl, hD, hp, hno, hO, hB⟩ := hrel
    have hP : Hid (prt l = D ++ prt (l.drop f)) := hp
    clear hp
    by_cases hlt : k < l.length
    · have hlt' : (k : Int) < l.length := by omega
      have hidk : ∀ h, (str l)[k]'h = l.getD k 0 := hidx k
      have hs := hsub f k
      have hstep := prt_step l f k hlt hf
      have hN : Hid (∀ j, f ≤ j → j < k → l.getD j 0 ≠ 47) := hno
      have hb0 : Hid (∀ b, b = l.getD k 0 → b ≠ 47 → ∀ j, f ≤ j → j < k + 1 → l.getD j 0 ≠ 47) := fun b hb hne j h1 h2 => by
        by_cases e : j < k
        · exact hN.out j h1 e
        · obtain rfl : j = k := by omega
          rw [← hb]; exact hne
      have hst : Hid (∀ b, b = l.getD k 0 → b = 47 → prt (l.drop f) = (l.take k).drop f :: prt (l.drop (k + 1))) := fun b hb e => hstep (by rw [← hb]; exact e) hN.out
      clear hno hstep hidx hsub
      have c1 : (f : Int) ≤ (k : Int) := by omega
      have c2 : (k : Int) ≤ (l.length : Int) := by omega
      have c0 : (0 : Int) ≤ (f : Int) := by omega
      obtain ⟨b, hb⟩ : ∃ b, Hid (b = l.getD k 0) := ⟨_, rfl⟩
      rw [← hb.out] at hidk
      by_cases g : (b.toNat : Int) = 47
      · have e47 : b = 47 := UInt8.toNat_inj.1 (show b.toNat = 47 by omega)
        have hnx : Hid (prt l = (D ++ [(l.take k).drop f]) ++ prt (l.drop (k + 1))) := by show _ = _; rw [hP.out, hst.out b hb.out e47]; simp
        clear hst hb0 hP
        generalize (l.take k).drop f = X at *
        go_wp2_with (first
          | (refine at_bsT (by rfl) _ (by rfl) X (by rfl) ?_; intro g2 w2 a2 o2 b2; have hO2 := hO.later b2; have hB2 := bnext hB b2 (Nat.le_refl _))
          | (refine at_appT w.heap.size rfl _ _ (by rfl) (by rfl) hO2 _ 1 1 (by rfl) o2 (by omega) hB2.size ?_; intro v3 w3 o3 s3))
        go_roundw
        case rel => exact ⟨k + 1, k + 1, D ++ [X], Nat.le_refl _, by omega, by go_num, by go_num, by simp; omega, hnx.out, fun j h1 h2 => absurd h2 (by omega), o3, ((Stp.of_below hB2 (fun x => w.heap.size ≤ x)).next s3 (fun _ h => .inl h)).below (Nat.le_refl _) (fun _ h => h)⟩
        case measure => simp [intOf]; omega
      · have ne47 : b ≠ 47 := fun e => g (by rw [e]; rfl)
        have hno2 := hb0.out b hb.out ne47
        have hN2 : Hid (∀ j, f ≤ j → j < k + 1 → l.getD j 0 ≠ 47) := hno2
        clear hno2 hb0 hst
        go_wp2
        go_roundw
        case rel => exact ⟨f, k + 1, D, by omega, by omega, by go_num, by go_num, by omega, hP.out, hN2.out, hO, hB⟩
        case measure => simp [intOf]; omega
    · have hk' : k = l.length := by omega
      subst hk'
      have hs := hsub f l.length
      rw [List.take_length] at hs
      have hnx : Hid (prt l = D ++ [l.drop f]) := by show _ = _; rw [hP.out, prt_rest l f hno]
      clear hP hno hidx hsub
      have c1 : (f : Int) ≤ (l.length : Int) := by omega
      have c0 : (0 : Int) ≤ (f : Int) := by omega
      generalize l.drop f = X at *
      go_wp2_with (first
        | (refine at_bsT (by rfl) _ (by rfl) X (by rfl) ?_; intro g2 w2 a2 o2 b2; have hO2 := hO.later b2; have hB2 := bnext hB b2 (Nat.le_refl _))
        | (refine at_appT w.heap.size rfl _ _ (by rfl) (by rfl) hO2 _ 1 1 (by rfl) o2 (by omega) hB2.size ?_; intro v3 w3 o3 s3))
      go_returns
      exact ⟨_, rfl, by rw [hnx.out]; exact o3, ((Stp.of_below hB2 (fun x => w.heap.size ≤ x)).next s3 (fun _ h => .inl h)).below (Nat.le_refl _) (fun _ h => h)⟩
end Go.Proofs.Ytadeocphkihamaa
